import Derived.Test.YtfbollifegngjaaVa
namespace Go.Proofs.Ytfbollifegngjaa.Dt
open Go.RowKit
set_option linter.unusedVariables false
set_option maxRecDepth 100000
set_option linter.unusedSimpArgs false
section
variable {D D' : De} {w w' W : World} {B m : Nat}
theorem wrap_id {a : Int} (h0 : -9223372036854775808 ≤ a) (h1 : a ≤ 9223372036854775807) : IntKind.i64.wrap a = a := by
  rw [IntKind.wrap_i64]; omega
theorem within_any (v lo hi : Int) : Calls Try.prog 25 #[.int .i64 v, .int .i64 lo, .int .i64 hi] w fun e w' => e = .returned (.bool (decide (lo ≤ v ∧ v ≤ hi))) ∧ w = w' := by
  go_enter Try.func25, Try.ntmps25
  go_wp2
  all_goals (go_ret; exact ⟨by simp; first | assumption | omega, rfl⟩)
def De.isB (D : De) (q : Int) : Bool := decide (0 ≤ q ∧ q < D.n)
theorem other_any (h : D.Ok w B m) (q : Int) : Calls Try.prog 24 #[.pointer (some ⟨D.b, 0, none⟩), .int .i64 q] w fun e w' => e = .returned (if 0 ≤ q ∧ q < D.n then optr D q.toNat else .pointer none) ∧ w = w' := by
  have c4 := h.c4
  have hn := h.n16
  have HW := within_any (w := w) q 0 (IntKind.i64.wrap ((D.n : Int) - 1))
  rw [show IntKind.i64.wrap ((D.n : Int) - 1) = (D.n : Int) - 1 from wrap_id (by omega) (by omega)] at HW
  by_cases hq : 0 ≤ q ∧ q < D.n
  · rw [decide_eq_true (by omega)] at HW
    obtain ⟨k, rfl⟩ : ∃ k : Nat, q = k := ⟨q.toNat, by omega⟩
    have cr := h.cr (q := k) (by omega)
    rw [if_pos hq, Int.toNat_natCast]
    generalize optr D k = v at *
    clear h
    go_enter Try.func24, Try.ntmps24
    go_wp2_with (first | (go_at_call 25; refine HW.mono ?_; rintro e w' ⟨rfl, rfl⟩) | fail)
    go_ret
    exact ⟨rfl, rfl⟩
  · rw [decide_eq_false (by omega)] at HW
    rw [if_neg hq]
    clear h
    go_enter Try.func24, Try.ntmps24
    go_wp2_with (first | (go_at_call 25; refine HW.mono ?_; rintro e w' ⟨rfl, rfl⟩) | fail)
    go_ret
    exact ⟨rfl, rfl⟩
theorem howLong_any (h : D.Ok w B m) {q : Nat} (hq : D.is q) : Calls Try.prog 73 #[.pointer (some ⟨D.bt q, 0, none⟩)] w fun e w' => e = .returned (.int .i64 (D.pe q).ticks) ∧ w = w' := by
  have c0 := (h.ct hq).1
  clear h
  go_enter Try.func73, Try.ntmps73
  go_wp2
  go_ret
  exact ⟨rfl, rfl⟩
theorem suspected_any (h : D.Ok w B m) {q : Nat} (hq : D.is q) : Calls Try.prog 54 #[.pointer (some ⟨D.bo q, 0, none⟩)] w fun e w' => e = .returned (.bool (!(D.pe q).heard && decide (0 < (D.pe q).known))) ∧ w = w' := by
  obtain ⟨_, c1, _, _, _, c5, _⟩ := h.co hq
  clear h
  generalize (D.pe q).heard = x at *
  generalize (D.pe q).known = y at *
  cases x
  all_goals
    go_enter Try.func54, Try.ntmps54
    go_wp2
    all_goals (go_ret; exact ⟨by simp, rfl⟩)
structure Dtep (w w' : World) (D D' : De) (B m : Nat) : Prop where
  ok : D'.Ok w' B m
  kept : Kept w w' D.own
  own : ∀ j, D'.own j ↔ D.own j
theorem Dtep.of (h : D.Ok w B m) : Dtep w w D D B m := ⟨h, Kept.refl _ _, fun _ => Iff.rfl⟩
theorem Dtep.trans {D1 D2 : De} {w1 w2 : World} (s : Dtep w w1 D D1 B m) (t : Dtep w1 w2 D1 D2 B m) : Dtep w w2 D D2 B m :=
  ⟨t.ok, s.kept.step t.kept (fun j hj => .inl ((s.own j).1 hj)), fun j => (t.own j).trans (s.own j)⟩
theorem Dtep.pre {w1 : World} (hb : Below w.heap.size w w1) (t : Dtep w1 w' D D' B m) : Dtep w w' D D' B m :=
  ⟨t.ok, (Kept.ofBelow hb _).trans t.kept, t.own⟩
theorem Dtep.post {w2 : World} (s : Dtep w w' D D' B m) (hb : Below w'.heap.size w' w2) : Dtep w w2 D D' B m :=
  ⟨s.ok.still hb, s.kept.trans (Kept.ofBelow hb _), s.own⟩
theorem Dtep.put {q : Nat} (h : D.Ok w B m) (hq : D.is q) (P : Pe) (k : Kept w w' (fun j => j = D.bo q ∨ j = D.bt q)) (ho : w'.heap[D.bo q]? = some (.cells (ocs (D.bt q) P) 74 (0, 0))) (ht : w'.heap[D.bt q]? = some (.cells #[.int .i64 P.ticks, .int .i64 D.step, .int .i64 D.limit] 91 (0, 0))) (hP : P.In D.limit m) : Dtep w w' D (D.set q P) B m :=
  ⟨h.put hq P k ho ht hP, k.mono (fun j _ hj => .inr (.inr ⟨q, hq, hj⟩)), fun j => Iff.rfl⟩
theorem De.Ok.ot (h : D.Ok w B m) {p q : Nat} (hp : D.is p) (hq : D.is q) : D.bo p ≠ D.bt q := ty_ne (h.oth p hp) (h.ris q hq) (by decide)
def Pe.grown (p : Pe) (D : De) : Pe := { p with ticks := min D.limit (p.ticks + D.step) }
set_option maxHeartbeats 1000000 in
theorem grow_any (h : D.Ok w B m) {q : Nat} (hq : D.is q) : Calls Try.prog 72 #[.pointer (some ⟨D.bt q, 0, none⟩)] w fun e w' => e = .returned (.tuple #[]) ∧ Dtep w w' D (D.set q ((D.pe q).grown D)) B m := by
  obtain ⟨c0, c1, c2⟩ := h.ct hq
  have f0 := h.ft hq 0
  have hn := h.num
  have hr := h.rng q hq
  have hs : Hid (∀ w1, Below w.heap.size w w1 → Dtep w (w1.setCell ⟨D.bt q, 0, none⟩ (.int .i64 (min D.limit ((D.pe q).ticks + D.step)))) D (D.set q ((D.pe q).grown D)) B m) := fun w1 hb => by
    refine Dtep.pre hb (Dtep.put (h.still hb) hq _ ((kset (P := fun j => j = D.bt q) _ _ _ _ rfl).mono (fun _ _ e => .inr e)) (blk_set_ne ((h.still hb).oth q hq) (h.ot hq hq)) (blk_set ((h.still hb).ris q hq) (by rfl)) ?_)
    · obtain ⟨r1, r2, r3, r4, r5, r6⟩ := hr
      have e1 : (D.pe q).ticks ≤ min D.limit ((D.pe q).ticks + D.step) := by omega
      have e2 : min D.limit ((D.pe q).ticks + D.step) ≤ D.limit := by omega
      exact ⟨r1, r2, r3, r4, ⟨by show 1 ≤ min D.limit ((D.pe q).ticks + D.step); omega, e2⟩, fun hh => ⟨by show (D.pe q).age ≤ min D.limit ((D.pe q).ticks + D.step); have := (r6 hh).1; omega, (r6 hh).2⟩⟩
  have hw : IntKind.i64.wrap ((D.pe q).ticks + D.step) = (D.pe q).ticks + D.step := by have := hr.ticks; exact wrap_id (by omega) (by omega)
  clear h hr
  generalize (D.pe q).ticks = x at *
  go_enter Try.func72, Try.ntmps72
  go_wp2
  go_region_law (fail)
  all_goals (go_wp2; all_goals (go_end0; refine ⟨rfl, ?_⟩; have e := hs.out _ (Below.refl _ w); first | (rw [show min D.limit (x + D.step) = x + D.step by omega] at e; exact e.post (Below.refl _ _).drew) | (rw [show min D.limit (x + D.step) = D.limit by omega] at e; exact e.post (Below.refl _ _).drew)))
def Pe.older (p : Pe) : Pe := { p with age := p.age + 1, heard := decide (p.age + 1 ≤ p.ticks) }
set_option maxHeartbeats 1000000 in
theorem growOlder_any (h : D.Ok w B m) {q : Nat} (hq : D.is q) (hh : (D.pe q).heard = true) : Calls Try.prog 22 #[.pointer (some ⟨D.bo q, 0, none⟩)] w fun e w' => e = .returned (.tuple #[]) ∧ Dtep w w' D (D.set q (D.pe q).older) B m := by
  have hn := h.num
  have hr := h.rng q hq
  obtain ⟨c0, _, _, c3, _, _, _⟩ := h.co hq
  have f3 := h.fo hq 3
  generalize hW : w.setCell ⟨D.bo q, 3, none⟩ (.int .i64 ((D.pe q).age + 1)) = W
  have k1 : Kept w W (fun j => j = D.bo q) := by rw [← hW]; exact kset _ _ _ _ rfl
  have b1 : W.heap[D.bo q]? = some (.cells (ocs (D.bt q) { D.pe q with age := (D.pe q).age + 1 }) 74 (0, 0)) := by
    rw [← hW]; exact blk_set (h.oth q hq) (by rfl)
  have b2 : W.heap[D.bt q]? = some (.cells #[.int .i64 (D.pe q).ticks, .int .i64 D.step, .int .i64 D.limit] 91 (0, 0)) := k1.obj (h.ris q hq) (fun e => h.ot hq hq e.symm)
  have HL : Hid (∀ w', Below W.heap.size W w' → Calls Try.prog 73 #[.pointer (some ⟨D.bt q, 0, none⟩)] w' fun e w2 => e = .returned (.int .i64 (D.pe q).ticks) ∧ w' = w2) := fun w' hb => by
    have b3 := (hb.block _ (lt_heap b2)).trans b2
    have c0 := blk_cell b3 0
    clear hW
    go_enter Try.func73, Try.ntmps73
    go_wp2
    go_ret
    exact ⟨rfl, rfl⟩
  have hs : Hid (∀ w1 w2, Below W.heap.size W w1 → Below (w1.setCell ⟨D.bo q, 5, none⟩ (.bool (decide ((D.pe q).age + 1 ≤ (D.pe q).ticks)))).heap.size (w1.setCell ⟨D.bo q, 5, none⟩ (.bool (decide ((D.pe q).age + 1 ≤ (D.pe q).ticks)))) w2 → Dtep w w2 D (D.set q (D.pe q).older) B m) := fun w1 w2 hb hb2 => by
    refine Dtep.post (w' := w1.setCell ⟨D.bo q, 5, none⟩ (.bool (decide ((D.pe q).age + 1 ≤ (D.pe q).ticks)))) ?_ hb2
    have b3 := (hb.block _ (lt_heap b1)).trans b1
    have b4 := (hb.block _ (lt_heap b2)).trans b2
    refine Dtep.put h hq _ (((k1.trans (Kept.ofBelow hb _)).trans (kset (P := fun j => j = D.bo q) _ _ _ _ rfl)).mono (fun _ _ e => .inl e)) (blk_set b3 (by rfl)) (blk_set_ne b4 (fun e => h.ot hq hq e.symm)) ?_
    · obtain ⟨r1, r2, r3, r4, r5, r6⟩ := hr
      have := (r6 hh).1
      exact ⟨r1, r2, ⟨by show 0 ≤ (D.pe q).age + 1; omega, by show (D.pe q).age + 1 ≤ 65; omega⟩, r4, r5, fun e => ⟨of_decide_eq_true e, (r6 hh).2⟩⟩
  have d0 := blk_cell b1 0
  have d3 := blk_cell b1 3
  have d5 := blk_cell b1 5
  have g5 := frozen_of_row W _ 5 _ _ b1
  have hw : IntKind.i64.wrap ((D.pe q).age + 1) = (D.pe q).age + 1 := by have := hr.age; exact wrap_id (by omega) (by omega)
  have hm : ∀ w, (method 219 89 (.pointer (some ⟨D.bt q, 0, none⟩)) "quorate/detect.howLong").run Try.prog w = .ok (73, .pointer (some ⟨D.bt q, 0, none⟩)) w := fun _ => by kernel_rfl
  simp only [ocs] at d0 d3 d5
  clear h hr b1 b2 k1
  generalize (D.pe q).age = x at *
  generalize (D.pe q).ticks = y at *
  go_enter Try.func22, Try.ntmps22
  go_wp2
  go_region_law (first | (go_simp; go_at_call 73; refine (HL.out _ (by repeat (first | exact Below.refl _ _ | apply Below.drew))).mono ?_; rintro e w2 ⟨rfl, rfl⟩) | fail)
  all_goals (go_wp2; go_end0; exact ⟨rfl, hs.out _ _ (Below.refl _ _) (Below.refl _ _).drew⟩)
end
end Go.Proofs.Ytfbollifegngjaa.Dt
