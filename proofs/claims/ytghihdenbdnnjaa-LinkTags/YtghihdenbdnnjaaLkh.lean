import Derived.Test.YtghihdenbdnnjaaLkg
namespace Go.Proofs.Ytghihdenbdnnjaa.Ln
open Go.RowKit Mb
set_option linter.unusedVariables false
set_option maxRecDepth 100000
set_option linter.unusedSimpArgs false
structure En where
  b : Nat
  o : St
  sent : Nat
  i : St
  owed : Bool
structure Tg where
  e : Int
  l : Int
  i : Int
  c : Int
structure Mx where
  b : Nat
  br : Nat
  n : Nat
  self : Nat
  win : Nat
  room : Nat
  tag : Tg
  es : Nat → Option En
def En.cs (E : En) : Array Value := #[.int .i64 (E.o.p : Int), E.o.ring, .int .i64 (E.sent : Int), .int .i64 (E.i.p : Int), E.i.ring, .bool E.owed]
def En.own (E : En) (j : Nat) : Prop := j = E.b ∨ E.o.own j ∨ E.i.own j
def eptr : Option En → Value
  | some e => .pointer (some ⟨e.b, 0, none⟩)
  | none => .pointer none
def Tg.vs (t : Tg) : List Value := [.int .i64 t.e, .int .i64 t.l, .int .i64 t.i, .int .i64 t.c]
def Mx.cs (M : Mx) : Array Value := #[.int .i64 (M.self : Int), .int .i64 (M.win : Int), .int .i64 (M.room : Int), .int .i64 M.tag.e, .int .i64 M.tag.l, .int .i64 M.tag.i, .int .i64 M.tag.c, .slice (some ⟨M.br, 0, none⟩) M.n M.n]
def Mx.own (M : Mx) (j : Nat) : Prop := j = M.b ∨ j = M.br ∨ ∃ q e, M.es q = some e ∧ e.own j
def Mx.at (M : Mx) (q : Int) : Option En := if 0 ≤ q ∧ q < (M.n : Int) then M.es q.toNat else none
def Mx.put (M : Mx) (q : Nat) (e : En) : Mx := { M with es := upd M.es q (some e) }
structure Ep where
  op : Nat
  sent : Nat
  ob : Nat → Option (List Int)
  ip : Nat
  ib : Nat → Option (List Int)
  owed : Bool
def En.pu (E : En) : Ep := ⟨E.o.p, E.sent, fun n => (E.o.f n).map Bd.bs, E.i.p, fun n => (E.i.f n).map Bd.bs, E.owed⟩
section
variable {w w' W : World} {B win room : Nat} {S S' : St} {E E' : En} {M M' : Mx}
structure En.Ok (E : En) (w : World) (B win room : Nat) : Prop where
  blk : w.heap[E.b]? = some (.cells E.cs 82 (0, 0))
  lo : B ≤ E.b
  oo : E.o.Ok w B
  ii : E.i.Ok w B
  ap : ∀ j, E.o.own j → E.i.own j → False
  s1 : E.o.p ≤ E.sent
  s2 : E.sent ≤ E.o.p + room
  s62 : E.sent ≤ 4611686018427387904
  all : ∀ n, E.o.p < n → n ≤ E.sent → (E.o.f n).isSome = true
  top : ∀ n b, E.o.f n = some b → n ≤ E.sent
  iw : ∀ n b, E.i.f n = some b → n ≤ E.i.p + win ∧ n ≤ 4611686018427387904
  i1 : E.i.f (E.i.p + 1) = none
structure Mx.Ok (M : Mx) (w : World) (B : Nat) : Prop where
  blk : w.heap[M.b]? = some (.cells M.cs 77 (0, 0))
  row : Fb w M.br 71 M.n (fun q => eptr (M.es q))
  el : ∀ q e, M.es q = some e → e.Ok w B M.win M.room
  ap : ∀ p q e f, p ≠ q → M.es p = some e → M.es q = some f → ∀ j, e.own j → f.own j → False
  far : ∀ q, M.n ≤ q → M.es q = none
  n1 : 1 ≤ M.n ∧ M.n ≤ 16 ∧ M.self < M.n
  w1 : 1 ≤ M.win ∧ M.win ≤ M.room ∧ M.room ≤ 20000
  lo : B ≤ M.b ∧ B ≤ M.br
theorem En.Ok.lt (h : E.Ok w B win room) {j : Nat} (hj : E.own j) : j < w.heap.size := by
  rcases hj with rfl | hj | hj
  · exact lt_heap h.blk
  · exact h.oo.lt hj
  · exact h.ii.lt hj
theorem En.Ok.loj (h : E.Ok w B win room) {j : Nat} (hj : E.own j) : B ≤ j := by
  rcases hj with rfl | hj | hj
  · exact h.lo
  · exact h.oo.lo hj
  · exact h.ii.lo hj
theorem En.Ok.keep {P : Nat → Prop} (h : E.Ok w B win room) (k : Kept w w' P) (hp : ∀ j, E.own j → ¬ P j) : E.Ok w' B win room :=
  { h with blk := k.obj h.blk (hp _ (.inl rfl)), oo := h.oo.keep k fun j hj => hp j (.inr (.inl hj)), ii := h.ii.keep k fun j hj => hp j (.inr (.inr hj)) }
theorem En.Ok.still (h : E.Ok w B win room) (hb : Below w.heap.size w w') : E.Ok w' B win room := h.keep (Kept.ofBelow hb (fun _ => False)) fun _ _ => id
theorem En.Ok.ne_o (h : E.Ok w B win room) : ¬ E.o.own E.b := h.oo.ne_t h.blk (by decide) (by decide)
theorem En.Ok.ne_i (h : E.Ok w B win room) : ¬ E.i.own E.b := h.ii.ne_t h.blk (by decide) (by decide)
theorem En.Ok.c (h : E.Ok w B win room) (i : Nat) {v : Value} (e : E.cs[i]? = some v) : w.cell? ⟨E.b, i, none⟩ = some v := (blk_cell h.blk i).trans e
theorem En.Ok.ne_t (h : E.Ok w B win room) {eb t : Nat} {cs : Array Value} (hE : w.heap[eb]? = some (.cells cs t (0, 0))) (h1 : t ≠ 91) (h2 : t ≠ 5) (h3 : t ≠ 82) : ¬ E.own eb := by
  rintro (rfl | hj | hj)
  · exact blk_ne h.blk hE (fun e => h3 e.symm) rfl
  · exact h.oo.ne_t hE h1 h2 hj
  · exact h.ii.ne_t hE h1 h2 hj
theorem Mx.Ok.lt (h : M.Ok w B) {j : Nat} (hj : M.own j) : j < w.heap.size := by
  rcases hj with rfl | rfl | ⟨q, e, he, hj⟩
  · exact lt_heap h.blk
  · exact h.row.lt
  · exact (h.el q e he).lt hj
theorem Mx.Ok.loj (h : M.Ok w B) {j : Nat} (hj : M.own j) : B ≤ j := by
  rcases hj with rfl | rfl | ⟨q, e, he, hj⟩
  · exact h.lo.1
  · exact h.lo.2
  · exact (h.el q e he).loj hj
theorem Mx.Ok.keep {P : Nat → Prop} (h : M.Ok w B) (k : Kept w w' P) (hp : ∀ j, M.own j → ¬ P j) : M.Ok w' B :=
  { h with blk := k.obj h.blk (hp _ (.inl rfl)), row := h.row.keep k (hp _ (.inr (.inl rfl))), el := fun q e he => (h.el q e he).keep k fun j hj => hp j (.inr (.inr ⟨q, e, he, hj⟩)) }
theorem Mx.Ok.still (h : M.Ok w B) (hb : Below w.heap.size w w') : M.Ok w' B := h.keep (Kept.ofBelow hb (fun _ => False)) fun _ _ => id
theorem Mx.Ok.c (h : M.Ok w B) (i : Nat) {v : Value} (e : M.cs[i]? = some v) : w.cell? ⟨M.b, i, none⟩ = some v := (blk_cell h.blk i).trans e
theorem Mx.Ok.ne_e (h : M.Ok w B) {q : Nat} {e : En} (he : M.es q = some e) : ¬ e.own M.b ∧ ¬ e.own M.br := by
  obtain ⟨C, h1, _⟩ := h.row
  exact ⟨(h.el q e he).ne_t h.blk (by decide) (by decide) (by decide), (h.el q e he).ne_t h1 (by decide) (by decide) (by decide)⟩
structure Mstep (w w' : World) (M M' : Mx) (B : Nat) : Prop where
  ok : M'.Ok w' B
  kept : Kept w w' M.own
  own : ∀ j, M'.own j → M.own j ∨ w.heap.size ≤ j
theorem Mstep.refl (h : M.Ok w B) : Mstep w w M M B := ⟨h, Kept.refl _ _, fun _ h => .inl h⟩
theorem Mstep.below (h : M.Ok w B) (hb : Below w.heap.size w w') : Mstep w w' M M B := ⟨h.still hb, Kept.ofBelow hb _, fun _ h => .inl h⟩
theorem Mstep.trans {w2 : World} {M2 : Mx} (s : Mstep w w' M M' B) (t : Mstep w' w2 M' M2 B) : Mstep w w2 M M2 B :=
  ⟨t.ok, s.kept.step t.kept s.own, fun j hj => (t.own j hj).elim (s.own j) (fun hh => .inr (Nat.le_trans s.kept.size hh))⟩
theorem Mx.Ok.put (h : M.Ok w B) {q : Nat} {e e' : En} (hq : M.es q = some e) (hb : e'.b = e.b) (hok : e'.Ok w' B M.win M.room) (k : Kept w w' e.own) (hn : ∀ j, e'.own j → e.own j ∨ w.heap.size ≤ j) : Mstep w w' M (M.put q e') B := by
  have hqn : q < M.n := by
    rcases Nat.lt_or_ge q M.n with h1 | h1
    · exact h1
    · rw [h.far q h1] at hq; cases hq
  have hne := h.ne_e hq
  refine ⟨⟨k.obj h.blk hne.1, (h.row.keep k hne.2).congr fun p hp => ?_, fun p f hf => ?_, fun p r f g hpr hf hg j hj hk => ?_, fun p hp => ?_, h.n1, h.w1, h.lo⟩, ?_, ?_⟩
  · show eptr (M.es p) = eptr (upd M.es q (some e') p)
    by_cases e1 : p = q
    · subst e1; rw [upd_same, hq]; simp [eptr, hb]
    · rw [upd_ne _ _ e1]
  · by_cases e1 : p = q
    · subst e1; simp only [Mx.put, upd_same, Option.some.injEq] at hf; subst hf; exact hok
    · simp only [Mx.put, upd_ne _ _ e1] at hf
      exact (h.el p f hf).keep k fun j hj hj2 => h.ap p q f e e1 hf hq j hj hj2
  · by_cases e1 : p = q
    · subst e1
      simp only [Mx.put, upd_same, Option.some.injEq, upd_ne _ _ (Ne.symm hpr)] at hf hg
      subst hf
      rcases hn j hj with h1 | h1
      · exact h.ap p r e g hpr hq hg j h1 hk
      · have := (h.el r g hg).lt hk; omega
    · by_cases e2 : r = q
      · subst e2
        simp only [Mx.put, upd_same, Option.some.injEq, upd_ne _ _ e1] at hf hg
        subst hg
        rcases hn j hk with h1 | h1
        · exact h.ap p r f e hpr hf hq j hj h1
        · have := (h.el p f hf).lt hj; omega
      · simp only [Mx.put, upd_ne _ _ e1, upd_ne _ _ e2] at hf hg
        exact h.ap p r f g hpr hf hg j hj hk
  · have hp' : M.n ≤ p := hp
    simp only [Mx.put, upd_ne _ _ (show p ≠ q by omega)]
    exact h.far p hp'
  · exact k.mono fun j _ hj => .inr (.inr ⟨q, e, hq, hj⟩)
  · rintro j (rfl | rfl | ⟨p, f, hf, hj⟩)
    · exact .inl (.inl rfl)
    · exact .inl (.inr (.inl rfl))
    · by_cases e1 : p = q
      · subst e1
        simp only [Mx.put, upd_same, Option.some.injEq] at hf
        subst hf
        exact (hn j hj).imp (fun h1 => .inr (.inr ⟨p, e, hq, h1⟩)) id
      · simp only [Mx.put, upd_ne _ _ e1] at hf
        exact .inl (.inr (.inr ⟨p, f, hf, hj⟩))
theorem at_some (h : M.Ok w B) {q : Nat} {e : En} (hq : M.es q = some e) : M.at (q : Int) = some e := by
  have hqn : q < M.n := by
    rcases Nat.lt_or_ge q M.n with h1 | h1
    · exact h1
    · rw [h.far q h1] at hq; cases hq
  unfold Mx.at
  rw [if_pos (by omega), Int.toNat_natCast, hq]
theorem at_es {q : Int} {e : En} (hq : M.at q = some e) : ∃ k : Nat, q = (k : Int) ∧ k < M.n ∧ M.es k = some e := by
  unfold Mx.at at hq
  by_cases h1 : 0 ≤ q ∧ q < (M.n : Int)
  · rw [if_pos h1] at hq
    exact ⟨q.toNat, by omega, by omega, hq⟩
  · rw [if_neg h1] at hq; cases hq
set_option maxHeartbeats 400000 in
theorem peer_any (h : M.Ok w B) (q : Int) : Calls Try.prog 35 #[.pointer (some ⟨M.b, 0, none⟩), .int .i64 q] w fun e w' => e = .returned (eptr (M.at q)) ∧ w = w' := by
  have c7 : w.cell? ⟨M.b, 7, none⟩ = some (.slice (some ⟨M.br, 0, none⟩) M.n M.n) := h.c 7 rfl
  have hn := h.n1
  have HW : Hid (Calls Try.prog 36 #[.int .i64 q, .int .i64 0, .int .i64 ((M.n : Int) - 1)] w fun e w' => e = .returned (.bool (inR 0 ((M.n : Int) - 1) q)) ∧ w = w') := within_any q 0 _
  by_cases hq : 0 ≤ q ∧ q < (M.n : Int)
  · rw [inR_t hq.1 (by omega)] at HW
    obtain ⟨k, rfl⟩ : ∃ k : Nat, q = k := ⟨q.toNat, by omega⟩
    have cr : w.cell? ⟨M.br, k, none⟩ = some (eptr (M.es k)) := h.row.cell k (by omega)
    have e1 : M.at (k : Int) = M.es k := by unfold Mx.at; rw [if_pos hq, Int.toNat_natCast]
    rw [e1]
    obtain ⟨pv, hpv⟩ : ∃ pv, eptr (M.es k) = .pointer pv := by cases M.es k <;> exact ⟨_, rfl⟩
    rw [hpv] at cr ⊢
    clear h e1 hpv
    have i1 : (0 : Int) ≤ (k : Int) := hq.1
    have i2 : (k : Int) < (M.n : Int) := hq.2
    clear hq
    go_enter Try.func35, Try.ntmps35
    go_wp2_with (first | (go_at_call 36; refine HW.out.mono ?_; rintro e w' ⟨rfl, rfl⟩) | fail)
    go_ret
    exact ⟨rfl, rfl⟩
  · rw [inR_f (by omega)] at HW
    have e1 : M.at q = none := by unfold Mx.at; rw [if_neg hq]
    rw [e1]
    clear h e1 hq
    go_enter Try.func35, Try.ntmps35
    go_wp2_with (first | (go_at_call 36; refine HW.out.mono ?_; rintro e w' ⟨rfl, rfl⟩) | fail)
    go_ret
    exact ⟨rfl, rfl⟩
set_option maxHeartbeats 400000 in
theorem waiting_any (h : E.Ok w B win room) : Calls Try.prog 43 #[.pointer (some ⟨E.b, 0, none⟩)] w fun e w' => e = .returned (.int .i64 ((E.sent : Int) - (E.o.p : Int))) ∧ Below w.heap.size w w' := by
  have c0 : w.cell? ⟨E.b, 0, none⟩ = some (.int .i64 (E.o.p : Int)) := h.c 0 rfl
  have c2 : w.cell? ⟨E.b, 2, none⟩ = some (.int .i64 (E.sent : Int)) := h.c 2 rfl
  have h1 := h.s1
  have h2 := h.s62
  clear h
  go_enter Try.func43, Try.ntmps43
  go_wp2
  go_quiet (fail)
  all_goals (go_wp2; go_ret; exact ⟨rfl, by repeat (first | exact Below.refl _ _ | apply below_drewN | apply Below.drew)⟩)
set_option maxHeartbeats 400000 in
theorem got_no (h : M.Ok w B) {q : Int} (hq : M.at q = none) : Calls Try.prog 20 #[.pointer (some ⟨M.b, 0, none⟩), .int .i64 q] w fun e w' => e = .returned (.int .i64 0) ∧ w = w' := by
  have HP : Hid (Calls Try.prog 35 #[.pointer (some ⟨M.b, 0, none⟩), .int .i64 q] w fun e w' => e = .returned (.pointer none) ∧ w = w') := (show Calls _ _ _ _ _ from by have := peer_any h q; rw [hq] at this; exact this)
  clear h hq
  go_enter Try.func20, Try.ntmps20
  go_wp2_with (first | (go_at_call 35; refine HP.out.mono ?_; rintro e w' ⟨rfl, rfl⟩) | fail)
  go_ret
  exact ⟨rfl, rfl⟩
set_option maxHeartbeats 400000 in
theorem got_yes (h : M.Ok w B) {q : Int} (hq : M.at q = some E) : Calls Try.prog 20 #[.pointer (some ⟨M.b, 0, none⟩), .int .i64 q] w fun e w' => e = .returned (.int .i64 (E.i.p : Int)) ∧ w = w' := by
  have HP : Hid (Calls Try.prog 35 #[.pointer (some ⟨M.b, 0, none⟩), .int .i64 q] w fun e w' => e = .returned (.pointer (some ⟨E.b, 0, none⟩)) ∧ w = w') := (show Calls _ _ _ _ _ from by have := peer_any h q; rw [hq] at this; exact this)
  obtain ⟨k, rfl, hk, he⟩ := at_es hq
  have hE := h.el k E he
  have c0 : w.cell? ⟨E.b, 3, none⟩ = some (.int .i64 (E.i.p : Int)) := hE.c 3 rfl
  clear h hq hE
  go_enter Try.func20, Try.ntmps20
  go_wp2_with (first | (go_at_call 35; refine HP.out.mono ?_; rintro e w' ⟨rfl, rfl⟩) | fail)
  go_ret
  exact ⟨rfl, rfl⟩
set_option maxHeartbeats 400000 in
theorem sent_no (h : M.Ok w B) {q : Int} (hq : M.at q = none) : Calls Try.prog 23 #[.pointer (some ⟨M.b, 0, none⟩), .int .i64 q] w fun e w' => e = .returned (.int .i64 0) ∧ w = w' := by
  have HP : Hid (Calls Try.prog 35 #[.pointer (some ⟨M.b, 0, none⟩), .int .i64 q] w fun e w' => e = .returned (.pointer none) ∧ w = w') := (show Calls _ _ _ _ _ from by have := peer_any h q; rw [hq] at this; exact this)
  clear h hq
  go_enter Try.func23, Try.ntmps23
  go_wp2_with (first | (go_at_call 35; refine HP.out.mono ?_; rintro e w' ⟨rfl, rfl⟩) | fail)
  go_ret
  exact ⟨rfl, rfl⟩
set_option maxHeartbeats 400000 in
theorem sent_yes (h : M.Ok w B) {q : Int} (hq : M.at q = some E) : Calls Try.prog 23 #[.pointer (some ⟨M.b, 0, none⟩), .int .i64 q] w fun e w' => e = .returned (.int .i64 (E.sent : Int)) ∧ w = w' := by
  have HP : Hid (Calls Try.prog 35 #[.pointer (some ⟨M.b, 0, none⟩), .int .i64 q] w fun e w' => e = .returned (.pointer (some ⟨E.b, 0, none⟩)) ∧ w = w') := (show Calls _ _ _ _ _ from by have := peer_any h q; rw [hq] at this; exact this)
  obtain ⟨k, rfl, hk, he⟩ := at_es hq
  have hE := h.el k E he
  have c0 : w.cell? ⟨E.b, 2, none⟩ = some (.int .i64 (E.sent : Int)) := hE.c 2 rfl
  clear h hq hE
  go_enter Try.func23, Try.ntmps23
  go_wp2_with (first | (go_at_call 35; refine HP.out.mono ?_; rintro e w' ⟨rfl, rfl⟩) | fail)
  go_ret
  exact ⟨rfl, rfl⟩
set_option maxHeartbeats 400000 in
theorem wait_no (h : M.Ok w B) {q : Int} (hq : M.at q = none) : Calls Try.prog 27 #[.pointer (some ⟨M.b, 0, none⟩), .int .i64 q] w fun e w' => e = .returned (.int .i64 0) ∧ w = w' := by
  have HP : Hid (Calls Try.prog 35 #[.pointer (some ⟨M.b, 0, none⟩), .int .i64 q] w fun e w' => e = .returned (.pointer none) ∧ w = w') := (show Calls _ _ _ _ _ from by have := peer_any h q; rw [hq] at this; exact this)
  clear h hq
  go_enter Try.func27, Try.ntmps27
  go_wp2_with (first | (go_at_call 35; refine HP.out.mono ?_; rintro e w' ⟨rfl, rfl⟩) | fail)
  go_ret
  exact ⟨rfl, rfl⟩
set_option maxHeartbeats 400000 in
theorem wait_yes (h : M.Ok w B) {q : Int} (hq : M.at q = some E) : Calls Try.prog 27 #[.pointer (some ⟨M.b, 0, none⟩), .int .i64 q] w fun e w' => e = .returned (.int .i64 ((E.sent : Int) - (E.o.p : Int))) ∧ Below w.heap.size w w' := by
  have HP : Hid (Calls Try.prog 35 #[.pointer (some ⟨M.b, 0, none⟩), .int .i64 q] w fun e w' => e = .returned (.pointer (some ⟨E.b, 0, none⟩)) ∧ w = w') := (show Calls _ _ _ _ _ from by have := peer_any h q; rw [hq] at this; exact this)
  obtain ⟨k, rfl, hk, he⟩ := at_es hq
  have hE := h.el k E he
  have HW : Hid (Calls Try.prog 43 #[.pointer (some ⟨E.b, 0, none⟩)] w fun e w' => e = .returned (.int .i64 ((E.sent : Int) - (E.o.p : Int))) ∧ Below w.heap.size w w') := waiting_any hE
  clear h hq hE
  go_enter Try.func27, Try.ntmps27
  go_wp2_with (first | (go_at_call 35; refine HP.out.mono ?_; rintro e w' ⟨rfl, rfl⟩) | (go_at_call 43; refine HW.out.mono ?_; rintro e w2 ⟨rfl, hb2⟩) | fail)
  go_ret
  exact ⟨rfl, hb2⟩
set_option maxHeartbeats 400000 in
theorem room_no (h : M.Ok w B) {q : Int} (hq : M.at q = none) : Calls Try.prog 19 #[.pointer (some ⟨M.b, 0, none⟩), .int .i64 q] w fun e w' => e = .returned (.int .i64 0) ∧ w = w' := by
  have HP : Hid (Calls Try.prog 35 #[.pointer (some ⟨M.b, 0, none⟩), .int .i64 q] w fun e w' => e = .returned (.pointer none) ∧ w = w') := (show Calls _ _ _ _ _ from by have := peer_any h q; rw [hq] at this; exact this)
  clear h hq
  go_enter Try.func19, Try.ntmps19
  go_wp2_with (first | (go_at_call 35; refine HP.out.mono ?_; rintro e w' ⟨rfl, rfl⟩) | fail)
  go_ret
  exact ⟨rfl, rfl⟩
set_option maxHeartbeats 400000 in
theorem room_yes (h : M.Ok w B) {q : Int} (hq : M.at q = some E) : Calls Try.prog 19 #[.pointer (some ⟨M.b, 0, none⟩), .int .i64 q] w fun e w' => e = .returned (.int .i64 ((M.room : Int) - ((E.sent : Int) - (E.o.p : Int)))) ∧ Below w.heap.size w w' := by
  have HP : Hid (Calls Try.prog 35 #[.pointer (some ⟨M.b, 0, none⟩), .int .i64 q] w fun e w' => e = .returned (.pointer (some ⟨E.b, 0, none⟩)) ∧ w = w') := (show Calls _ _ _ _ _ from by have := peer_any h q; rw [hq] at this; exact this)
  obtain ⟨k, rfl, hk, he⟩ := at_es hq
  have hE := h.el k E he
  have HW : Hid (∀ w1, Below w.heap.size w w1 → Calls Try.prog 43 #[.pointer (some ⟨E.b, 0, none⟩)] w1 fun e w' => e = .returned (.int .i64 ((E.sent : Int) - (E.o.p : Int))) ∧ Below w1.heap.size w1 w') := fun w1 hb => waiting_any (hE.still hb)
  have c2 : w.cell? ⟨M.b, 2, none⟩ = some (.int .i64 (M.room : Int)) := h.c 2 rfl
  have h1 := hE.s1
  have h2 := hE.s2
  have h3 := h.w1
  have h4 := hE.s62
  clear h hq hE
  go_enter Try.func19, Try.ntmps19
  go_wp2_with (first | (go_at_call 35; refine HP.out.mono ?_; rintro e w' ⟨rfl, rfl⟩) | fail)
  refine wp_region_held_drew (S := (fun w' => w'.cell? ⟨M.b, 2, none⟩ = some (.int .i64 (M.room : Int)) ∧ Below w.heap.size w w')) (by kernel_rfl) ⟨below_at (Below.refl _ _).drew c2, (Below.refl _ _).drew⟩ (fun hHeld => ?_)
  simp only [Act.put, List.size_toArray, List.length_cons, List.length_nil, Nat.zero_add]
  refine wpAnyH_take (i := 0) (v := .pointer (some ⟨M.b, 0, none⟩)) rfl (by kernel_rfl) (by kernel_rfl) (by kernel_rfl) (fun _ _ _ h => h) (Or.inl ⟨by rfl, fun w' hS => by go_simp⟩) hHeld ?_
  simp only [Act.put, List.getElem_toArray, List.getElem_cons_zero, List.getElem_cons_succ, List.setIfInBounds_toArray, List.set_cons_zero, List.set_cons_succ]
  refine wpAnyH_take (i := 1) (v := .pointer (some ⟨M.b, 0, none⟩)) rfl (by kernel_rfl) (by kernel_rfl) (by kernel_rfl) (fun _ _ _ h => h) (Or.inl ⟨by rfl, fun w' hS => by go_simp⟩) hHeld ?_
  simp only [Act.put, List.getElem_toArray, List.getElem_cons_zero, List.getElem_cons_succ, List.setIfInBounds_toArray, List.set_cons_zero, List.set_cons_succ]
  refine wpAnyH_take (i := 2) (v := .pointer (some ⟨M.b, 2, none⟩)) rfl (by kernel_rfl) (by kernel_rfl) (by kernel_rfl) (fun _ _ _ h => h) (Or.inl ⟨by rfl, fun w' hS => by go_simp⟩) hHeld ?_
  simp only [Act.put, List.getElem_toArray, List.getElem_cons_zero, List.getElem_cons_succ, List.setIfInBounds_toArray, List.set_cons_zero, List.set_cons_succ]
  refine wpAnyH_take (i := 3) (v := .int .i64 (M.room : Int)) rfl (by kernel_rfl) (by kernel_rfl) (by kernel_rfl) (fun _ _ _ h => h) (Or.inl ⟨by rfl, fun w' hS => by (obtain ⟨s0, s1⟩ := hS; go_simp)⟩) hHeld ?_
  simp only [Act.put, List.getElem_toArray, List.getElem_cons_zero, List.getElem_cons_succ, List.setIfInBounds_toArray, List.set_cons_zero, List.set_cons_succ]
  refine wpAnyH_take (i := 4) (v := .pointer (some ⟨E.b, 0, none⟩)) rfl (by kernel_rfl) (by kernel_rfl) (by kernel_rfl) (fun _ _ _ h => h) (Or.inl ⟨by rfl, fun w' hS => by go_simp⟩) hHeld ?_
  simp only [Act.put, List.getElem_toArray, List.getElem_cons_zero, List.getElem_cons_succ, List.setIfInBounds_toArray, List.set_cons_zero, List.set_cons_succ]
  refine wpAnyH_ready (rs := [5]) (by kernel_rfl) (by simp) ?_
  refine AllReadyH.cons rfl (fun K hK => ?_) AllReadyH.nil
  go_simp
  refine (HW.out _ (Below.refl _ _).drew).mono ?_
  rintro e w2 ⟨rfl, hb2⟩
  refine hK.out _ _ ⟨below_at hb2 (below_at (Below.refl _ _).drew c2), (Below.trans (Below.refl _ _).drew (hb2.mono (by simp)))⟩ (fun hHeld => ?_)
  clear hK K
  refine wpAnyH_take (i := 6) (v := .int .i64 ((M.room : Int) - ((E.sent : Int) - (E.o.p : Int)))) rfl (by kernel_rfl) (by kernel_rfl) (by kernel_rfl) (fun _ _ _ h => h) (Or.inl ⟨by rfl, fun w' hS => by (go_simp; exact wrap_id (by omega) (by omega))⟩) hHeld ?_
  simp only [Act.put, List.getElem_toArray, List.getElem_cons_zero, List.getElem_cons_succ, List.setIfInBounds_toArray, List.set_cons_zero, List.set_cons_succ]
  refine wpAnyH_take (i := 7) (v := .int .i64 ((M.room : Int) - ((E.sent : Int) - (E.o.p : Int)))) rfl (by kernel_rfl) (by kernel_rfl) (by kernel_rfl) (fun _ _ _ h => h) (Or.inl ⟨by rfl, fun w' hS => by go_simp⟩) hHeld ?_
  simp only [Act.put, List.getElem_toArray, List.getElem_cons_zero, List.getElem_cons_succ, List.setIfInBounds_toArray, List.set_cons_zero, List.set_cons_succ]
  refine wpAnyH_done (by kernel_rfl) ?_ _
  clear hHeld
  go_wp2
  go_ret
  exact ⟨rfl, (Below.trans (Below.refl _ _).drew (hb2.mono (by simp)))⟩
end
end Go.Proofs.Ytghihdenbdnnjaa.Ln
