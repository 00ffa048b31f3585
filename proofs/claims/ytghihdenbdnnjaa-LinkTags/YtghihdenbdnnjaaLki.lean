import Derived.Test.YtghihdenbdnnjaaLkh
namespace Go.Proofs.Ytghihdenbdnnjaa.Ln
open Go.RowKit Mb
set_option linter.unusedVariables false
set_option maxRecDepth 100000
set_option linter.unusedSimpArgs false
section
variable {w w' W : World} {B win room : Nat} {S S' : St} {E E' : En} {M M' : Mx}
theorem part_i (xs : List Int) (i : Nat) (h : i < xs.length) : (part 3 (ints xs).toArray i).run Try.prog w = .ok (.int .i64 (xs.getD i 0)) w := by
  have hagg : (isAgg 3).run Try.prog w = .ok false w := by
    unfold isAgg
    rw [Sem.run_bind, run_underlying Try.underlying3 w]
    rfl
  unfold part
  simp only [Sem.run_bind, hagg, Result.andThen_ok, Bool.false_eq_true, if_false, List.getElem?_toArray, ints_at xs i h]
  rfl
def eqF (d : Nat) (xs ys : Array Value) : List (String × TypeId × Nat) → Sem Bool
  | [] => pure true
  | (n, t, o) :: fs =>
    if n ≠ "_" then do
      let a ← part t xs o
      let b ← part t ys o
      let r ← Op.equalIn d t a b
      if (!r) = true then pure false else eqF d xs ys fs
    else eqF d xs ys fs
theorem eqF_eq (d : Nat) (xs ys : Array Value) : ∀ fs : List Field, Op.eqFields d xs ys fs = eqF d xs ys (fs.map fun f => (f.name, f.type, f.offset))
  | [] => rfl
  | f :: fs => by simp only [Op.eqFields, List.map_cons, eqF, eqF_eq d xs ys fs]
theorem fields_id : (Try.prog.fieldsOf 24).toList.map (fun f => (f.name, f.type, f.offset)) = [("Epoch", 3, 0), ("Lead", 3, 1), ("Inc", 3, 2), ("Cid", 3, 3)] := by kernel_rfl
theorem under_id : Try.prog.underlying 24 = some (.struct (Try.prog.fieldsOf 24)) := by
  unfold Program.fieldsOf
  rw [Try.underlying24]
theorem stood_id : Try.prog.stoodInHeld 24 = false := by kernel_rfl
theorem guard_id : Try.prog.eqGuardType Try.prog.depth 24 = false := by kernel_rfl
theorem eq_id4 (d : Nat) (xs ys : List Int) (hx : xs.length = 4) (hy : ys.length = 4) : (Op.equalIn (d + 2) 24 (.agg (ints xs).toArray) (.agg (ints ys).toArray)).run Try.prog w = .ok (decide (xs = ys)) w := by
  rw [run_equalIn_struct w (d + 1) 24 _ _ under_id stood_id, eqF_eq, fields_id]
  simp only [eqF, ne_eq, reduceCtorEq, String.reduceEq, not_false_eq_true, if_true, Sem.run_bind, Sem.run_ite, Sem.run_pure, part_i xs 0 (by omega), part_i ys 0 (by omega), part_i xs 1 (by omega), part_i ys 1 (by omega), part_i xs 2 (by omega), part_i ys 2 (by omega), part_i xs 3 (by omega), part_i ys 3 (by omega), Result.andThen_ok, run_equalIn_int w d 3 .i64 .i64 _ _ Try.underlying3]
  have e : decide (xs = ys) = (xs.getD 0 0 == ys.getD 0 0 && xs.getD 1 0 == ys.getD 1 0 && xs.getD 2 0 == ys.getD 2 0 && xs.getD 3 0 == ys.getD 3 0) := by
    match xs, ys, hx, hy with
    | [a, b, c, d], [e, f, g, h], _, _ =>
      rw [Bool.eq_iff_iff]
      simp [and_assoc]
  rw [e]
  cases xs.getD 0 0 == ys.getD 0 0 <;> cases xs.getD 1 0 == ys.getD 1 0 <;> cases xs.getD 2 0 == ys.getD 2 0 <;> cases xs.getD 3 0 == ys.getD 3 0 <;> rfl
deriving instance DecidableEq for Tg
theorem eq_tag (s t : Tg) : (Op.equalIn 10000 24 (.agg s.vs.toArray) (.agg t.vs.toArray)).run Try.prog w = .ok (decide (s = t)) w := by
  have h := eq_id4 (w := w) 9998 [s.e, s.l, s.i, s.c] [t.e, t.l, t.i, t.c] rfl rfl
  have e : decide ([s.e, s.l, s.i, s.c] = [t.e, t.l, t.i, t.c]) = decide (s = t) := by
    obtain ⟨a1, a2, a3, a4⟩ := s
    obtain ⟨b1, b2, b3, b4⟩ := t
    rw [Bool.eq_iff_iff]
    simp
  rw [e] at h
  exact h
theorem arr_upd {cs cs' cs2 : Array Value} {k : Nat} {v : Value} (h1 : cs'[k]? = some v) (h2 : ∀ i, i ≠ k → cs'[i]? = cs[i]?) (h3 : cs2[k]? = some v) (h4 : ∀ i, i ≠ k → cs2[i]? = cs[i]?) : cs' = cs2 := by
  apply Array.ext_getElem?
  intro i
  by_cases e : i = k
  · rw [e, h1, h3]
  · rw [h2 i e, h4 i e]
def Ep.push (P : Ep) (bs : List Int) : Ep := { P with sent := P.sent + 1, ob := upd P.ob (P.sent + 1) (some bs) }
def Ep.acked (P : Ep) (u : Nat) : Ep := { P with op := max P.op u, ob := fun n => if n ≤ u then none else P.ob n }
def takeP (f : Nat → Option (List Int)) : Nat → Nat → List (List Int)
  | _, 0 => []
  | p, m + 1 => match f (p + 1) with
    | some b => b :: takeP f (p + 1) m
    | none => []
theorem takeN_P (f : Nat → Option Bd) : ∀ m p, (takeN f p m).map Bd.bs = takeP (fun n => (f n).map Bd.bs) p m
  | 0, p => rfl
  | m + 1, p => by
      cases e : f (p + 1) with
      | none => simp [takeN, takeP, e]
      | some b => simp [takeN, takeP, e, takeN_P f m (p + 1)]
def Ep.tookO (P : Ep) (n : Nat) (bs : List Int) (win : Nat) : List (List Int) := takeP (upd P.ib n (some bs)) P.ip win
def Ep.took (P : Ep) (n : Nat) (bs : List Int) (win : Nat) : Ep := { P with owed := true, ip := P.ip + (P.tookO n bs win).length, ib := fun m => if m ≤ P.ip + (P.tookO n bs win).length then none else upd P.ib n (some bs) m }
theorem map_upd (f : Nat → Option Bd) (n : Nat) (b : Bd) : (fun m => (upd f n (some b) m).map Bd.bs) = upd (fun m => (f m).map Bd.bs) n (some b.bs) := by
  funext m
  by_cases e : m = n
  · rw [e, upd_same, upd_same]; rfl
  · rw [upd_ne _ _ e, upd_ne _ _ e]
structure Estep (w w' : World) (B win room : Nat) (E E' : En) : Prop where
  b : E'.b = E.b
  ok : E'.Ok w' B win room
  kept : Kept w w' E.own
  own : ∀ j, E'.own j → E.own j ∨ w.heap.size ≤ j
theorem Estep.to {q : Nat} (h : M.Ok w B) (hq : M.es q = some E) (s : Estep w w' B M.win M.room E E') : Mstep w w' M (M.put q E') B := h.put hq s.b s.ok s.kept s.own
theorem ends_byte (E : En) (i : Nat) (x : Int) : E.cs[i]? ≠ some (.int .u8 x) := by
  rcases i with _ | _ | _ | _ | _ | _ | i
  · simp [En.cs]
  · simp [En.cs, St.ring]
  · simp [En.cs]
  · simp [En.cs]
  · simp [En.cs, St.ring]
  · simp [En.cs]
  · simp [En.cs]
theorem push_fin {w2 V' w3 w4 : World} {bs : List Int} (h : E.Ok w B win room) (hroom : room ≤ 20000) (hs : E.sent < E.o.p + room) (h62 : E.sent + 1 ≤ 4611686018427387904) (hB : B ≤ w.heap.size) (hb2 : Below w.heap.size w w2) (hV : Below (w2.setCell ⟨E.b, 2, none⟩ (.int .i64 ((E.sent : Int) + 1))).heap.size (w2.setCell ⟨E.b, 2, none⟩ (.int .i64 ((E.sent : Int) + 1))) V') (hb3 : Below V'.heap.size V' w3) (hl1 : 0 < bs.length) (hl2 : bs.length ≤ 300) (hby : By bs) (hbk : Bk w3 V'.heap.size bs) :
    ({ E with sent := E.sent + 1 } : En).cs[0]? = some (.int .i64 (E.o.p : Int)) ∧ E.o.Ok w3 B ∧ B ≤ w3.heap.size ∧ w3.heap[E.b]? = some (.cells ({ E with sent := E.sent + 1 } : En).cs 82 (0, 0)) ∧ Body w3 B ⟨V'.heap.size, bs⟩ ∧ ¬ E.o.own V'.heap.size ∧
    (PutO w3 w4 B E.o E.b 0 (E.sent + 1) ⟨V'.heap.size, bs⟩ ({ E with sent := E.sent + 1 } : En).cs → ∃ E', Estep w w4 B win room E E' ∧ E'.pu = E.pu.push bs) := by
  have h2 := h.still hb2
  have kV : Kept w2 (w2.setCell ⟨E.b, 2, none⟩ (.int .i64 ((E.sent : Int) + 1))) (fun j => j = E.b) := kset _ _ _ _ rfl
  have hsz : (w2.setCell ⟨E.b, 2, none⟩ (.int .i64 ((E.sent : Int) + 1))).heap.size = w2.heap.size := by simp
  have hbV : (w2.setCell ⟨E.b, 2, none⟩ (.int .i64 ((E.sent : Int) + 1))).heap[E.b]? = some (.cells ({ E with sent := E.sent + 1 } : En).cs 82 (0, 0)) := blk_set h2.blk (by simp [En.cs])
  have k3 : Kept (w2.setCell ⟨E.b, 2, none⟩ (.int .i64 ((E.sent : Int) + 1))) w3 (fun _ => False) := (Kept.ofBelow hV _).trans (Kept.ofBelow hb3 _)
  have hE3 := k3.obj hbV id
  have ho : E.o.Ok w3 B := (h2.oo.keep kV (fun j hj e => h2.ne_o (by rw [← e]; exact hj))).keep k3 fun _ _ => id
  have hi : E.i.Ok w3 B := (h2.ii.keep kV (fun j hj e => h2.ne_i (by rw [← e]; exact hj))).keep k3 fun _ _ => id
  have hVs : w2.heap.size ≤ V'.heap.size := by rw [← hsz]; exact hV.size
  have hw2 := hb2.size
  have hno : ∀ j, E.own j → j < V'.heap.size := fun j hj => by have := h.lt hj; omega
  refine ⟨rfl, ho, by have := hb3.size; omega, hE3, ⟨hbk, hby, hl1, hl2, by show B ≤ V'.heap.size; omega⟩, fun hj => by have := hno _ (.inr (.inl hj)); omega, ?_⟩
  rintro ⟨⟨N, g, cs', hok, hN, hnN, hg, hblk, hsz', hr, hrest, hk4⟩⟩
  have hV3 : V'.heap.size < w3.heap.size := hbk.lt
  have hcs : cs' = ({ E with o := { p := E.o.p, L := N, rb := g, f := upd E.o.f (E.sent + 1) (some ⟨V'.heap.size, bs⟩) }, sent := E.sent + 1 } : En).cs := arr_upd hr hrest rfl (fun i hi => by rcases i with _ | _ | _ | _ | _ | _ | i <;> first | rfl | exact absurd rfl hi)
  subst hcs
  have hno2 : ∀ j, ({ p := E.o.p, L := N, rb := g, f := upd E.o.f (E.sent + 1) (some ⟨V'.heap.size, bs⟩) } : St).own j → E.o.own j ∨ w.heap.size ≤ j := by
    rintro j (⟨_, hj⟩ | ⟨n, b, hb, rfl⟩)
    · have hj' : j = g := hj
      rcases hg with ⟨e1, e2⟩ | hg
      · exact .inl (.inl ⟨by rw [← e1]; exact hN, hj'.trans e2⟩)
      · right; omega
    · by_cases e : n = E.sent + 1
      · simp only [e, upd_same, Option.some.injEq] at hb; subst hb; right; show w.heap.size ≤ V'.heap.size; omega
      · simp only [upd_ne _ _ e] at hb; exact .inl (.inr ⟨n, b, hb, rfl⟩)
  have hno3 : ∀ j, ({ p := E.o.p, L := N, rb := g, f := upd E.o.f (E.sent + 1) (some ⟨V'.heap.size, bs⟩) } : St).own j → E.o.own j ∨ V'.heap.size ≤ j := by
    rintro j (⟨_, hj⟩ | ⟨n, b, hb, rfl⟩)
    · have hj' : j = g := hj
      rcases hg with ⟨e1, e2⟩ | hg
      · exact .inl (.inl ⟨by rw [← e1]; exact hN, hj'.trans e2⟩)
      · right; omega
    · by_cases e : n = E.sent + 1
      · simp only [e, upd_same, Option.some.injEq] at hb; subst hb; right; exact Nat.le_refl _
      · simp only [upd_ne _ _ e] at hb; exact .inl (.inr ⟨n, b, hb, rfl⟩)
  refine ⟨{ E with o := { p := E.o.p, L := N, rb := g, f := upd E.o.f (E.sent + 1) (some ⟨V'.heap.size, bs⟩) }, sent := E.sent + 1 }, ⟨rfl, ⟨hblk, h.lo, hok, ?_, ?_, by show E.o.p ≤ E.sent + 1; have := h.s1; omega, by show E.sent + 1 ≤ E.o.p + room; omega, h62, ?_, ?_, h.iw, h.i1⟩, ?_, ?_⟩, ?_⟩
  · exact hi.keep hk4 fun j hj e => e.elim (fun e => h2.ne_i (by rw [← e]; exact hj)) (fun e => h.ap j (.inl e) hj)
  · intro j hj hj2
    rcases hno3 j hj with h1 | h1
    · exact h.ap j h1 hj2
    · have := hno j (.inr (.inr hj2)); omega
  · intro n hn1 hn2
    by_cases e : n = E.sent + 1
    · show (upd E.o.f (E.sent + 1) _ n).isSome = true; rw [e, upd_same]; rfl
    · show (upd E.o.f (E.sent + 1) _ n).isSome = true; rw [upd_ne _ _ e]; exact h.all n hn1 (by have : n ≤ E.sent + 1 := hn2; omega)
  · intro n b hb
    by_cases e : n = E.sent + 1
    · show n ≤ E.sent + 1; omega
    · have hb' : upd E.o.f (E.sent + 1) (some ⟨V'.heap.size, bs⟩) n = some b := hb
      rw [upd_ne _ _ e] at hb'
      have := h.top n b hb'; show n ≤ E.sent + 1; omega
  · have k1 : Kept w w2 E.own := Kept.ofBelow hb2 _
    exact ((k1.step kV (fun j hj => .inl (.inl hj))).step k3 (fun j hj => hj.elim)).step hk4 (fun j hj => hj.elim (fun e => .inl (.inl e)) (fun e => .inl (.inr (.inl (.inl e)))))
  · rintro j (rfl | hj | hj)
    · exact .inl (.inl rfl)
    · exact (hno2 j hj).imp (fun h1 => .inr (.inl h1)) id
    · exact .inl (.inr (.inr hj))
  · simp only [En.pu, Ep.push, map_upd]
set_option maxHeartbeats 400000 in
theorem push_no (h : M.Ok w B) {q : Int} (hq : M.at q = none) {ao : Option Addr} {n c : Nat} : Calls Try.prog 28 #[.pointer (some ⟨M.b, 0, none⟩), .int .i64 q, .slice ao n c] w fun e w' => e = .returned (.int .i64 41) ∧ w = w' := by
  have HP : Hid (Calls Try.prog 35 #[.pointer (some ⟨M.b, 0, none⟩), .int .i64 q] w fun e w' => e = .returned (.pointer none) ∧ w = w') := (show Calls _ _ _ _ _ from by have := peer_any h q; rw [hq] at this; exact this)
  clear h hq
  go_enter Try.func28, Try.ntmps28
  go_wp2_with (first | (go_at_call 35; refine HP.out.mono ?_; rintro e w' ⟨rfl, rfl⟩) | fail)
  go_ret
  exact ⟨rfl, rfl⟩
set_option maxHeartbeats 400000 in
theorem push_arg (h : M.Ok w B) {q : Int} (hq : M.at q = some E) {ao : Option Addr} {n c : Nat} (hn : inR 1 300 (n : Int) = false) : Calls Try.prog 28 #[.pointer (some ⟨M.b, 0, none⟩), .int .i64 q, .slice ao n c] w fun e w' => e = .returned (.int .i64 1) ∧ w = w' := by
  have HP : Hid (Calls Try.prog 35 #[.pointer (some ⟨M.b, 0, none⟩), .int .i64 q] w fun e w' => e = .returned (.pointer (some ⟨E.b, 0, none⟩)) ∧ w = w') := (show Calls _ _ _ _ _ from by have := peer_any h q; rw [hq] at this; exact this)
  have HBd : Hid (Calls Try.prog 37 #[.slice ao n c] w fun e w' => e = .returned (.bool false) ∧ w = w') := (show Calls _ _ _ _ _ from by rw [← hn]; exact body_any)
  clear h hq hn
  go_enter Try.func28, Try.ntmps28
  go_wp2_with (first | (go_at_call 35; refine HP.out.mono ?_; rintro e w' ⟨rfl, rfl⟩) | (go_at_call 37; refine HBd.out.mono ?_; rintro e w' ⟨rfl, rfl⟩) | fail)
  go_ret
  exact ⟨rfl, rfl⟩
set_option maxHeartbeats 400000 in
theorem push_full (h : M.Ok w B) {q : Int} (hq : M.at q = some E) {ao : Option Addr} {n c : Nat} (hn : inR 1 300 (n : Int) = true) (hs : E.o.p + M.room ≤ E.sent) : Calls Try.prog 28 #[.pointer (some ⟨M.b, 0, none⟩), .int .i64 q, .slice ao n c] w fun e w' => e = .returned (.int .i64 42) ∧ Below w.heap.size w w' := by
  have HP : Hid (Calls Try.prog 35 #[.pointer (some ⟨M.b, 0, none⟩), .int .i64 q] w fun e w' => e = .returned (.pointer (some ⟨E.b, 0, none⟩)) ∧ w = w') := (show Calls _ _ _ _ _ from by have := peer_any h q; rw [hq] at this; exact this)
  obtain ⟨k, rfl, hk, he⟩ := at_es hq
  have hE := h.el k E he
  have HBd : Hid (Calls Try.prog 37 #[.slice ao n c] w fun e w' => e = .returned (.bool true) ∧ w = w') := (show Calls _ _ _ _ _ from by rw [← hn]; exact body_any)
  have HW : Hid (∀ w1, Below w.heap.size w w1 → Calls Try.prog 43 #[.pointer (some ⟨E.b, 0, none⟩)] w1 fun e w' => e = .returned (.int .i64 ((E.sent : Int) - (E.o.p : Int))) ∧ Below w1.heap.size w1 w') := fun w1 hb => waiting_any (hE.still hb)
  have c2 : w.cell? ⟨M.b, 2, none⟩ = some (.int .i64 (M.room : Int)) := h.c 2 rfl
  have h3 := h.w1
  clear h hq hE hn
  go_enter Try.func28, Try.ntmps28
  go_wp2_with (first | (go_at_call 35; refine HP.out.mono ?_; rintro e w' ⟨rfl, rfl⟩) | (go_at_call 37; refine HBd.out.mono ?_; rintro e w' ⟨rfl, rfl⟩) | fail)
  refine wp_region_held_drew (S := (fun w' => w'.cell? ⟨M.b, 2, none⟩ = some (.int .i64 (M.room : Int)))) (by kernel_rfl) (below_at (Below.refl _ _).drew c2) (fun hHeld => ?_)
  simp only [Act.put, List.size_toArray, List.length_cons, List.length_nil, Nat.zero_add]
  refine wpAnyH_take (i := 0) (v := .pointer (some ⟨E.b, 0, none⟩)) rfl (by kernel_rfl) (by kernel_rfl) (by kernel_rfl) (fun _ _ _ h => h) (Or.inl ⟨by rfl, fun w' hS => by go_simp⟩) hHeld ?_
  simp only [Act.put, List.getElem_toArray, List.getElem_cons_zero, List.getElem_cons_succ, List.setIfInBounds_toArray, List.set_cons_zero, List.set_cons_succ]
  refine wpAnyH_take (i := 2) (v := .pointer (some ⟨M.b, 0, none⟩)) rfl (by kernel_rfl) (by kernel_rfl) (by kernel_rfl) (fun _ _ _ h => h) (Or.inl ⟨by rfl, fun w' hS => by go_simp⟩) hHeld ?_
  simp only [Act.put, List.getElem_toArray, List.getElem_cons_zero, List.getElem_cons_succ, List.setIfInBounds_toArray, List.set_cons_zero, List.set_cons_succ]
  refine wpAnyH_take (i := 3) (v := .pointer (some ⟨M.b, 0, none⟩)) rfl (by kernel_rfl) (by kernel_rfl) (by kernel_rfl) (fun _ _ _ h => h) (Or.inl ⟨by rfl, fun w' hS => by go_simp⟩) hHeld ?_
  simp only [Act.put, List.getElem_toArray, List.getElem_cons_zero, List.getElem_cons_succ, List.setIfInBounds_toArray, List.set_cons_zero, List.set_cons_succ]
  refine wpAnyH_take (i := 4) (v := .pointer (some ⟨M.b, 2, none⟩)) rfl (by kernel_rfl) (by kernel_rfl) (by kernel_rfl) (fun _ _ _ h => h) (Or.inl ⟨by rfl, fun w' hS => by go_simp⟩) hHeld ?_
  simp only [Act.put, List.getElem_toArray, List.getElem_cons_zero, List.getElem_cons_succ, List.setIfInBounds_toArray, List.set_cons_zero, List.set_cons_succ]
  refine wpAnyH_take (i := 5) (v := .int .i64 (M.room : Int)) rfl (by kernel_rfl) (by kernel_rfl) (by kernel_rfl) (fun _ _ _ h => h) (Or.inl ⟨by rfl, fun w' hS => by (have s0 := hS; go_simp)⟩) hHeld ?_
  simp only [Act.put, List.getElem_toArray, List.getElem_cons_zero, List.getElem_cons_succ, List.setIfInBounds_toArray, List.set_cons_zero, List.set_cons_succ]
  refine wpAnyH_ready (rs := [1]) (by kernel_rfl) (by simp) ?_
  refine AllReadyH.cons rfl (fun K hK => ?_) AllReadyH.nil
  go_simp
  refine (HW.out _ (Below.refl _ _).drew).mono ?_
  rintro e w2 ⟨rfl, hb2⟩
  refine hK.out _ _ (below_at hb2 (below_at (Below.refl _ _).drew c2)) (fun hHeld => ?_)
  clear hK K
  refine wpAnyH_take (i := 6) (v := .bool true) rfl (by kernel_rfl) (by kernel_rfl) (by kernel_rfl) (fun _ _ _ h => h) (Or.inl ⟨by rfl, fun w' hS => by (go_simp; omega)⟩) hHeld ?_
  simp only [Act.put, List.getElem_toArray, List.getElem_cons_zero, List.getElem_cons_succ, List.setIfInBounds_toArray, List.set_cons_zero, List.set_cons_succ]
  refine wpAnyH_done (by kernel_rfl) ?_ _
  clear hHeld
  go_wp2
  go_ret
  exact ⟨rfl, (Below.trans (Below.refl _ _).drew (hb2.mono (by simp)))⟩
structure PushO (w w' : World) (B : Nat) (M : Mx) (k : Nat) (E : En) (bs : List Int) : Prop where
  out : ∃ E', Estep w w' B M.win M.room E E' ∧ E'.pu = E.pu.push bs
set_option maxHeartbeats 1000000 in
theorem push_ok (h : M.Ok w B) (hB : B ≤ w.heap.size) {q : Int} (hq : M.at q = some E) {ao : Option Addr} {c : Nat} {bs : List Int} (hr : Rd w ao bs.length c bs) (hn : inR 1 300 (bs.length : Int) = true) (hs : E.sent < E.o.p + M.room) (h62 : E.sent + 1 ≤ 4611686018427387904) : Calls Try.prog 28 #[.pointer (some ⟨M.b, 0, none⟩), .int .i64 q, .slice ao bs.length c] w fun e w' => e = .returned (.int .i64 0) ∧ PushO w w' B M 0 E bs := by
  have HP : Hid (Calls Try.prog 35 #[.pointer (some ⟨M.b, 0, none⟩), .int .i64 q] w fun e w' => e = .returned (.pointer (some ⟨E.b, 0, none⟩)) ∧ w = w') := (show Calls _ _ _ _ _ from by have := peer_any h q; rw [hq] at this; exact this)
  obtain ⟨k, rfl, hk, he⟩ := at_es hq
  have hE := h.el k E he
  have hn' : 1 ≤ bs.length ∧ bs.length ≤ 300 := by simp [inR] at hn; omega
  have HBd : Hid (Calls Try.prog 37 #[.slice ao bs.length c] w fun e w' => e = .returned (.bool true) ∧ w = w') := (show Calls _ _ _ _ _ from by rw [← hn]; exact body_any)
  have HW : Hid (∀ w1, Below w.heap.size w w1 → Calls Try.prog 43 #[.pointer (some ⟨E.b, 0, none⟩)] w1 fun e w' => e = .returned (.int .i64 ((E.sent : Int) - (E.o.p : Int))) ∧ Below w1.heap.size w1 w') := fun w1 hb => waiting_any (hE.still hb)
  have c2 : w.cell? ⟨M.b, 2, none⟩ = some (.int .i64 (M.room : Int)) := h.c 2 rfl
  have h3 := h.w1
  have h4 := hE.s1
  have HE : Hid (E.Ok w B M.win M.room) := hE
  have Hr : Hid (Rd w ao bs.length c bs) := hr
  clear h hq hE hn hr
  go_enter Try.func28, Try.ntmps28
  go_wp2_with (first | (go_at_call 35; refine HP.out.mono ?_; rintro e w' ⟨rfl, rfl⟩) | (go_at_call 37; refine HBd.out.mono ?_; rintro e w' ⟨rfl, rfl⟩) | fail)
  refine wp_region_held_drew (S := (fun w' => w'.cell? ⟨M.b, 2, none⟩ = some (.int .i64 (M.room : Int)))) (by kernel_rfl) (below_at (Below.refl _ _).drew c2) (fun hHeld => ?_)
  simp only [Act.put, List.size_toArray, List.length_cons, List.length_nil, Nat.zero_add]
  refine wpAnyH_take (i := 0) (v := .pointer (some ⟨E.b, 0, none⟩)) rfl (by kernel_rfl) (by kernel_rfl) (by kernel_rfl) (fun _ _ _ h => h) (Or.inl ⟨by rfl, fun w' hS => by go_simp⟩) hHeld ?_
  simp only [Act.put, List.getElem_toArray, List.getElem_cons_zero, List.getElem_cons_succ, List.setIfInBounds_toArray, List.set_cons_zero, List.set_cons_succ]
  refine wpAnyH_take (i := 2) (v := .pointer (some ⟨M.b, 0, none⟩)) rfl (by kernel_rfl) (by kernel_rfl) (by kernel_rfl) (fun _ _ _ h => h) (Or.inl ⟨by rfl, fun w' hS => by go_simp⟩) hHeld ?_
  simp only [Act.put, List.getElem_toArray, List.getElem_cons_zero, List.getElem_cons_succ, List.setIfInBounds_toArray, List.set_cons_zero, List.set_cons_succ]
  refine wpAnyH_take (i := 3) (v := .pointer (some ⟨M.b, 0, none⟩)) rfl (by kernel_rfl) (by kernel_rfl) (by kernel_rfl) (fun _ _ _ h => h) (Or.inl ⟨by rfl, fun w' hS => by go_simp⟩) hHeld ?_
  simp only [Act.put, List.getElem_toArray, List.getElem_cons_zero, List.getElem_cons_succ, List.setIfInBounds_toArray, List.set_cons_zero, List.set_cons_succ]
  refine wpAnyH_take (i := 4) (v := .pointer (some ⟨M.b, 2, none⟩)) rfl (by kernel_rfl) (by kernel_rfl) (by kernel_rfl) (fun _ _ _ h => h) (Or.inl ⟨by rfl, fun w' hS => by go_simp⟩) hHeld ?_
  simp only [Act.put, List.getElem_toArray, List.getElem_cons_zero, List.getElem_cons_succ, List.setIfInBounds_toArray, List.set_cons_zero, List.set_cons_succ]
  refine wpAnyH_take (i := 5) (v := .int .i64 (M.room : Int)) rfl (by kernel_rfl) (by kernel_rfl) (by kernel_rfl) (fun _ _ _ h => h) (Or.inl ⟨by rfl, fun w' hS => by (have s0 := hS; go_simp)⟩) hHeld ?_
  simp only [Act.put, List.getElem_toArray, List.getElem_cons_zero, List.getElem_cons_succ, List.setIfInBounds_toArray, List.set_cons_zero, List.set_cons_succ]
  refine wpAnyH_ready (rs := [1]) (by kernel_rfl) (by simp) ?_
  refine AllReadyH.cons rfl (fun K hK => ?_) AllReadyH.nil
  go_simp
  refine (HW.out _ (Below.refl _ _).drew).mono ?_
  rintro e w2 ⟨rfl, hb2⟩
  refine hK.out _ _ (below_at hb2 (below_at (Below.refl _ _).drew c2)) (fun hHeld => ?_)
  clear hK K
  refine wpAnyH_take (i := 6) (v := .bool false) rfl (by kernel_rfl) (by kernel_rfl) (by kernel_rfl) (fun _ _ _ h => h) (Or.inl ⟨by rfl, fun w' hS => by (go_simp; omega)⟩) hHeld ?_
  simp only [Act.put, List.getElem_toArray, List.getElem_cons_zero, List.getElem_cons_succ, List.setIfInBounds_toArray, List.set_cons_zero, List.set_cons_succ]
  refine wpAnyH_done (by kernel_rfl) ?_ _
  clear hHeld
  have hbw : Below w.heap.size w w2 := (Below.trans (Below.refl _ _).drew (hb2.mono (by simp)))
  have HE2 := HE.out.still hbw
  have d2 : w2.cell? ⟨E.b, 2, none⟩ = some (.int .i64 (E.sent : Int)) := HE2.c 2 rfl
  have f2 := frozen_of_row w2 E.b 2 _ _ HE2.blk
  generalize hV : w2.setCell ⟨E.b, 2, none⟩ (.int .i64 ((E.sent : Int) + 1)) = V
  have x2 : V.cell? ⟨E.b, 2, none⟩ = some (.int .i64 ((E.sent : Int) + 1)) := by rw [← hV, blk_cell (blk_set HE2.blk rfl)]; rfl
  have hVr : Kept w2 V (fun j => j = E.b) := by rw [← hV]; exact kset _ _ _ _ rfl
  have HrV : Hid (Rd V ao bs.length c bs) := (show Rd V ao bs.length c bs from by
    refine (Hr.out.still hbw).keep hVr fun b off he hb => ?_
    have hb' : b = E.b := hb
    rcases (Hr.out.still hbw).at_ with h0 | ⟨b', off', h1, hc⟩
    · omega
    · rw [he] at h1
      cases h1
      have hcc := hc 0 (by omega)
      rw [hb', blk_cell HE2.blk] at hcc
      exact ends_byte E _ _ hcc)
  have HC : Hid (∀ D, Below V.heap.size V D → Calls Try.prog 40 #[.slice ao bs.length c] D fun e w' => e = .returned (.slice (some ⟨D.heap.size, 0, none⟩) bs.length bs.length) ∧ Bk w' D.heap.size bs ∧ Below D.heap.size D w') := fun D hb => copy_any (HrV.out.still hb) (by omega)
  have HPu : Hid (∀ D w3, Below V.heap.size V D → Bk w3 D.heap.size bs → Below D.heap.size D w3 → Calls Try.prog 39 #[.pointer (some ⟨E.b, 0, none⟩), .int .i64 ((E.sent : Int) + 1), .slice (some ⟨D.heap.size, 0, none⟩) bs.length bs.length] w3 fun e w' => e = .returned (.tuple #[]) ∧ PutO w3 w' B E.o E.b 0 (E.sent + 1) ⟨D.heap.size, bs⟩ ({ E with sent := E.sent + 1 } : En).cs) := fun D w3 hbD hbk hb3 => by
    obtain ⟨g1, g2, g3, g4, g5, g6, _⟩ := push_fin (w4 := w3) HE.out (by omega) hs h62 hB hbw (by rw [hV]; exact hbD) hb3 (by omega) (by omega) Hr.out.by_ hbk
    exact put_any (n := E.sent + 1) g2 g3 g4 g1 rfl (by omega) (by omega) h62 g5 g6
  have HF : Hid (∀ D w3 w4, Below V.heap.size V D → Bk w3 D.heap.size bs → Below D.heap.size D w3 → PutO w3 w4 B E.o E.b 0 (E.sent + 1) ⟨D.heap.size, bs⟩ ({ E with sent := E.sent + 1 } : En).cs → Hid (PushO w w4 B M 0 E bs)) := fun D w3 w4 hbD hbk hb3 hp => by
    obtain ⟨_, _, _, _, _, _, g7⟩ := push_fin (w4 := w4) HE.out (by omega) hs h62 hB hbw (by rw [hV]; exact hbD) hb3 (by omega) (by omega) Hr.out.by_ hbk
    exact (⟨g7 hp⟩ : PushO w w4 B M 0 E bs)
  clear HE2 hVr hbw hb2 HW HE
  go_wp2
  refine wp_region_held_drew (S := (fun w' => w'.cell? ⟨E.b, 2, none⟩ = some (.int .i64 ((E.sent : Int) + 1)))) (by kernel_rfl) (below_at (Below.refl _ _).drew x2) (fun hHeld => ?_)
  simp only [Act.put, List.size_toArray, List.length_cons, List.length_nil, Nat.zero_add]
  refine wpAnyH_take (i := 0) (v := .pointer (some ⟨E.b, 0, none⟩)) rfl (by kernel_rfl) (by kernel_rfl) (by kernel_rfl) (fun _ _ _ h => h) (Or.inl ⟨by rfl, fun w' hS => by go_simp⟩) hHeld ?_
  simp only [Act.put, List.getElem_toArray, List.getElem_cons_zero, List.getElem_cons_succ, List.setIfInBounds_toArray, List.set_cons_zero, List.set_cons_succ]
  refine wpAnyH_take (i := 1) (v := .pointer (some ⟨E.b, 0, none⟩)) rfl (by kernel_rfl) (by kernel_rfl) (by kernel_rfl) (fun _ _ _ h => h) (Or.inl ⟨by rfl, fun w' hS => by go_simp⟩) hHeld ?_
  simp only [Act.put, List.getElem_toArray, List.getElem_cons_zero, List.getElem_cons_succ, List.setIfInBounds_toArray, List.set_cons_zero, List.set_cons_succ]
  refine wpAnyH_take (i := 2) (v := .pointer (some ⟨E.b, 0, none⟩)) rfl (by kernel_rfl) (by kernel_rfl) (by kernel_rfl) (fun _ _ _ h => h) (Or.inl ⟨by rfl, fun w' hS => by go_simp⟩) hHeld ?_
  simp only [Act.put, List.getElem_toArray, List.getElem_cons_zero, List.getElem_cons_succ, List.setIfInBounds_toArray, List.set_cons_zero, List.set_cons_succ]
  refine wpAnyH_take (i := 3) (v := .pointer (some ⟨E.b, 0, none⟩)) rfl (by kernel_rfl) (by kernel_rfl) (by kernel_rfl) (fun _ _ _ h => h) (Or.inl ⟨by rfl, fun w' hS => by go_simp⟩) hHeld ?_
  simp only [Act.put, List.getElem_toArray, List.getElem_cons_zero, List.getElem_cons_succ, List.setIfInBounds_toArray, List.set_cons_zero, List.set_cons_succ]
  refine wpAnyH_take (i := 4) (v := .pointer (some ⟨E.b, 0, none⟩)) rfl (by kernel_rfl) (by kernel_rfl) (by kernel_rfl) (fun _ _ _ h => h) (Or.inl ⟨by rfl, fun w' hS => by go_simp⟩) hHeld ?_
  simp only [Act.put, List.getElem_toArray, List.getElem_cons_zero, List.getElem_cons_succ, List.setIfInBounds_toArray, List.set_cons_zero, List.set_cons_succ]
  refine wpAnyH_take (i := 5) (v := .pointer (some ⟨E.b, 2, none⟩)) rfl (by kernel_rfl) (by kernel_rfl) (by kernel_rfl) (fun _ _ _ h => h) (Or.inl ⟨by rfl, fun w' hS => by go_simp⟩) hHeld ?_
  simp only [Act.put, List.getElem_toArray, List.getElem_cons_zero, List.getElem_cons_succ, List.setIfInBounds_toArray, List.set_cons_zero, List.set_cons_succ]
  refine wpAnyH_take (i := 6) (v := .int .i64 ((E.sent : Int) + 1)) rfl (by kernel_rfl) (by kernel_rfl) (by kernel_rfl) (fun _ _ _ h => h) (Or.inl ⟨by rfl, fun w' hS => by (have s0 := hS; go_simp)⟩) hHeld ?_
  simp only [Act.put, List.getElem_toArray, List.getElem_cons_zero, List.getElem_cons_succ, List.setIfInBounds_toArray, List.set_cons_zero, List.set_cons_succ]
  refine wpAnyH_take (i := 7) (v := .slice ao bs.length c) rfl (by kernel_rfl) (by kernel_rfl) (by kernel_rfl) (fun _ _ _ h => h) (Or.inl ⟨by rfl, fun w' hS => by go_simp⟩) hHeld ?_
  simp only [Act.put, List.getElem_toArray, List.getElem_cons_zero, List.getElem_cons_succ, List.setIfInBounds_toArray, List.set_cons_zero, List.set_cons_succ]
  have hbD : Below V.heap.size V V.drew := (Below.refl _ _).drew
  have y2 := below_at hbD x2
  generalize V.drew = D at *
  refine wpAnyH_ready (rs := [8]) (by kernel_rfl) (by simp) ?_
  refine AllReadyH.cons rfl (fun K hK => ?_) AllReadyH.nil
  go_simp
  refine (HC.out D hbD).mono ?_
  rintro e w3 ⟨rfl, hbk, hb3⟩
  refine hK.out _ _ (below_at hb3 y2) (fun hHeld => ?_)
  clear hK K
  refine wpAnyH_ready (rs := [9]) (by kernel_rfl) (by simp) ?_
  refine AllReadyH.cons rfl (fun K hK => ?_) AllReadyH.nil
  go_simp
  refine (HPu.out D w3 hbD hbk hb3).mono ?_
  rintro e w4 ⟨rfl, hp4⟩
  refine hK.out _ _ (by obtain ⟨⟨N, g, cs', _, _, _, _, hblk, _, _, hrest, _⟩⟩ := hp4; rw [blk_cell hblk, hrest 2 (by decide)]; rfl) (fun hHeld => ?_)
  have HX := HF.out D w3 w4 hbD hbk hb3 hp4
  clear hK K hp4
  refine wpAnyH_done (by kernel_rfl) ?_ _
  clear hHeld
  go_wp2
  go_ret
  exact ⟨rfl, HX.out⟩
end
end Go.Proofs.Ytghihdenbdnnjaa.Ln
