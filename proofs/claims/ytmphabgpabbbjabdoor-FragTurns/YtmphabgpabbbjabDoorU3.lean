import Derived.Test.YtmphabgpabbbjabDoorU2
namespace Go.Proofs.YtmphabgpabbbjabDoor.Fg
open Go.RowKit Mb
set_option linter.unusedVariables false
set_option maxRecDepth 100000
set_option linter.unusedSimpArgs false
section
variable {w w' W : World} {B : Nat}
structure Qn where
  b : Nat
  n : Nat
  L : Nat → List (List Int)
  v : Nat → Value
  vs : Nat → List Value
def Qn.f (Q : Qn) (i : Nat) : Value := if i = 0 then .int .i64 (Q.n : Int) else Q.v (i - 1)
def Qn.own (Q : Qn) (k : Nat) : Prop := k = Q.b ∨ ∃ s, blks (Q.v s) (Q.vs s) k
structure Qn.Ok (Q : Qn) (w : World) (B : Nat) : Prop where
  blk : Fb w Q.b 44 17 Q.f
  n1 : 1 ≤ Q.n
  n16 : Q.n ≤ 16
  row : ∀ s, Rs w B (Q.v s) (Q.vs s) (Q.L s)
  el : ∀ s, ∀ x ∈ Q.L s, By x ∧ 8 ≤ x.length ∧ x.length ≤ 256
  len : ∀ s, (Q.L s).length ≤ 17
  ap : ∀ s t k, s ≠ t → (Q.v s).ownBlock = some k → (Q.v t).ownBlock ≠ some k
  lo : B ≤ Q.b
theorem Qn.Ok.own_lt {Q : Qn} (h : Q.Ok w B) : ∀ k, Q.own k → k < w.heap.size := by
  rintro k (rfl | ⟨s, hs⟩)
  · exact h.blk.lt
  · exact ((h.row s).lt hs).2
theorem Qn.Ok.own_lo {Q : Qn} (h : Q.Ok w B) : ∀ k, Q.own k → B ≤ k := by
  rintro k (rfl | ⟨s, hs⟩)
  · exact h.lo
  · exact ((h.row s).lt hs).1
theorem Qn.Ok.keep {Q : Qn} {P : Nat → Prop} (h : Q.Ok w B) (k : Kept w w' P) (hp : ∀ j, Q.own j → ¬ P j) : Q.Ok w' B :=
  ⟨h.blk.keep k (hp _ (.inl rfl)), h.n1, h.n16, fun s => (h.row s).keep k fun j hj => hp j (.inr ⟨s, hj⟩), h.el, h.len, h.ap, h.lo⟩
theorem Qn.Ok.still {Q : Qn} (h : Q.Ok w B) (hb : Below w.heap.size w w') : Q.Ok w' B := h.keep (Kept.ofBelow hb (fun _ => False)) (fun _ _ => id)
theorem fb_ty {b t n g : Nat} {f : Nat → Value} {C : Array Value} {t' : Nat} (h : Fb w b t n f) (h' : w.heap[g]? = some (.cells C t' (0, 0))) (ht : t ≠ t') : b ≠ g := by
  obtain ⟨C', h1, _⟩ := h
  exact fun e => by subst e; rw [h1] at h'; simp at h'; exact ht h'.2
theorem Qn.Ok.bne {Q : Qn} (h : Q.Ok w B) {s k : Nat} (hk : blks (Q.v s) (Q.vs s) k) : Q.b ≠ k := by
  rcases hk with hk | ⟨u, hu, hk⟩
  · obtain ⟨C, hC⟩ := own_ty (h.row s).row hk
    exact fb_ty h.blk hC (by decide)
  · obtain ⟨i, _, _, ho⟩ := (h.row s).mem hu
    obtain ⟨C, hC⟩ := own_ty ho hk
    exact fb_ty h.blk hC (by decide)
def Qn.put (Q : Qn) (s : Nat) (L : List (List Int)) (v : Value) (vs : List Value) : Qn := { Q with L := upd Q.L s L, v := upd Q.v s v, vs := upd Q.vs s vs }
theorem qput_self (Q : Qn) (s : Nat) : Q.put s (Q.L s) (Q.v s) (Q.vs s) = Q := by simp [Qn.put, upd_self]
theorem qf_put (Q : Qn) (s : Nat) (L : List (List Int)) (v : Value) (vs : List Value) (i : Nat) : (Q.put s L v vs).f i = if i = s + 1 then v else Q.f i := by
  unfold Qn.f Qn.put
  by_cases h : i = s + 1
  · subst h
    rw [if_neg (by omega), if_pos rfl]
    simp [upd_same]
  · rw [if_neg h]
    by_cases h0 : i = 0
    · rw [if_pos h0, if_pos h0]
    · rw [if_neg h0, if_neg h0]
      exact upd_ne _ _ (by omega)
theorem qown_put {Q : Qn} {s : Nat} {L : List (List Int)} {v : Value} {vs : List Value} {k : Nat} (h : (Q.put s L v vs).own k) : Q.own k ∨ blks v vs k := by
  rcases h with h | ⟨t, ht⟩
  · exact .inl (.inl h)
  · by_cases e : t = s
    · subst e
      right
      simpa [Qn.put, upd_same] using ht
    · left; right
      refine ⟨t, ?_⟩
      simpa [Qn.put, upd_ne _ _ e] using ht
theorem Qn.Ok.put {Q : Qn} (h : Q.Ok w B) {s : Nat} {L : List (List Int)} {v : Value} {vs : List Value} (k : Kept w w' (fun j => (Q.v s).ownBlock = some j)) (hr : Rs w' B v vs L) (hel : ∀ x ∈ L, By x ∧ 8 ≤ x.length ∧ x.length ≤ 256) (hln : L.length ≤ 17) (hv : ∀ j, v.ownBlock = some j → (Q.v s).ownBlock = some j ∨ w.heap.size ≤ j) :
    (Q.put s L v vs).Ok (w'.setCell ⟨Q.b, s + 1, none⟩ v) B := by
  have hk2 := kset w' Q.b (s + 1) v (P := fun j => j = Q.b) rfl
  have hb1 : Fb w' Q.b 44 17 Q.f := h.blk.keep k (fun e => h.bne (s := s) (.inl e) rfl)
  have hne : ∀ {x : Value} {xs : List Value} {c : List (List Int)} {j : Nat}, Rs w' B x xs c → blks x xs j → j ≠ Q.b := fun {x xs c j} hx hj => by
    rcases hj with hj | ⟨u, hu, hj⟩
    · obtain ⟨C, hC⟩ := own_ty hx.row hj
      exact (fb_ty hb1 hC (by decide)).symm
    · obtain ⟨i, _, _, ho⟩ := hx.mem hu
      obtain ⟨C, hC⟩ := own_ty ho hj
      exact (fb_ty hb1 hC (by decide)).symm
  have hoth : ∀ t, t ≠ s → Rs w' B (Q.v t) (Q.vs t) (Q.L t) := fun t ht => (h.row t).keep k fun j hj he => by
    rcases hj with hj | ⟨u, hu, hj⟩
    · exact h.ap t s j ht hj he
    · obtain ⟨i, _, _, ho⟩ := (h.row t).mem hu
      obtain ⟨C, hC⟩ := own_ty ho hj
      obtain ⟨C', hC'⟩ := own_ty (h.row s).row he
      rw [hC] at hC'
      simp at hC'
  refine ⟨(hb1.set (s + 1) v).congr fun i hi => (qf_put Q s L v vs i).symm, h.n1, h.n16, fun t => ?_, fun t => ?_, fun t => ?_, fun t u j htu ht => ?_, h.lo⟩
  · by_cases e : t = s
    · subst e
      simp only [Qn.put, upd_same]
      exact hr.keep hk2 fun j hj => hne hr hj
    · simp only [Qn.put, upd_ne _ _ e]
      exact (hoth t e).keep hk2 fun j hj => hne (hoth t e) hj
  · by_cases e : t = s
    · subst e
      simp only [Qn.put, upd_same]
      exact hel
    · simp only [Qn.put, upd_ne _ _ e]
      exact h.el t
  · by_cases e : t = s
    · subst e
      simp only [Qn.put, upd_same]
      exact hln
    · simp only [Qn.put, upd_ne _ _ e]
      exact h.len t
  · by_cases e : t = s
    · subst e
      simp only [Qn.put, upd_same] at ht
      simp only [Qn.put, upd_ne _ _ (fun e2 : u = t => htu e2.symm)]
      intro hu
      rcases hv j ht with h1 | h1
      · exact h.ap t u j htu h1 hu
      · have := ((h.row u).lt (.inl hu)).2
        omega
    · by_cases e2 : u = s
      · subst e2
        simp only [Qn.put, upd_ne _ _ e] at ht
        simp only [Qn.put, upd_same]
        intro hu
        rcases hv j hu with h1 | h1
        · exact h.ap t u j htu ht h1
        · have := ((h.row t).lt (.inl ht)).2
          omega
      · simp only [Qn.put, upd_ne _ _ e, upd_ne _ _ e2] at ht ⊢
        exact h.ap t u j htu ht
def qnew (b n : Nat) : Qn := ⟨b, n, fun _ => [], fun _ => .slice none 0 0, fun _ => []⟩
set_option maxHeartbeats 400000 in
theorem qnew_no {x : Int} (h : ¬ (1 ≤ x ∧ x ≤ 16)) : Calls Tryd.prog 6 #[.int .i64 x] w fun e w' => e = .returned (.tuple #[.pointer none, .int .i64 1]) ∧ w = w' := by
  by_cases h1 : x < 1
  · go_enter Tryd.func6, Tryd.ntmps6
    go_wp2
    go_ret2
    exact ⟨rfl, rfl⟩
  · have h2 : 16 < x := by omega
    go_enter Tryd.func6, Tryd.ntmps6
    go_wp2
    go_ret2
    exact ⟨rfl, rfl⟩
abbrev qz (n : Nat) : Array Value := #[.int .i64 (n : Int), .slice none 0 0, .slice none 0 0, .slice none 0 0, .slice none 0 0, .slice none 0 0, .slice none 0 0, .slice none 0 0, .slice none 0 0, .slice none 0 0, .slice none 0 0, .slice none 0 0, .slice none 0 0, .slice none 0 0, .slice none 0 0, .slice none 0 0, .slice none 0 0]
theorem qz_at (b n i : Nat) (hi : i < 17) : (qz n)[i]? = some ((qnew b n).f i) := by
  have : i = 0 ∨ i = 1 ∨ i = 2 ∨ i = 3 ∨ i = 4 ∨ i = 5 ∨ i = 6 ∨ i = 7 ∨ i = 8 ∨ i = 9 ∨ i = 10 ∨ i = 11 ∨ i = 12 ∨ i = 13 ∨ i = 14 ∨ i = 15 ∨ i = 16 := by omega
  rcases this with rfl | rfl | rfl | rfl | rfl | rfl | rfl | rfl | rfl | rfl | rfl | rfl | rfl | rfl | rfl | rfl | rfl <;> rfl
set_option maxHeartbeats 400000 in
theorem qnew_ok {n : Nat} (h1 : 1 ≤ n) (h2 : n ≤ 16) : Calls Tryd.prog 6 #[.int .i64 (n : Int)] w fun e w' => ∃ b, e = .returned (.tuple #[.pointer (some ⟨b, 0, none⟩), .int .i64 0]) ∧ (qnew b n).Ok w' w.heap.size ∧ Below w.heap.size w w' := by
  go_enter Tryd.func6, Tryd.ntmps6
  go_wp2
  go_ret2
  refine ⟨w.heap.size, rfl, ⟨⟨qz n, heap_alloc_new _ _, rfl, fun i hi => qz_at _ n i hi⟩, h1, h2, fun s => rs_zero _ _, fun s x hx => by simp [qnew] at hx, fun s => by simp [qnew], fun s t k _ hk => by simp [qnew, Value.ownBlock] at hk, Nat.le_refl _⟩, balloc (Below.refl _ _)⟩
set_option maxHeartbeats 400000 in
theorem qheld_any {Q : Qn} (h : Q.Ok w B) (x : Int) : Calls Tryd.prog 17 #[.pointer (some ⟨Q.b, 0, none⟩), .int .i64 x] w fun e w' => e = .returned (.int .i64 (if 0 ≤ x ∧ x < (Q.n : Int) then ((cat (Q.L x.toNat)).length : Int) else 0)) ∧ Below w.heap.size w w' := by
  have n1 := h.n1
  have n16 := h.n16
  have c0 : w.cell? ⟨Q.b, 0, none⟩ = some (.int .i64 (Q.n : Int)) := h.blk.cell 0 (by omega)
  by_cases hx : 0 ≤ x ∧ x < (Q.n : Int)
  · rw [if_pos hx]
    obtain ⟨k, rfl⟩ := Int.eq_ofNat_of_zero_le hx.1
    have hk : k < Q.n := by omega
    have c1 : w.cell? ⟨Q.b, 1 + k, none⟩ = some (Q.v k) := by
      rw [h.blk.cell (1 + k) (by omega)]
      unfold Qn.f
      rw [if_neg (by omega), show 1 + k - 1 = k by omega]
    have HB : Hid (Calls Tryd.prog 25 #[Q.v k] w fun e w' => ∃ r, e = .returned r ∧ Own w' w.heap.size r (cat (Q.L k)) ∧ Below w.heap.size w w') := rblob_any (h.row k) (h.el k) (by have := h.len k; omega)
    obtain ⟨a, c, hv, _⟩ := (h.row k).shape
    rw [hv] at c1 HB
    have i1 : (0 : Int) ≤ (k : Int) := Int.natCast_nonneg _
    have i2 : (k : Int) < 16 := by omega
    have i3 : ¬ (Q.n : Int) ≤ (k : Int) := by omega
    clear h hx hv
    rw [Int.toNat_natCast]
    generalize (Q.L k).length = ll at *
    go_enter Tryd.func17, Tryd.ntmps17
    go_wp2_with (first | (go_at_call 25; refine HB.out.mono ?_; rintro e w2 ⟨r, rfl, ho, hb⟩; obtain ⟨ra, rc, rfl, _⟩ := ho.shape) | fail)
    go_ret
    exact ⟨rfl, hb⟩
  · rw [if_neg hx]
    by_cases h1 : x < 0
    · clear h hx
      go_enter Tryd.func17, Tryd.ntmps17
      go_wp2
      go_ret
      exact ⟨rfl, Below.refl _ _⟩
    · have h2 : (Q.n : Int) ≤ x := by omega
      clear h hx
      go_enter Tryd.func17, Tryd.ntmps17
      go_wp2
      go_ret
      exact ⟨rfl, Below.refl _ _⟩
end
end Go.Proofs.YtmphabgpabbbjabDoor.Fg
