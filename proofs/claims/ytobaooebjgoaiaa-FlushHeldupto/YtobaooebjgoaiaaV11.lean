import Derived.Test.YtobaooebjgoaiaaV10
namespace Go.Proofs.Ytobaooebjgoaiaa.Fm
open Go.RowKit Go.Maps Mb
set_option linter.unusedVariables false
set_option maxRecDepth 100000
set_option linter.unusedSimpArgs false
section
variable {w w' W : World} {B : Nat}
set_option maxHeartbeats 2000000 in
theorem idxI_any {ao : Option Addr} {cp : Nat} {xs : List Int} (hr : RdI w ao xs) (hn : xs.length ≤ 1000000000000000000) : Calls Try.prog 82 #[.slice ao xs.length cp, .func (.func 71) #[] #[]] w fun e w' => ∃ r : Int, e = .returned (.int .i64 r) ∧ decide (0 ≤ r) = !havesB xs ∧ w' = w := by
 have HR : Hid (RdI w ao xs) := hr
 generalize hL : xs.length = L at *
 clear hr
 go_enter Try.func82, Try.ntmps82
 go_wp2
 go_loopw [8] (fun i wr => ∃ j : Nat, j ≤ L ∧ i = .int .i64 j ∧ (∀ k, k < j → inR 0 4611686018427387904 (xs.getD k 0) = true) ∧ wr = w) (fun i _ => L - (intOf i).toNat)
 case atStart => exact ⟨0, Nat.zero_le _, rfl, fun k hk => by omega, rfl⟩
 case round =>
  obtain ⟨j, hj, rfl, hno, rfl⟩ := hrel
  by_cases hlt : j < L
  ·obtain ⟨b, off, rfl, hc⟩ := HR.out.at (i := j) (by omega)
   have HM : Hid (Calls Try.prog 71 #[.int .i64 (xs.getD j 0)] wr fun e w' => e = .returned (.bool (!inR 0 4611686018427387904 (xs.getD j 0))) ∧ w' = wr) := noCount_any _
   have i1 : (0 : Int) ≤ (j : Int) := Int.natCast_nonneg _
   have i2 : (j : Int) < (L : Int) := by omega
   have Hno : Hid (∀ k, k < j → inR 0 4611686018427387904 (xs.getD k 0) = true) := hno
   have Hh : Hid (havesB xs = (List.range L).all fun i => inR 0 4611686018427387904 (xs.getD i 0)) := by rw [← hL]; exact rfl
   clear hno
   cases hx : inR 0 4611686018427387904 (xs.getD j 0) with
   | true =>
    rw [hx] at HM
    have Hx : Hid (inR 0 4611686018427387904 (xs.getD j 0) = true) := hx
    clear hx
    have Hnx : Hid (inR 0 4611686018427387904 (xs.getD j 0) = true → ∀ k, k < j + 1 → inR 0 4611686018427387904 (xs.getD k 0) = true) := fun h k hk => by
     by_cases e : k = j
     ·rw [e]; exact h
     ·exact Hno.out k (by omega)
    generalize xs.getD j 0 = x at HM hc Hx Hnx
    go_wp2_with (first | (go_at_call 71; refine HM.out.mono ?_; rintro e w2 ⟨rfl, rfl⟩) | fail)
    exact ⟨⟨j + 1, by omega, by go_num, Hnx.out Hx.out, by first | rfl | trivial⟩, by simp [intOf]; omega⟩
   | false =>
    rw [hx] at HM
    have Hx : Hid (inR 0 4611686018427387904 (xs.getD j 0) = false) := hx
    clear hx
    have Hnx : Hid (inR 0 4611686018427387904 (xs.getD j 0) = false → havesB xs = false) := fun h => by
     rw [Hh.out, List.all_eq_false]
     exact ⟨j, List.mem_range.2 hlt, by rw [h]; simp⟩
    generalize xs.getD j 0 = x at HM hc Hx Hnx
    go_wp2_with (first | (go_at_call 71; refine HM.out.mono ?_; rintro e w2 ⟨rfl, rfl⟩) | fail)
    go_ret
    refine ⟨(j : Int), rfl, ?_, rfl⟩
    rw [Hnx.out Hx.out]
    simp
  ·obtain rfl : j = L := by omega
   have Hn : Hid (∀ k, k < j → inR 0 4611686018427387904 (xs.getD k 0) = true) := hno
   have Hh : Hid (havesB xs = (List.range j).all fun i => inR 0 4611686018427387904 (xs.getD i 0)) := by rw [← hL]; exact rfl
   clear hno
   go_wp2
   go_ret
   refine ⟨-1, rfl, ?_, rfl⟩
   have : havesB xs = true := by
    rw [Hh.out, List.all_eq_true]
    exact fun k hk => Hn.out k (List.mem_range.1 hk)
   rw [this]
   decide
set_option maxHeartbeats 1000000 in
theorem hasI_any {ao : Option Addr} {cp : Nat} {xs : List Int} (hr : RdI w ao xs) (hn : xs.length ≤ 1000000000000000000) : Calls Try.prog 73 #[.slice ao xs.length cp, .func (.func 71) #[] #[]] w fun e w' => e = .returned (.bool (!havesB xs)) ∧ w' = w := by
 have HI := idxI_any (cp := cp) hr hn
 clear hr
 go_enter Try.func73, Try.ntmps73
 go_wp2_with (first | (go_at_call 82; refine HI.mono ?_; rintro e w2 ⟨r, rfl, hr, rfl⟩) | fail)
 all_goals (go_ret; exact ⟨by rw [← hr]; simp; try omega, rfl⟩)
end
end Go.Proofs.Ytobaooebjgoaiaa.Fm
