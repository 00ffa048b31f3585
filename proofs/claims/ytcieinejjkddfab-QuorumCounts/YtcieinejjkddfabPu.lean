import Derived.Test.YtcieinejjkddfabPt
namespace Go.Proofs.Ytcieinejjkddfab.Qm
open Go.RowKit Mb
set_option linter.unusedVariables false
set_option maxRecDepth 100000
set_option linter.unusedSimpArgs false
section
variable {w w' : World} {B : Nat}
theorem lent_rd {a : Option Addr} {n c : Nat} {xs : List Int} (hl : xs.length = n) (h : w.ownsRow B 3 1 (.slice a (n + 64) c) (n + 64) (ints (xs ++ mks 64))) : RdI w a n c xs := by
  have := (own_rd h).take (m := n) (by omega)
  rw [← hl, List.take_left, hl] at this
  exact this
set_option maxHeartbeats 4000000 in
theorem counts_law {ao : Option Addr} {n c : Nat} {xs : List Int} (hr : RdI w ao n c xs) (hn : n ≤ 17592186043904) : Calls Try.prog 3 #[.slice ao n c] w fun e w' => e = .returned (.bool true) ∧ Below w.heap.size w w' := by
  have HR : Hid (RdI w ao n c xs) := hr
  have Hl : Hid (xs.length = n) := hr.len
  have HRW : Hid (∀ V, Below w.heap.size w V → Calls Try.prog 12 #[.slice ao n c] V fun e w' => e = .returned (.tuple #[.int .i64 (winN xs), .int .i64 (chkE xs)]) ∧ V = w') := fun V hV => rwinT (HR.out.still hV)
  have HRT : Hid (∀ V, Below w.heap.size w V → Calls Try.prog 13 #[.slice ao n c] V fun e w' => e = .returned (.tuple #[.int .i64 (tolN xs), .int .i64 (chkE xs)]) ∧ V = w') := fun V hV => rtolT (HR.out.still hV)
  clear hr
  go_enter Try.func3, Try.ntmps3
  go_wp2_with (fail)
  refine (lent_any HR.out hn).mono ?_
  rintro e w1 ⟨v1, rfl, ho1, hb1⟩
  obtain ⟨a1, c1, rfl⟩ := own_shape ho1
  have hc1 : n + 64 ≤ c1 := (own_rd ho1).cap
  have HO1 : Hid (w1.ownsRow w.heap.size 3 1 (.slice a1 (n + 64) c1) (n + 64) (ints (xs ++ mks 64))) := ho1
  have HB1 : Hid (Below w.heap.size w w1) := hb1
  have HV1 : Hid (RdI w1 a1 n c1 xs) := lent_rd Hl.out ho1
  have HPW : Hid (∀ V, Below w1.heap.size w1 V → Calls Try.prog 10 #[.slice a1 n c1] V fun e w' => e = .returned (.tuple #[.int .i64 (winN xs), .int .i64 (chkE xs)]) ∧ Below V.heap.size V w') := fun V hV => winT (HV1.out.still hV)
  have HPT : Hid (∀ V, Below w1.heap.size w1 V → Calls Try.prog 11 #[.slice a1 n c1] V fun e w' => e = .returned (.tuple #[.int .i64 (tolN xs), .int .i64 (chkE xs)]) ∧ Below V.heap.size V w') := fun V hV => tolT (HV1.out.still hV)
  have HK1 : Hid (∀ V, Below w1.heap.size w1 V → Calls Try.prog 15 #[.slice a1 (n + 64) c1, .slice ao n c] V fun e w' => e = .returned (.bool true) ∧ Below V.heap.size V w') := fun V hV => kept_any ((own_rd HO1.out).still hV) (HR.out.still (bstep HB1.out hV)) hn
  have HN : Hid (∀ V x, Calls Try.prog 14 #[.int .i64 x] V fun e w' => e = .returned (.int .i64 x) ∧ V = w') := fun V x => num_any x
  clear ho1 hb1
  have HB : Hid (Below w1.heap.size w1 w1) := Below.refl _ _
  generalize winN xs = wv at *
  generalize tolN xs = tv at *
  generalize chkE xs = ev at *
  go_wp2_with (first
    | (go_at_call 10; refine (HPW.out _ HB.out).mono ?_; rintro e wn ⟨rfl, hbn⟩; replace HB : Hid (Below w1.heap.size w1 wn) := bstep HB.out hbn; clear hbn)
    | (go_at_call 11; refine (HPT.out _ HB.out).mono ?_; rintro e wn ⟨rfl, hbn⟩; replace HB : Hid (Below w1.heap.size w1 wn) := bstep HB.out hbn; clear hbn)
    | (go_at_call 12; refine (HRW.out _ (bstep HB1.out HB.out)).mono ?_; rintro e wn ⟨rfl, rfl⟩)
    | (go_at_call 13; refine (HRT.out _ (bstep HB1.out HB.out)).mono ?_; rintro e wn ⟨rfl, rfl⟩)
    | (go_at_call 14; refine (HN.out _ _).mono ?_; rintro e wn ⟨rfl, rfl⟩)
    | (go_at_call 15; refine (HK1.out _ HB.out).mono ?_; rintro e wn ⟨rfl, hbn⟩; replace HB : Hid (Below w1.heap.size w1 wn) := bstep HB.out hbn; clear hbn)
    | fail)
  go_ret
  exact ⟨rfl, bstep HB1.out HB.out⟩
end
end Go.Proofs.Ytcieinejjkddfab.Qm
