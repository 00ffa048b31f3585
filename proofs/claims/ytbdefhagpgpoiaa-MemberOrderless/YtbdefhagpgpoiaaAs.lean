import Derived.Test.YtbdefhagpgpoiaaAr
namespace Go.Proofs.Ytbdefhagpgpoiaa.Mb
open Go.RowKit
set_option linter.unusedVariables false
set_option maxRecDepth 100000
set_option linter.unusedSimpArgs false
section
variable {A A' : Ag} {w w' W : World} {B : Nat} {T : Int}
theorem own_slice {base e size n : Nat} {v : Value} {xs : List Value} (h : w.ownsRow base e size v n xs) : ∃ ao c, v = .slice ao n c := by
  rcases h.2 with ⟨h1, h2⟩ | ⟨g, cap, cur, h1, _⟩
  · exact ⟨none, 0, by rw [h1, h2]⟩
  · exact ⟨_, _, h1⟩
def Ag.agr (A : Ag) : Bool := A.chg && ((A.wl A.apart).length == 0)
set_option maxHeartbeats 1000000 in
theorem isAgreed_any (h : A.Ok w B T) : Calls Try.prog 51 #[.pointer (some ⟨A.b, 0, none⟩)] w fun e w' => e = .returned (.bool A.agr) ∧ Below w.heap.size w w' := by
  generalize hW1 : w.alloc (.cells #[.pointer (some ⟨A.b, 0, none⟩)] 25) = W1
  have b1 : Below w.heap.size w W1 := hW1 ▸ balloc (Below.refl _ _)
  have k1 : W1.heap[w.heap.size]? = some (.cells #[.pointer (some ⟨A.b, 0, none⟩)] 25 (0, 0)) := by rw [← hW1]; exact heap_alloc_new w _
  have c0 : W1.cell? ⟨w.heap.size, 0, none⟩ = some (.pointer (some ⟨A.b, 0, none⟩)) := blk_cell k1 0
  have c1 := (h.still b1).c670
  have HW : Hid (Calls Try.prog 59 #[.pointer (some ⟨A.b, 0, none⟩), .func (.func 58) #[] #[.pointer (some ⟨w.heap.size, 0, none⟩)]] W1 fun e w' => ∃ v, e = .returned v ∧ w'.ownsRow W1.heap.size 3 1 v (A.wl (A.apart)).length (ints (A.wl (A.apart))) ∧ Below W1.heap.size W1 w') := wanted_apart (h.still b1) _ c0
  have HB : Hid (Below w.heap.size w W1) := b1
  have Hg : Hid (A.agr = (A.chg && ((A.wl A.apart).length == 0))) := rfl
  clear h b1 k1
  generalize (A.wl (A.apart)).length = m at *
  cases hc : A.chg with
  | false =>
    rw [hc] at c1 Hg
    go_enter Try.func51, Try.ntmps51
    go_wp2
    go_ret
    exact ⟨by rw [Hg.out]; rfl, HB.out⟩
  | true =>
    rw [hc] at c1 Hg
    by_cases hm : m = 0
    · have Hm : Hid (m = 0) := hm
      subst hm
      go_enter Try.func51, Try.ntmps51
      go_wp2_with (first | (go_at_call 59; refine HW.out.mono ?_; rintro e w2 ⟨v, rfl, ho, hb2⟩; obtain ⟨ao, cp, rfl⟩ := own_slice ho; have HB2 : Hid (Below W1.heap.size W1 w2) := hb2; clear ho hb2) | fail)
      go_ret
      exact ⟨by rw [Hg.out]; rfl, bstep HB.out HB2.out⟩
    · have Hm : Hid (¬ m = 0) := hm
      have e1 : ¬ ((m : Int) = 0) := by omega
      have e2 : ((m : Int) == 0) = false := by simpa using e1
      go_enter Try.func51, Try.ntmps51
      go_wp2_with (first | (go_at_call 59; refine HW.out.mono ?_; rintro e w2 ⟨v, rfl, ho, hb2⟩; obtain ⟨ao, cp, rfl⟩ := own_slice ho; have HB2 : Hid (Below W1.heap.size W1 w2) := hb2; clear ho hb2) | fail)
      go_ret
      exact ⟨by rw [Hg.out, show (m == 0) = false by simpa using Hm.out]; simp_all, bstep HB.out HB2.out⟩
set_option maxHeartbeats 1000000 in
theorem trans_any (h : A.Ok w B T) : Calls Try.prog 53 #[.pointer (some ⟨A.b, 0, none⟩)] w fun e w' => ∃ v, e = .returned v ∧ w'.ownsRow w.heap.size 3 1 v (A.wl (A.tog)).length (ints (A.wl (A.tog))) ∧ Below w.heap.size w w' := by
  generalize hW1 : w.alloc (.cells #[.pointer (some ⟨A.b, 0, none⟩)] 25) = W1
  have b1 : Below w.heap.size w W1 := hW1 ▸ balloc (Below.refl _ _)
  have k1 : W1.heap[w.heap.size]? = some (.cells #[.pointer (some ⟨A.b, 0, none⟩)] 25 (0, 0)) := by rw [← hW1]; exact heap_alloc_new w _
  have c0 : W1.cell? ⟨w.heap.size, 0, none⟩ = some (.pointer (some ⟨A.b, 0, none⟩)) := blk_cell k1 0
  have HW : Hid (Calls Try.prog 59 #[.pointer (some ⟨A.b, 0, none⟩), .func (.func 61) #[] #[.pointer (some ⟨w.heap.size, 0, none⟩)]] W1 fun e w' => ∃ v, e = .returned v ∧ w'.ownsRow W1.heap.size 3 1 v (A.wl (A.tog)).length (ints (A.wl (A.tog))) ∧ Below W1.heap.size W1 w') := wanted_tog (h.still b1) _ c0
  have HB : Hid (Below w.heap.size w W1) := b1
  clear h b1 k1
  go_enter Try.func53, Try.ntmps53
  go_wp2_with (first | (go_at_call 59; refine HW.out.mono ?_; rintro e w2 ⟨v, rfl, ho, hb2⟩) | fail)
  go_ret
  exact ⟨_, rfl, own_lower ho HB.out.size, bstep HB.out hb2⟩
end
end Go.Proofs.Ytbdefhagpgpoiaa.Mb
