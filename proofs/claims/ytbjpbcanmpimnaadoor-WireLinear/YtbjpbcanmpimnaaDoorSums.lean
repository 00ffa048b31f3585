import Derived.Test.YtbjpbcanmpimnaaDoorSum
namespace Go.Proofs.YtbjpbcanmpimnaaDoor.wireSums
open Go.RowKit Lo Sm
set_option linter.unusedVariables false

theorem tab_below {w w1 : World} (h : Tab w) (hb : Below w.heap.size w w1) : Tab w1 := fun r hr => (hb.cell (World.block_lt_of_cell? w _ (h r hr))).trans (h r hr)
theorem tab_lt {w : World} (h : Tab w) : 0 < w.heap.size := World.block_lt_of_cell? w _ (h 0 (by decide))
theorem tab_grown {w w1 : World} {g : Nat} (h : Tab w) (hg : w.grownBy w1 (some g)) (h0 : 0 < g) : Tab w1 := fun r hr => hg.cell (h r hr) (by simp; omega)

theorem sum_eq (ao : Option Addr) (len cap : Nat) (bs : List Int) (w : World) (hr : Rd w ao len cap bs) (hlen : len ≤ 140737488355328) (hT : Tab w) (S : Int) (hS : S = ((Crc.crc (nats bs) : Nat) : Int)) :
    Calls Tryd.prog 6 #[.slice ao len cap] w fun e w' => e = .returned (.int .i64 S) ∧ w = w' := by
  rw [hS]; exact (sum_any ao len cap bs w hr hlen hT).mono fun e w' h => ⟨h.1, h.2.symm⟩
theorem rsum_eq (ao : Option Addr) (len cap : Nat) (bs : List Int) (w : World) (hr : Rd w ao len cap bs) (hlen : len ≤ 140737488355328) (S : Int) (hS : S = ((Crc.crc (nats bs) : Nat) : Int)) :
    Calls Tryd.prog 9 #[.slice ao len cap] w fun e w' => e = .returned (.int .i64 S) ∧ w = w' := by
  rw [hS]; exact (rsum_any ao len cap bs w hr hlen).mono fun e w' h => ⟨h.1, h.2.symm⟩

set_option maxHeartbeats 2000000 in
theorem core (ao : Option Addr) (cap : Nat) (bs : List Int) (w : World) (hr : Rd w ao bs.length cap bs) (hlen : bs.length ≤ 140737488351232) (hT : Tab w) :
    Calls Tryd.prog 5 #[.slice ao bs.length cap] w fun e w' => e = .returned (.bool true) ∧ Below w.heap.size w w' := by
  have Hr : Hid (Rd w ao bs.length cap bs) := hr
  have HT : Hid (Tab w) := hT
  clear hr hT
  obtain ⟨S, hS⟩ : ∃ S : Int, S = ((Crc.crc (nats bs) : Nat) : Int) := ⟨_, rfl⟩
  obtain ⟨S', hS'⟩ : ∃ S' : Int, S' = ((Crc.crc (nats (turnTo bs.length bs)) : Nat) : Int) := ⟨_, rfl⟩
  have HS : Hid (S = ((Crc.crc (nats bs) : Nat) : Int)) := hS
  have HS' : Hid (S' = ((Crc.crc (nats (turnTo bs.length bs)) : Nat) : Int)) := hS'
  clear hS hS'
  go_enter Tryd.func5, Tryd.ntmps5
  go_wp2_with fail
  refine (L_shape ao cap bs _ Hr.out (by omega)).mono ?_
  rintro e w1 ⟨g, capl, rfl, hcl, hg, ho1, hb1⟩
  have Ho1 : Hid (Own w1 w.heap.size (.slice (some ⟨g, 0, none⟩) (bs ++ marks 64).length capl) (bs ++ marks 64)) := ho1
  have Hb1 : Hid (Below w.heap.size w w1) := hb1
  have Hr1 : Hid (Rd w1 ao bs.length cap bs) := Hr.out.below hb1
  have Hg1 : Hid (Rd w1 (some ⟨g, 0, none⟩) bs.length capl bs) := ho1.rdPrefix Hr.out.2.2.2
  have HT1 : Hid (Tab w1) := tab_below HT.out hb1
  clear ho1 hb1
  go_wp2_with fail
  refine (sum_eq _ _ _ bs _ Hg1.out (by omega) HT1.out S HS.out).mono ?_
  rintro e w' ⟨rfl, rfl⟩
  go_wp2_with fail
  refine (rsum_eq _ _ _ bs _ Hr1.out (by omega) S HS.out).mono ?_
  rintro e w' ⟨rfl, rfl⟩
  go_wp2_with fail
  refine (unspoilt_own g capl w.heap.size ao cap bs _ Hr1.out (by omega) Ho1.out).mono ?_
  rintro e w2 ⟨rfl, hb2⟩
  have Ho2 : Hid (Own w2 w.heap.size (.slice (some ⟨g, 0, none⟩) (bs ++ marks 64).length capl) (bs ++ marks 64)) := owns_below Ho1.out hb2
  have Hb2 : Hid (Below w.heap.size w w2) := Hb1.out.trans (hb2.mono Hb1.out.size)
  have HT2 : Hid (Tab w2) := tab_below HT1.out hb2
  clear hb2 Hr1 Hg1 Ho1 Hb1 HT1
  go_wp2_with fail
  refine (turn_shape g capl w.heap.size bs (marks 64) _ Ho2.out Hr.out.2.2.2 (by omega)).mono ?_
  rintro e w3 ⟨ao3, cap3, rfl, ho3, hr3, hl3, hg3⟩
  have Hr3 : Hid (Rd w3 ao3 bs.length cap3 (turnTo bs.length bs)) := hr3
  have Ho3 : Hid (Own w3 w.heap.size (.slice (some ⟨g, 0, none⟩) (turnTo bs.length bs ++ marks 64).length capl) (turnTo bs.length bs ++ marks 64)) := by
    have e : (turnTo bs.length bs ++ marks 64).length = (bs ++ marks 64).length := by simp [turnTo_len]
    rw [e]; exact hl3
  have Hg3 : Hid (Rd w3 (some ⟨g, 0, none⟩) bs.length capl (turnTo bs.length bs)) := by
    have h := hl3.rdPrefix (turnTo_range _ bs Hr.out.2.2.2)
    rw [turnTo_len] at h
    exact h
  have Hb3 : Hid (Below w.heap.size w w3) := Hb2.out.grown hg3 Hb2.out.size (fun k hk => by obtain rfl := Option.some.inj hk; exact hg)
  have HT3 : Hid (Tab w3) := tab_grown HT2.out hg3 (by have := tab_lt HT.out; omega)
  clear ho3 hr3 hl3 hg3
  go_wp2_with fail
  refine (sum_eq _ _ _ _ _ Hg3.out (by omega) HT3.out S' HS'.out).mono ?_
  rintro e w' ⟨rfl, rfl⟩
  go_wp2_with fail
  refine (rsum_eq _ _ _ _ _ Hr3.out (by omega) S' HS'.out).mono ?_
  rintro e w' ⟨rfl, rfl⟩
  go_wp2_with fail
  have hu := unspoilt_own g capl w.heap.size ao3 cap3 (turnTo bs.length bs) w3 (by rw [turnTo_len]; exact Hr3.out) (by rw [turnTo_len]; omega) Ho3.out
  rw [turnTo_len] at hu
  refine hu.mono ?_
  clear hu
  rintro e w4 ⟨rfl, hb4⟩
  have Hb4 : Hid (Below w.heap.size w w4) := Hb3.out.trans (hb4.mono Hb3.out.size)
  clear hb4
  go_wp2_with fail
  go_ret
  exact ⟨rfl, Hb4⟩
end Go.Proofs.YtbjpbcanmpimnaaDoor.wireSums
