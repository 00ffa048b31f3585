import Derived.Test.YtbjpbcanmpimnabItem4
namespace Go.Proofs.Ytbjpbcanmpimnab.Lo
open Go.RowKit
set_option linter.unusedVariables false

set_option maxRecDepth 100000 in
set_option maxHeartbeats 4000000 in
theorem encI_any (k s q st : Int) (ao : Option Addr) (c : Nat) (body : List Int) (p st2 ss sq : Int) (w : World) (hr : Rd w ao body.length c body) (hp : p ≥ -9223372036854775808) :
    Calls Try.prog 8 #[.agg #[.int .i64 k, .int .i64 s, .int .i64 q, .int .i64 st, .slice ao body.length c, .int .i64 p, .int .i64 st2, .int .i64 ss, .int .i64 sq]] w fun e w' => ∃ v', e = .returned (.tuple #[v', .int .i64 (itemE k s q st body.length p st2 ss sq)]) ∧ Own w' w.heap.size v' (itemX k s q st body p st2 ss sq) ∧ Below w.heap.size w w' := by
  have HR : Hid (Rd w ao body.length c body) := hr
  clear hr
  by_cases hok : itemOK k s q st body.length p st2 ss sq = true
  · have HX : Hid (itemX k s q st body p st2 ss sq = if k = 1 then [1] ++ (puts [s, q, st] ++ (Wm.put 8 body.length ++ body)) else [2] ++ puts [p, st2, ss, sq]) := by unfold itemX; rw [if_pos hok]; exact rfl
    have HE : Hid (itemE k s q st body.length p st2 ss sq = 0) := by unfold itemE; rw [if_pos hok]; exact rfl
    rcases itemOK_cases hok with ⟨rfl, h1, h2, h3, hn⟩ | ⟨rfl, h1, h2, h3, h4⟩
    · rw [HX.out, HE.out]
      simp only [if_true]
      go_enter Try.func8, Try.ntmps8
      go_wp2_with fail
      refine (itemFits_any _ _ _ _ _ _ _ _ _ _ _ _ hp).mono ?_
      rintro e w1 ⟨rfl, hb1⟩
      have hpc : ∀ i, w1.cell? ⟨w.heap.size, i, none⟩ = (#[.int .i64 1, .int .i64 s, .int .i64 q, .int .i64 st, .slice ao body.length c, .int .i64 p, .int .i64 st2, .int .i64 ss, .int .i64 sq] : Array Value)[i]? := spill hb1
      have hpa : ∀ o i, (w1.alloc o).cell? ⟨w.heap.size, i, none⟩ = (#[.int .i64 1, .int .i64 s, .int .i64 q, .int .i64 st, .slice ao body.length c, .int .i64 p, .int .i64 st2, .int .i64 ss, .int .i64 sq] : Array Value)[i]? := fun o => spill (balloc hb1)
      have HB1 : Hid (Below w.heap.size w w1) := bstepA (Below.refl _ _) hb1
      clear hb1
      go_wp2_with fail
      have HO1 : Hid (Own (w1.alloc (.cells #[.int .u8 1] 5)) w.heap.size (.slice (some ⟨w1.heap.size, 0, none⟩) 1 1) [1]) := (own_one w1 1).mono HB1.out.size
      refine (putData_any w _ [1] s q st ao body.length c body _ HR.out (balloc HB1.out) HO1.out (by simp; omega) h1 h2 h3).mono ?_
      rintro e w2 ⟨v2, rfl, ho2, hb2, -⟩
      have HO2 : Hid (Own w2 w.heap.size v2 ([1] ++ (puts [s, q, st] ++ (Wm.put 8 body.length ++ body)))) := ho2
      have HB2 : Hid (Below w.heap.size w w2) := hb2
      clear ho2 hb2 hpc hpa
      go_wp2_with fail
      go_ret2
      exact ⟨_, rfl, HO2, HB2⟩
    · rw [HX.out, HE.out, if_neg (by decide)]
      go_enter Try.func8, Try.ntmps8
      go_wp2_with fail
      refine (itemFits_any _ _ _ _ _ _ _ _ _ _ _ _ hp).mono ?_
      rintro e w1 ⟨rfl, hb1⟩
      have hpc : ∀ i, w1.cell? ⟨w.heap.size, i, none⟩ = (#[.int .i64 2, .int .i64 s, .int .i64 q, .int .i64 st, .slice ao body.length c, .int .i64 p, .int .i64 st2, .int .i64 ss, .int .i64 sq] : Array Value)[i]? := spill hb1
      have hpa : ∀ o i, (w1.alloc o).cell? ⟨w.heap.size, i, none⟩ = (#[.int .i64 2, .int .i64 s, .int .i64 q, .int .i64 st, .slice ao body.length c, .int .i64 p, .int .i64 st2, .int .i64 ss, .int .i64 sq] : Array Value)[i]? := fun o => spill (balloc hb1)
      have HB1 : Hid (Below w.heap.size w w1) := bstepA (Below.refl _ _) hb1
      clear hb1
      go_wp2_with fail
      have HO1 : Hid (Own (w1.alloc (.cells #[.int .u8 2] 5)) w.heap.size (.slice (some ⟨w1.heap.size, 0, none⟩) 1 1) [2]) := (own_one w1 2).mono HB1.out.size
      refine (counts_fresh w (w1.alloc (.cells #[.int .u8 2] 5)) (w1.alloc (.cells #[.int .u8 2] 5)) _ _ [2] [p, st2, ss, sq] 4 _ (by simp) HO1.out (balloc HB1.out) (Below.refl _ _) (balloc (Below.refl _ _)) rfl (heap_alloc_new _ _) (by simp only [List.mem_cons, List.not_mem_nil, or_false]; rintro x (rfl | rfl | rfl | rfl) <;> assumption) (by simp)).mono ?_
      rintro e w2 ⟨v2, rfl, ho2, hb2, -⟩
      have HO2 : Hid (Own w2 w.heap.size v2 ([2] ++ puts [p, st2, ss, sq])) := ho2
      have HB2 : Hid (Below w.heap.size w w2) := hb2
      clear ho2 hb2 hpc hpa
      go_wp2_with fail
      go_ret2
      exact ⟨_, rfl, HO2, HB2⟩
  · have hok' : itemOK k s q st body.length p st2 ss sq = false := by simpa using hok
    have HX : Hid (itemX k s q st body p st2 ss sq = []) := by unfold itemX; rw [if_neg hok]; exact rfl
    have HE : Hid (itemE k s q st body.length p st2 ss sq = 16) := by unfold itemE; rw [if_neg hok]; exact rfl
    rw [HX.out, HE.out]
    clear hok
    go_enter Try.func8, Try.ntmps8
    go_wp2_with fail
    refine (itemFits_any _ _ _ _ _ _ _ _ _ _ _ _ hp).mono ?_
    rintro e w1 ⟨rfl, hb1⟩
    have HB1 : Hid (Below w.heap.size w w1) := bstepA (Below.refl _ _) hb1
    clear hb1
    go_wp2_with fail
    go_ret2
    exact ⟨_, rfl, World.ownsRow_nil _ _ _ _, HB1⟩

end Go.Proofs.Ytbjpbcanmpimnab.Lo
