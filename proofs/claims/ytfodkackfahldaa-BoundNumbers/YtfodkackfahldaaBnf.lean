import Derived.Test.YtfodkackfahldaaBne
namespace Go.Proofs.Ytfodkackfahldaa.Lo
open Go.RowKit
set_option linter.unusedVariables false
set_option linter.unusedSimpArgs false


theorem p_set (no wi ba st ca ro fl d : Int) (ao : Option Addr) (n c : Nat) (xs : List Int) (r : Bool) (E : Int) (hE : E = 22 ∨ (E = 0 ∧ headC no wi ba st ca ro fl n = true)) :
    ∃ A e1, (∀ w, Cf w no wi ba st ca ro fl ao n c xs r E → Calls Try.prog 11 #[.agg #[.int .i64 no, .int .i64 wi, .int .i64 ba, .int .i64 st, .int .i64 ca, .int .i64 ro, .int .i64 fl, .slice ao n c], .int .i64 d] w fun e w' => e = .returned (.tuple #[.int .i64 A, .int .i64 e1]) ∧ Below w.heap.size w w') ∧ (∀ w, Cf w no wi ba st ca ro fl ao n c xs r E → Calls Try.prog 12 #[.agg #[.int .i64 no, .int .i64 wi, .int .i64 ba, .int .i64 st, .int .i64 ca, .int .i64 ro, .int .i64 fl, .slice ao n c], .int .i64 d] w fun e w' => e = .returned (.tuple #[.int .i64 A, .int .i64 e1]) ∧ Below w.heap.size w w') := by
  rcases hE with rfl | ⟨rfl, hg⟩
  · exact ⟨0, 22, fun w h => set_no no wi ba st ca ro fl d ao n c xs r w h, fun w h => rset_no no wi ba st ca ro fl d ao n c xs r w h⟩
  · by_cases hd : 1 ≤ d ∧ d ≤ ba ∧ d ≤ 16
    · exact ⟨_, _, fun w h => Set_ok no wi ba st ca ro fl d ao n c xs r w h hg hd, fun w h => RSet_ok no wi ba st ca ro fl d ao n c xs r w h hg hd⟩
    · exact ⟨_, _, fun w h => Set_bad no wi ba st ca ro fl d ao n c xs r w h hg hd, fun w h => RSet_bad no wi ba st ca ro fl d ao n c xs r w h hg hd⟩


theorem p_del (no wi ba st ca ro fl d : Int) (ao : Option Addr) (n c : Nat) (xs : List Int) (r : Bool) (E : Int) (hE : E = 22 ∨ (E = 0 ∧ headC no wi ba st ca ro fl n = true)) :
    ∃ A e1, (∀ w, Cf w no wi ba st ca ro fl ao n c xs r E → Calls Try.prog 13 #[.agg #[.int .i64 no, .int .i64 wi, .int .i64 ba, .int .i64 st, .int .i64 ca, .int .i64 ro, .int .i64 fl, .slice ao n c], .int .i64 d] w fun e w' => e = .returned (.tuple #[.int .i64 A, .int .i64 e1]) ∧ Below w.heap.size w w') ∧ (∀ w, Cf w no wi ba st ca ro fl ao n c xs r E → Calls Try.prog 14 #[.agg #[.int .i64 no, .int .i64 wi, .int .i64 ba, .int .i64 st, .int .i64 ca, .int .i64 ro, .int .i64 fl, .slice ao n c], .int .i64 d] w fun e w' => e = .returned (.tuple #[.int .i64 A, .int .i64 e1]) ∧ Below w.heap.size w w') := by
  rcases hE with rfl | ⟨rfl, hg⟩
  · exact ⟨0, 22, fun w h => del_no no wi ba st ca ro fl d ao n c xs r w h, fun w h => rdel_no no wi ba st ca ro fl d ao n c xs r w h⟩
  · by_cases hd : 1 ≤ d ∧ d ≤ ba ∧ d ≤ 16
    · exact ⟨_, _, fun w h => Del_ok no wi ba st ca ro fl d ao n c xs r w h hg hd, fun w h => RDel_ok no wi ba st ca ro fl d ao n c xs r w h hg hd⟩
    · exact ⟨_, _, fun w h => Del_bad no wi ba st ca ro fl d ao n c xs r w h hg hd, fun w h => RDel_bad no wi ba st ca ro fl d ao n c xs r w h hg hd⟩


theorem p_ans (no wi ba st ca ro fl d : Int) (ao : Option Addr) (n c : Nat) (xs : List Int) (r : Bool) (E : Int) (hE : E = 22 ∨ (E = 0 ∧ headC no wi ba st ca ro fl n = true)) :
    ∃ A e1, (∀ w, Cf w no wi ba st ca ro fl ao n c xs r E → Calls Try.prog 15 #[.agg #[.int .i64 no, .int .i64 wi, .int .i64 ba, .int .i64 st, .int .i64 ca, .int .i64 ro, .int .i64 fl, .slice ao n c], .int .i64 d] w fun e w' => e = .returned (.tuple #[.int .i64 A, .int .i64 e1]) ∧ Below w.heap.size w w') ∧ (∀ w, Cf w no wi ba st ca ro fl ao n c xs r E → Calls Try.prog 16 #[.agg #[.int .i64 no, .int .i64 wi, .int .i64 ba, .int .i64 st, .int .i64 ca, .int .i64 ro, .int .i64 fl, .slice ao n c], .int .i64 d] w fun e w' => e = .returned (.tuple #[.int .i64 A, .int .i64 e1]) ∧ Below w.heap.size w w') := by
  rcases hE with rfl | ⟨rfl, hg⟩
  · exact ⟨0, 22, fun w h => ans_no no wi ba st ca ro fl d ao n c xs r w h, fun w h => rans_no no wi ba st ca ro fl d ao n c xs r w h⟩
  · by_cases hd : 1 ≤ d ∧ d ≤ ba ∧ d ≤ 16
    · exact ⟨_, _, fun w h => Ans_ok no wi ba st ca ro fl d ao n c xs r w h hg hd, fun w h => RAns_ok no wi ba st ca ro fl d ao n c xs r w h hg hd⟩
    · exact ⟨_, _, fun w h => Ans_bad no wi ba st ca ro fl d ao n c xs r w h hg hd, fun w h => RAns_bad no wi ba st ca ro fl d ao n c xs r w h hg hd⟩


theorem p_dou (no wi ba st ca ro fl d : Int) (ao : Option Addr) (n c : Nat) (xs : List Int) (r : Bool) (E : Int) (hE : E = 22 ∨ (E = 0 ∧ headC no wi ba st ca ro fl n = true)) :
    ∃ A e1, (∀ w, Cf w no wi ba st ca ro fl ao n c xs r E → Calls Try.prog 17 #[.agg #[.int .i64 no, .int .i64 wi, .int .i64 ba, .int .i64 st, .int .i64 ca, .int .i64 ro, .int .i64 fl, .slice ao n c], .int .i64 d] w fun e w' => e = .returned (.tuple #[.int .i64 A, .int .i64 e1]) ∧ Below w.heap.size w w') ∧ (∀ w, Cf w no wi ba st ca ro fl ao n c xs r E → Calls Try.prog 18 #[.agg #[.int .i64 no, .int .i64 wi, .int .i64 ba, .int .i64 st, .int .i64 ca, .int .i64 ro, .int .i64 fl, .slice ao n c], .int .i64 d] w fun e w' => e = .returned (.tuple #[.int .i64 A, .int .i64 e1]) ∧ Below w.heap.size w w') := by
  rcases hE with rfl | ⟨rfl, hg⟩
  · exact ⟨0, 22, fun w h => dou_no no wi ba st ca ro fl d ao n c xs r w h, fun w h => rdou_no no wi ba st ca ro fl d ao n c xs r w h⟩
  · by_cases hd : 1 ≤ d ∧ d ≤ no
    · exact ⟨_, _, fun w h => Dou_ok no wi ba st ca ro fl d ao n c xs r w h hg hd, fun w h => RDou_ok no wi ba st ca ro fl d ao n c xs r w h hg hd⟩
    · exact ⟨_, _, fun w h => Dou_bad no wi ba st ca ro fl d ao n c xs r w h hg hd, fun w h => RDou_bad no wi ba st ca ro fl d ao n c xs r w h hg hd⟩


set_option maxRecDepth 100000 in
set_option maxHeartbeats 4000000 in
theorem numbers_any (no wi ba st ca ro fl d s : Int) (ao : Option Addr) (n c : Nat) (xs : List Int) (r : Bool) (E : Int) (w : World) (h : Cf w no wi ba st ca ro fl ao n c xs r E) :
    Calls Try.prog 4 #[.agg #[.int .i64 no, .int .i64 wi, .int .i64 ba, .int .i64 st, .int .i64 ca, .int .i64 ro, .int .i64 fl, .slice ao n c, .int .i64 d, .int .i64 s]] w fun e w' => e = .returned (.bool true) ∧ Below w.heap.size w w' := by
  have hE := h.two
  have HR : Hid (Cf w no wi ba st ca ro fl ao n c xs r E) := h
  obtain ⟨s1, s2, Sp, Sr⟩ := p_set no wi ba st ca ro fl d ao n c xs r E hE
  have Sp : Hid _ := Sp
  have Sr : Hid _ := Sr
  obtain ⟨d1, d2, Dp, Dr⟩ := p_del no wi ba st ca ro fl d ao n c xs r E hE
  have Dp : Hid _ := Dp
  have Dr : Hid _ := Dr
  obtain ⟨a1, a2, Ap, Ar⟩ := p_ans no wi ba st ca ro fl d ao n c xs r E hE
  have Ap : Hid _ := Ap
  have Ar : Hid _ := Ar
  obtain ⟨u1, u2, Up, Ur⟩ := p_dou no wi ba st ca ro fl s ao n c xs r E hE
  have Up : Hid _ := Up
  have Ur : Hid _ := Ur
  clear h hE
  have HK : Hid ((w.alloc (.cells #[.int .i64 no, .int .i64 wi, .int .i64 ba, .int .i64 st, .int .i64 ca, .int .i64 ro, .int .i64 fl, .slice ao n c, .int .i64 d, .int .i64 s] 43)).heap[w.heap.size]? = some (.cells #[.int .i64 no, .int .i64 wi, .int .i64 ba, .int .i64 st, .int .i64 ca, .int .i64 ro, .int .i64 fl, .slice ao n c, .int .i64 d, .int .i64 s] 43 (0, 0))) := heap_new _ _ _
  have HB : Hid (Below w.heap.size w (w.alloc (.cells #[.int .i64 no, .int .i64 wi, .int .i64 ba, .int .i64 st, .int .i64 ca, .int .i64 ro, .int .i64 fl, .slice ao n c, .int .i64 d, .int .i64 s] 43))) := bsp _ _ _
  generalize hF : w.alloc (.cells #[.int .i64 no, .int .i64 wi, .int .i64 ba, .int .i64 st, .int .i64 ca, .int .i64 ro, .int .i64 fl, .slice ao n c, .int .i64 d, .int .i64 s] 43) = F at *
  obtain ⟨k, hk⟩ : ∃ k, w.heap.size = k := ⟨_, rfl⟩
  rw [hk] at HK
  have HKK : Hid (w.heap.size = k) := hk
  have hpc := fun i => blk_cell HK.out i
  go_enter Try.func4, Try.ntmps4
  go_wp2_with (first
    | (go_at_call 11; refine (Sp.out _ (HR.out.below HB.out)).mono ?_; rintro e w' ⟨rfl, hb⟩; have HK : Hid (w'.heap[k]? = some (.cells #[.int .i64 no, .int .i64 wi, .int .i64 ba, .int .i64 st, .int .i64 ca, .int .i64 ro, .int .i64 fl, .slice ao n c, .int .i64 d, .int .i64 s] 43 (0, 0))) := blk_on hb HK.out; have HB : Hid (Below w.heap.size w w') := bst HB.out hb; have hpc := fun i => blk_cell HK.out i; clear hb)
    | (go_at_call 12; refine (Sr.out _ (HR.out.below HB.out)).mono ?_; rintro e w' ⟨rfl, hb⟩; have HK : Hid (w'.heap[k]? = some (.cells #[.int .i64 no, .int .i64 wi, .int .i64 ba, .int .i64 st, .int .i64 ca, .int .i64 ro, .int .i64 fl, .slice ao n c, .int .i64 d, .int .i64 s] 43 (0, 0))) := blk_on hb HK.out; have HB : Hid (Below w.heap.size w w') := bst HB.out hb; have hpc := fun i => blk_cell HK.out i; clear hb)
    | (go_at_call 13; refine (Dp.out _ (HR.out.below HB.out)).mono ?_; rintro e w' ⟨rfl, hb⟩; have HK : Hid (w'.heap[k]? = some (.cells #[.int .i64 no, .int .i64 wi, .int .i64 ba, .int .i64 st, .int .i64 ca, .int .i64 ro, .int .i64 fl, .slice ao n c, .int .i64 d, .int .i64 s] 43 (0, 0))) := blk_on hb HK.out; have HB : Hid (Below w.heap.size w w') := bst HB.out hb; have hpc := fun i => blk_cell HK.out i; clear hb)
    | (go_at_call 14; refine (Dr.out _ (HR.out.below HB.out)).mono ?_; rintro e w' ⟨rfl, hb⟩; have HK : Hid (w'.heap[k]? = some (.cells #[.int .i64 no, .int .i64 wi, .int .i64 ba, .int .i64 st, .int .i64 ca, .int .i64 ro, .int .i64 fl, .slice ao n c, .int .i64 d, .int .i64 s] 43 (0, 0))) := blk_on hb HK.out; have HB : Hid (Below w.heap.size w w') := bst HB.out hb; have hpc := fun i => blk_cell HK.out i; clear hb)
    | (go_at_call 15; refine (Ap.out _ (HR.out.below HB.out)).mono ?_; rintro e w' ⟨rfl, hb⟩; have HK : Hid (w'.heap[k]? = some (.cells #[.int .i64 no, .int .i64 wi, .int .i64 ba, .int .i64 st, .int .i64 ca, .int .i64 ro, .int .i64 fl, .slice ao n c, .int .i64 d, .int .i64 s] 43 (0, 0))) := blk_on hb HK.out; have HB : Hid (Below w.heap.size w w') := bst HB.out hb; have hpc := fun i => blk_cell HK.out i; clear hb)
    | (go_at_call 16; refine (Ar.out _ (HR.out.below HB.out)).mono ?_; rintro e w' ⟨rfl, hb⟩; have HK : Hid (w'.heap[k]? = some (.cells #[.int .i64 no, .int .i64 wi, .int .i64 ba, .int .i64 st, .int .i64 ca, .int .i64 ro, .int .i64 fl, .slice ao n c, .int .i64 d, .int .i64 s] 43 (0, 0))) := blk_on hb HK.out; have HB : Hid (Below w.heap.size w w') := bst HB.out hb; have hpc := fun i => blk_cell HK.out i; clear hb)
    | (go_at_call 17; refine (Up.out _ (HR.out.below HB.out)).mono ?_; rintro e w' ⟨rfl, hb⟩; have HK : Hid (w'.heap[k]? = some (.cells #[.int .i64 no, .int .i64 wi, .int .i64 ba, .int .i64 st, .int .i64 ca, .int .i64 ro, .int .i64 fl, .slice ao n c, .int .i64 d, .int .i64 s] 43 (0, 0))) := blk_on hb HK.out; have HB : Hid (Below w.heap.size w w') := bst HB.out hb; have hpc := fun i => blk_cell HK.out i; clear hb)
    | (go_at_call 18; refine (Ur.out _ (HR.out.below HB.out)).mono ?_; rintro e w' ⟨rfl, hb⟩; have HK : Hid (w'.heap[k]? = some (.cells #[.int .i64 no, .int .i64 wi, .int .i64 ba, .int .i64 st, .int .i64 ca, .int .i64 ro, .int .i64 fl, .slice ao n c, .int .i64 d, .int .i64 s] 43 (0, 0))) := blk_on hb HK.out; have HB : Hid (Below w.heap.size w w') := bst HB.out hb; have hpc := fun i => blk_cell HK.out i; clear hb)
    | fail)
  all_goals go_ret
  all_goals exact ⟨rfl, HB.out⟩
end Go.Proofs.Ytfodkackfahldaa.Lo
