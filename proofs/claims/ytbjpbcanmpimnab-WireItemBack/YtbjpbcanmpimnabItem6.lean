import Derived.Test.YtbjpbcanmpimnabItem5
namespace Go.Proofs.Ytbjpbcanmpimnab.Lo
open Go.RowKit
set_option linter.unusedVariables false

theorem blk_spill {w w' : World} {cs : Array Value} {t : TypeId} (hb : Below (w.alloc (.cells cs t)).heap.size (w.alloc (.cells cs t)) w') : w'.heap[w.heap.size]? = some (.cells cs t (0, 0)) :=
  (hb.block w.heap.size (by simp)).trans (heap_alloc_new w _)
theorem blk_keep {W w' : World} {cs : Array Value} {t : TypeId} {kb : Nat} (h : W.heap[kb]? = some (.cells cs t (0, 0))) (hk : KeptT W w') (ht : t ≠ 5) : w'.heap[kb]? = some (.cells cs t (0, 0)) :=
  (hk.2 kb (by rcases Array.getElem?_eq_some_iff.1 h with ⟨h, _⟩; exact h) (fun cur e => by rw [h] at e; simp at e; exact ht e.2)).trans h
theorem blk_alloc {W : World} {cs : Array Value} {t : TypeId} {kb : Nat} {o : Obj} (h : W.heap[kb]? = some (.cells cs t (0, 0))) : (W.alloc o).heap[kb]? = some (.cells cs t (0, 0)) :=
  (Below.heap_alloc W o kb (by rcases Array.getElem?_eq_some_iff.1 h with ⟨h, _⟩; exact h)).trans h
theorem blk_cell {W : World} {cs : Array Value} {t : TypeId} {kb : Nat} (h : W.heap[kb]? = some (.cells cs t (0, 0))) (i : Nat) : W.cell? ⟨kb, i, none⟩ = cs[i]? := cell_of_row W kb i cs t (0, 0) h

set_option maxRecDepth 100000 in
set_option maxHeartbeats 4000000 in
theorem rencI_any (k s q st : Int) (ao : Option Addr) (c : Nat) (body : List Int) (p st2 ss sq : Int) (w : World) (hr : Rd w ao body.length c body) (hp : p ≥ -9223372036854775808) :
    Calls Try.prog 14 #[.agg #[.int .i64 k, .int .i64 s, .int .i64 q, .int .i64 st, .slice ao body.length c, .int .i64 p, .int .i64 st2, .int .i64 ss, .int .i64 sq]] w fun e w' => ∃ v', e = .returned (.tuple #[v', .int .i64 (itemE k s q st body.length p st2 ss sq)]) ∧ Own w' w.heap.size v' (itemX k s q st body p st2 ss sq) ∧ Below w.heap.size w w' := by
  have HR : Hid (Rd w ao body.length c body) := hr
  clear hr
  by_cases hok : itemOK k s q st body.length p st2 ss sq = true
  · have HX : Hid (itemX k s q st body p st2 ss sq = if k = 1 then [1] ++ (puts [s, q, st] ++ (Wm.put 8 body.length ++ body)) else [2] ++ puts [p, st2, ss, sq]) := by unfold itemX; rw [if_pos hok]; exact rfl
    have HE : Hid (itemE k s q st body.length p st2 ss sq = 0) := by unfold itemE; rw [if_pos hok]; exact rfl
    rcases itemOK_cases hok with ⟨rfl, h1, h2, h3, hn⟩ | ⟨rfl, h1, h2, h3, h4⟩
    · rw [HX.out, HE.out]
      simp only [if_true]
      go_enter Try.func14, Try.ntmps14
      go_wp2_with fail
      refine (goodItem_any _ _ _ _ _ _ _ _ _ _ _ _ hp).mono ?_
      rintro e w1 ⟨rfl, hb1⟩
      have hpc := fun i => blk_cell (blk_spill hb1) i
      have hpa := fun o i => blk_cell (blk_alloc (o := o) (blk_spill hb1)) i
      have HB1 : Hid (Below w.heap.size w w1) := bstepA (Below.refl _ _) hb1
      clear hb1
      go_wp2_with fail
      have HO1 : Hid (Own (w1.alloc (.cells #[.int .u8 1] 5)) w.heap.size (.slice (some ⟨w1.heap.size, 0, none⟩) 1 1) [1]) := (own_one w1 1).mono HB1.out.size
      refine (rputData_any w _ [1] s q st ao body.length c body _ HR.out (balloc HB1.out) HO1.out (by simp; omega) h1 h2 h3).mono ?_
      rintro e w2 ⟨v2, rfl, ho2, hb2, -⟩
      have HO2 : Hid (Own w2 w.heap.size v2 ([1] ++ (puts [s, q, st] ++ (Wm.put 8 body.length ++ body)))) := ho2
      have HB2 : Hid (Below w.heap.size w w2) := hb2
      clear ho2 hb2 hpc hpa
      go_wp2_with fail
      go_ret2
      exact ⟨_, rfl, HO2, HB2⟩
    · rw [HX.out, HE.out, if_neg (by decide)]
      have p1 := put_len 8 p
      have p2 := put_len 8 st2
      have p3 := put_len 8 ss
      go_enter Try.func14, Try.ntmps14
      go_wp2_with fail
      refine (goodItem_any _ _ _ _ _ _ _ _ _ _ _ _ hp).mono ?_
      rintro e w1 ⟨rfl, hb1⟩
      have HK1 : Hid ((w1.alloc (.cells #[.int .u8 2] 5)).heap[w.heap.size]? = some (.cells #[.int .i64 2, .int .i64 s, .int .i64 q, .int .i64 st, .slice ao body.length c, .int .i64 p, .int .i64 st2, .int .i64 ss, .int .i64 sq] 28 (0, 0))) := blk_alloc (blk_spill hb1)
      have hpc := fun i => blk_cell (blk_spill hb1) i
      have hpa := fun o i => blk_cell (blk_alloc (o := o) (blk_spill hb1)) i
      have HB1 : Hid (Below w.heap.size w w1) := bstepA (Below.refl _ _) hb1
      clear hb1
      go_wp2_with fail
      have HO1 : Hid (Own (w1.alloc (.cells #[.int .u8 2] 5)) w.heap.size (.slice (some ⟨w1.heap.size, 0, none⟩) 1 1) [2]) := (own_one w1 2).mono HB1.out.size
      have HB1' : Hid (Below w.heap.size w (w1.alloc (.cells #[.int .u8 2] 5))) := balloc HB1.out
      clear hpc hpa
      refine (rput_any w.heap.size _ [2] p _ HO1.out HB1'.out.size h1.1 h1.2 (by simp)).mono ?_
      rintro e w2 ⟨v2, rfl, ho2, hb2, ht2⟩
      have HO2 : Hid (Own w2 w.heap.size v2 ([2] ++ Wm.put 8 p)) := ho2
      have HB2 : Hid (Below w.heap.size w w2) := HB1'.out.trans hb2
      have HK2 : Hid (w2.heap[w.heap.size]? = some (.cells #[.int .i64 2, .int .i64 s, .int .i64 q, .int .i64 st, .slice ao body.length c, .int .i64 p, .int .i64 st2, .int .i64 ss, .int .i64 sq] 28 (0, 0))) := blk_keep HK1.out ht2 (by decide)
      have hpc := fun i => blk_cell HK2.out i
      clear ho2 hb2 ht2
      go_wp2_with fail
      clear hpc
      refine (rput_any w.heap.size _ _ st2 _ HO2.out HB2.out.size h2.1 h2.2 (by simp; omega)).mono ?_
      rintro e w3 ⟨v3, rfl, ho3, hb3, ht3⟩
      have HO3 : Hid (Own w3 w.heap.size v3 ([2] ++ Wm.put 8 p ++ Wm.put 8 st2)) := ho3
      have HB3 : Hid (Below w.heap.size w w3) := HB2.out.trans hb3
      have HK3 : Hid (w3.heap[w.heap.size]? = some (.cells #[.int .i64 2, .int .i64 s, .int .i64 q, .int .i64 st, .slice ao body.length c, .int .i64 p, .int .i64 st2, .int .i64 ss, .int .i64 sq] 28 (0, 0))) := blk_keep HK2.out ht3 (by decide)
      have hpc := fun i => blk_cell HK3.out i
      clear ho3 hb3 ht3
      go_wp2_with fail
      clear hpc
      refine (rput_any w.heap.size _ _ ss _ HO3.out HB3.out.size h3.1 h3.2 (by simp; omega)).mono ?_
      rintro e w4 ⟨v4, rfl, ho4, hb4, ht4⟩
      have HO4 : Hid (Own w4 w.heap.size v4 ([2] ++ Wm.put 8 p ++ Wm.put 8 st2 ++ Wm.put 8 ss)) := ho4
      have HB4 : Hid (Below w.heap.size w w4) := HB3.out.trans hb4
      have HK4 : Hid (w4.heap[w.heap.size]? = some (.cells #[.int .i64 2, .int .i64 s, .int .i64 q, .int .i64 st, .slice ao body.length c, .int .i64 p, .int .i64 st2, .int .i64 ss, .int .i64 sq] 28 (0, 0))) := blk_keep HK3.out ht4 (by decide)
      have hpc := fun i => blk_cell HK4.out i
      clear ho4 hb4 ht4
      go_wp2_with fail
      clear hpc
      refine (rput_any w.heap.size _ _ sq _ HO4.out HB4.out.size h4.1 h4.2 (by simp; omega)).mono ?_
      rintro e w5 ⟨v5, rfl, ho5, hb5, ht5⟩
      have HO5 : Hid (Own w5 w.heap.size v5 ([2] ++ puts [p, st2, ss, sq])) := by
        have e : [2] ++ puts [p, st2, ss, sq] = [2] ++ Wm.put 8 p ++ Wm.put 8 st2 ++ Wm.put 8 ss ++ Wm.put 8 sq := by simp [puts]
        rw [e]; exact ho5
      have HB5 : Hid (Below w.heap.size w w5) := HB4.out.trans hb5
      clear ho5 hb5 ht5
      go_wp2_with fail
      go_ret2
      exact ⟨_, rfl, HO5, HB5⟩
  · have hok' : itemOK k s q st body.length p st2 ss sq = false := by simpa using hok
    have HX : Hid (itemX k s q st body p st2 ss sq = []) := by unfold itemX; rw [if_neg hok]; exact rfl
    have HE : Hid (itemE k s q st body.length p st2 ss sq = 16) := by unfold itemE; rw [if_neg hok]; exact rfl
    rw [HX.out, HE.out]
    clear hok
    go_enter Try.func14, Try.ntmps14
    go_wp2_with fail
    refine (goodItem_any _ _ _ _ _ _ _ _ _ _ _ _ hp).mono ?_
    rintro e w1 ⟨rfl, hb1⟩
    have HB1 : Hid (Below w.heap.size w w1) := bstepA (Below.refl _ _) hb1
    clear hb1
    go_wp2_with fail
    go_ret2
    exact ⟨_, rfl, World.ownsRow_nil _ _ _ _, HB1⟩

theorem sameD_any (s q st : Int) (a1 a2 : Option Addr) (n c1 c2 : Nat) (body : List Int) (w : World) (h1 : Rd w a1 n c1 body) (h2 : Rd w a2 n c2 body) (hlen : n ≤ 140737488355328) :
    Calls Try.prog 38 #[.agg #[.int .i64 s, .int .i64 q, .int .i64 st, .slice a1 n c1], .agg #[.int .i64 s, .int .i64 q, .int .i64 st, .slice a2 n c2]] w fun e w' => e = .returned (.bool true) ∧ Below w.heap.size w w' := by
  have H1 : Hid (Rd w a1 n c1 body) := h1
  have H2 : Hid (Rd w a2 n c2 body) := h2
  clear h1 h2
  go_enter Try.func38, Try.ntmps38
  go_wp2_with fail
  refine (same_any a1 a2 n c1 c2 body _ (H1.out.below (balloc (balloc (Below.refl _ _)))) (H2.out.below (balloc (balloc (Below.refl _ _)))) hlen).mono ?_
  rintro e w1 ⟨rfl, hb1⟩
  have HB1 : Hid (Below w.heap.size w w1) := bstep (balloc (balloc (Below.refl _ _))) hb1
  clear hb1
  go_wp2_with fail
  go_ret
  exact ⟨rfl, HB1⟩

theorem sameI_any (k s q st p st2 ss sq : Int) (a1 a2 : Option Addr) (n c1 c2 : Nat) (body : List Int) (w : World) (h1 : Rd w a1 n c1 body) (h2 : Rd w a2 n c2 body) (hlen : n ≤ 140737488355328) :
    Calls Try.prog 11 #[.agg #[.int .i64 k, .int .i64 s, .int .i64 q, .int .i64 st, .slice a1 n c1, .int .i64 p, .int .i64 st2, .int .i64 ss, .int .i64 sq], .agg #[.int .i64 k, .int .i64 s, .int .i64 q, .int .i64 st, .slice a2 n c2, .int .i64 p, .int .i64 st2, .int .i64 ss, .int .i64 sq]] w fun e w' => e = .returned (.bool true) ∧ Below w.heap.size w w' := by
  have H1 : Hid (Rd w a1 n c1 body) := h1
  have H2 : Hid (Rd w a2 n c2 body) := h2
  clear h1 h2
  go_enter Try.func11, Try.ntmps11
  go_wp2_with fail
  refine (sameD_any s q st a1 a2 n c1 c2 body _ (H1.out.below (balloc (balloc (Below.refl _ _)))) (H2.out.below (balloc (balloc (Below.refl _ _)))) hlen).mono ?_
  rintro e w1 ⟨rfl, hb1⟩
  have HB1 : Hid (Below w.heap.size w w1) := bstep (balloc (balloc (Below.refl _ _))) hb1
  have hp1 := fun i => blk_cell (blk_keep (blk_alloc (heap_alloc_new w (.cells #[.int .i64 k, .int .i64 s, .int .i64 q, .int .i64 st, .slice a1 n c1, .int .i64 p, .int .i64 st2, .int .i64 ss, .int .i64 sq] 28))) (KeptT.ofBelow hb1) (by decide)) i
  have hp2 : ∀ i, w1.cell? ⟨w.heap.size + 1, i, none⟩ = (#[.int .i64 k, .int .i64 s, .int .i64 q, .int .i64 st, .slice a2 n c2, .int .i64 p, .int .i64 st2, .int .i64 ss, .int .i64 sq] : Array Value)[i]? := by
    intro i
    have h := blk_cell (blk_keep (heap_alloc_new (w.alloc (.cells #[.int .i64 k, .int .i64 s, .int .i64 q, .int .i64 st, .slice a1 n c1, .int .i64 p, .int .i64 st2, .int .i64 ss, .int .i64 sq] 28)) _) (KeptT.ofBelow hb1) (by decide)) i
    have e : (w.alloc (.cells #[.int .i64 k, .int .i64 s, .int .i64 q, .int .i64 st, .slice a1 n c1, .int .i64 p, .int .i64 st2, .int .i64 ss, .int .i64 sq] 28)).heap.size = w.heap.size + 1 := by simp
    rw [e] at h
    exact h
  clear hb1
  go_wp2_with fail
  go_ret
  exact ⟨rfl, HB1⟩

end Go.Proofs.Ytbjpbcanmpimnab.Lo
