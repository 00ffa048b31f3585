import Derived.Test.YtbjpbcanmpimnabItem6
import Derived.Test.YtbjpbcanmpimnabBookAt
import Derived.Test.YtbjpbcanmpimnabOpenItem
import Derived.Test.YtbjpbcanmpimnabRows
import Derived.SizedLaws
import Derived.WalkKit
import Derived.ProofKit
import Derived.OpenShut
import Derived.ShutString
import Derived.ChangeOld
import Derived.Below
namespace Go.Proofs.Ytbjpbcanmpimnab.wireItems
open Go.ChangeShapes Go.WideShapes Go.ChangeAt Go.RowKit
open Go.ChangeMaps (open_string shut_string)
set_option linter.unusedVariables false

theorem num_any (v : Int) (w : World) : Calls Try.prog 9 #[.int .i64 v] w fun e w' => e = .returned (.int .i64 v) ∧ w = w' := by
  go_enter Try.func9, Try.ntmps9
  go_wp2
  go_ret
  exact ⟨rfl, rfl⟩

open Lo Bk

theorem same_own (a1 a2 : Option Addr) (n c1 c2 b1 b2 : Nat) (X : List Int) (w : World) (h1 : Own w b1 (.slice a1 n c1) X) (h2 : Own w b2 (.slice a2 n c2) X) (hr : ∀ i, 0 ≤ X.getD i 0 ∧ X.getD i 0 ≤ 255) (hlen : n ≤ 140737488355328) :
    Calls Try.prog 13 #[.slice a1 n c1, .slice a2 n c2] w fun e w' => e = .returned (.bool true) ∧ Below w.heap.size w w' :=
  same_any a1 a2 n c1 c2 X w (own_src h1 hr) (own_src h2 hr) hlen

theorem encI_eq (k s q st : Int) (ao : Option Addr) (c : Nat) (body : List Int) (p st2 ss sq : Int) (X : List Int) (e0 : Int) (w : World) (hr : Rd w ao body.length c body) (hp : p ≥ -9223372036854775808) (hX : itemX k s q st body p st2 ss sq = X) (hE : itemE k s q st body.length p st2 ss sq = e0) :
    Calls Try.prog 8 #[.agg #[.int .i64 k, .int .i64 s, .int .i64 q, .int .i64 st, .slice ao body.length c, .int .i64 p, .int .i64 st2, .int .i64 ss, .int .i64 sq]] w fun e w' => ∃ a1 c1, e = .returned (.tuple #[.slice a1 X.length c1, .int .i64 e0]) ∧ Own w' w.heap.size (.slice a1 X.length c1) X ∧ Below w.heap.size w w' := by
  subst hX hE
  refine (encI_any k s q st ao c body p st2 ss sq w hr hp).mono ?_
  rintro e w' ⟨v', rfl, ho, hb⟩
  obtain ⟨a1, c1, rfl, _⟩ := ho.rdAny (itemX_range k s q st body p st2 ss sq hr.2.2.2)
  exact ⟨a1, c1, rfl, ho, hb⟩

theorem rencI_eq (k s q st : Int) (ao : Option Addr) (c : Nat) (body : List Int) (p st2 ss sq : Int) (X : List Int) (e0 : Int) (w : World) (hr : Rd w ao body.length c body) (hp : p ≥ -9223372036854775808) (hX : itemX k s q st body p st2 ss sq = X) (hE : itemE k s q st body.length p st2 ss sq = e0) :
    Calls Try.prog 14 #[.agg #[.int .i64 k, .int .i64 s, .int .i64 q, .int .i64 st, .slice ao body.length c, .int .i64 p, .int .i64 st2, .int .i64 ss, .int .i64 sq]] w fun e w' => ∃ a1 c1, e = .returned (.tuple #[.slice a1 X.length c1, .int .i64 e0]) ∧ Own w' w.heap.size (.slice a1 X.length c1) X ∧ Below w.heap.size w w' := by
  subst hX hE
  refine (rencI_any k s q st ao c body p st2 ss sq w hr hp).mono ?_
  rintro e w' ⟨v', rfl, ho, hb⟩
  obtain ⟨a1, c1, rfl, _⟩ := ho.rdAny (itemX_range k s q st body p st2 ss sq hr.2.2.2)
  exact ⟨a1, c1, rfl, ho, hb⟩

theorem rd_nil (w : World) : Rd w none ([] : List Int).length 0 [] := ⟨rfl, fun _ => ⟨rfl, rfl⟩, .inl rfl, by simp⟩

set_option maxRecDepth 100000 in
set_option maxHeartbeats 4000000 in
theorem core (k s q st : Int) (ao : Option Addr) (cap : Nat) (bs : List Int) (p st2 ss sq : Int) (w : World) (hr : Rd w ao bs.length cap bs) (hlen : bs.length ≤ 140737488351232) (hp : p ≥ -9223372036854775808) :
    Calls Try.prog 4 #[.agg #[.int .i64 k, .int .i64 s, .int .i64 q, .int .i64 st, .slice ao bs.length cap, .int .i64 p, .int .i64 st2, .int .i64 ss, .int .i64 sq]] w fun e w' => e = .returned (.bool true) ∧ Below w.heap.size w w' := by
  have Hr : Hid (Rd w ao bs.length cap bs) := hr
  obtain ⟨X, hX⟩ : ∃ X, itemX k s q st bs p st2 ss sq = X := ⟨_, rfl⟩
  obtain ⟨E, hE⟩ : ∃ E, itemE k s q st bs.length p st2 ss sq = E := ⟨_, rfl⟩
  have HX : Hid (itemX k s q st bs p st2 ss sq = X) := hX
  have HE : Hid (itemE k s q st bs.length p st2 ss sq = E) := hE
  have hXl : X.length ≤ 300 := by rw [← hX]; exact itemX_len _ _ _ _ _ _ _ _ _
  have HXr : Hid (∀ i, 0 ≤ X.getD i 0 ∧ X.getD i 0 ≤ 255) := by rw [← hX]; exact itemX_range _ _ _ _ _ _ _ _ _ hr.2.2.2
  clear hr hX hE
  go_enter Try.func4, Try.ntmps4
  go_wp2_with fail
  have HI0 : Hid ((w.alloc (.cells #[.int .i64 k, .int .i64 s, .int .i64 q, .int .i64 st, .slice ao bs.length cap, .int .i64 p, .int .i64 st2, .int .i64 ss, .int .i64 sq] 28)).heap[w.heap.size]? = some (.cells #[.int .i64 k, .int .i64 s, .int .i64 q, .int .i64 st, .slice ao bs.length cap, .int .i64 p, .int .i64 st2, .int .i64 ss, .int .i64 sq] 28 (0, 0))) := heap_alloc_new w _
  have Hb0 : Hid (Below w.heap.size w (w.alloc (.cells #[.int .i64 k, .int .i64 s, .int .i64 q, .int .i64 st, .slice ao bs.length cap, .int .i64 p, .int .i64 st2, .int .i64 ss, .int .i64 sq] 28))) := balloc (Below.refl _ _)
  generalize hw0 : w.alloc (.cells #[.int .i64 k, .int .i64 s, .int .i64 q, .int .i64 st, .slice ao bs.length cap, .int .i64 p, .int .i64 st2, .int .i64 ss, .int .i64 sq] 28) = W0 at *
  have z0 : w.heap.size < W0.heap.size := by rw [← hw0]; simp
  generalize hib : w.heap.size = ib at *
  clear hw0
  refine (rencI_eq k s q st ao cap bs p st2 ss sq X E _ (Hr.out.below (by rw [hib]; exact Hb0.out)) hp HX.out HE.out).mono ?_
  rintro e w1 ⟨aw, cw, rfl, how, hb1⟩
  have Hw1 : Hid (Own w1 W0.heap.size (.slice aw X.length cw) X) := how
  have HI1 : Hid (w1.heap[ib]? = some (.cells #[.int .i64 k, .int .i64 s, .int .i64 q, .int .i64 st, .slice ao bs.length cap, .int .i64 p, .int .i64 st2, .int .i64 ss, .int .i64 sq] 28 (0, 0))) := (hb1.block ib z0).trans HI0.out
  have Hb1 : Hid (Below ib w w1) := by rw [← hib] at Hb0 ⊢; exact bstep Hb0.out hb1
  have z1 := hb1.size
  have hpc := fun i => blk_cell HI1.out i
  have hpa := fun o i => blk_cell (blk_alloc (o := o) HI1.out) i
  clear how hb1
  go_wp2_with fail
  have HJ2 : Hid ((w1.alloc (.cells #[.int .i64 k, .int .i64 s, .int .i64 q, .int .i64 st, .slice ao bs.length cap, .int .i64 p, .int .i64 st2, .int .i64 ss, .int .i64 sq] 28)).heap[w1.heap.size]? = some (.cells #[.int .i64 k, .int .i64 s, .int .i64 q, .int .i64 st, .slice ao bs.length cap, .int .i64 p, .int .i64 st2, .int .i64 ss, .int .i64 sq] 28 (0, 0))) := heap_alloc_new w1 _
  have HI2 : Hid ((w1.alloc (.cells #[.int .i64 k, .int .i64 s, .int .i64 q, .int .i64 st, .slice ao bs.length cap, .int .i64 p, .int .i64 st2, .int .i64 ss, .int .i64 sq] 28)).heap[ib]? = some (.cells #[.int .i64 k, .int .i64 s, .int .i64 q, .int .i64 st, .slice ao bs.length cap, .int .i64 p, .int .i64 st2, .int .i64 ss, .int .i64 sq] 28 (0, 0))) := blk_alloc HI1.out
  have Hb2 : Hid (Below ib w (w1.alloc (.cells #[.int .i64 k, .int .i64 s, .int .i64 q, .int .i64 st, .slice ao bs.length cap, .int .i64 p, .int .i64 st2, .int .i64 ss, .int .i64 sq] 28))) := by rw [← hib] at Hb1 ⊢; exact balloc Hb1.out
  have Hw2 : Hid (Own (w1.alloc (.cells #[.int .i64 k, .int .i64 s, .int .i64 q, .int .i64 st, .slice ao bs.length cap, .int .i64 p, .int .i64 st2, .int .i64 ss, .int .i64 sq] 28)) W0.heap.size (.slice aw X.length cw) X) := Hw1.out.alloc _
  generalize hw2 : w1.alloc (.cells #[.int .i64 k, .int .i64 s, .int .i64 q, .int .i64 st, .slice ao bs.length cap, .int .i64 p, .int .i64 st2, .int .i64 ss, .int .i64 sq] 28) = w2 at *
  have z2 : w1.heap.size < w2.heap.size := by rw [← hw2]; simp
  generalize hxb : w1.heap.size = xb at *
  clear hw2 hpc hpa Hw1
  refine (L_shape ao cap bs _ (Hr.out.below (by rw [hib]; exact Hb2.out)) (by omega)).mono ?_
  rintro e w3 ⟨g, capl, rfl, hcl, hg, ho3, hb3⟩
  have HJ3 : w3.heap[xb]? = some (.cells #[.int .i64 k, .int .i64 s, .int .i64 q, .int .i64 st, .slice ao bs.length cap, .int .i64 p, .int .i64 st2, .int .i64 ss, .int .i64 sq] 28 (0, 0)) := (hb3.block xb z2).trans HJ2.out
  have HI3 : w3.heap[ib]? = some (.cells #[.int .i64 k, .int .i64 s, .int .i64 q, .int .i64 st, .slice ao bs.length cap, .int .i64 p, .int .i64 st2, .int .i64 ss, .int .i64 sq] 28 (0, 0)) := (hb3.block ib (by omega)).trans HI2.out
  have hpi := fun i => blk_cell HI3 i
  have hpj := fun i => blk_cell HJ3 i
  have hfz : w3.frozen? ⟨xb, 4, none⟩ = false := frozen_of_row w3 xb 4 _ 28 HJ3
  have hKs : Kept w3 (w3.setCell ⟨xb, 4, none⟩ (.slice (some ⟨g, 0, none⟩) bs.length capl)) (fun j => j = xb) := ⟨rfl, rfl, rfl, by simp, fun j hj hq => Below.heap_setCell w3 ⟨xb, 4, none⟩ _ j hq⟩
  have z3 := hb3.size
  have zg := (ho3.lt g rfl).2
  have Hw : Hid (Own (w3.setCell ⟨xb, 4, none⟩ (.slice (some ⟨g, 0, none⟩) bs.length capl)) W0.heap.size (.slice aw X.length cw) X) := hKs.owns (owns_below Hw2.out hb3) (fun j hj e => by subst e; have := own_notType (owns_below Hw2.out hb3) HJ3 (by decide); exact this hj.symm)
  have Ho : Hid (Own (w3.setCell ⟨xb, 4, none⟩ (.slice (some ⟨g, 0, none⟩) bs.length capl)) w2.heap.size (.slice (some ⟨g, 0, none⟩) (bs ++ marks 64).length capl) (bs ++ marks 64)) := hKs.owns ho3 (fun j hj e => by subst e; have := (ho3.lt j hj).1; omega)
  have HJ : Hid ((w3.setCell ⟨xb, 4, none⟩ (.slice (some ⟨g, 0, none⟩) bs.length capl)).heap[xb]? = some (.cells #[.int .i64 k, .int .i64 s, .int .i64 q, .int .i64 st, .slice (some ⟨g, 0, none⟩) bs.length capl, .int .i64 p, .int .i64 st2, .int .i64 ss, .int .i64 sq] 28 (0, 0))) := heap_setCell_same w3 xb 4 _ 28 _ HJ3
  have HI : Hid ((w3.setCell ⟨xb, 4, none⟩ (.slice (some ⟨g, 0, none⟩) bs.length capl)).heap[ib]? = some (.cells #[.int .i64 k, .int .i64 s, .int .i64 q, .int .i64 st, .slice ao bs.length cap, .int .i64 p, .int .i64 st2, .int .i64 ss, .int .i64 sq] 28 (0, 0))) := (Below.heap_setCell w3 ⟨xb, 4, none⟩ _ ib (by simp; omega)).trans HI3
  have Hb : Hid (Below ib w (w3.setCell ⟨xb, 4, none⟩ (.slice (some ⟨g, 0, none⟩) bs.length capl))) := by
    have h1 : Below ib w w3 := by rw [← hib] at Hb2 ⊢; exact bstep Hb2.out hb3
    exact h1.trans (hKs.below (by have := h1.size; omega) (fun k hk e => by omega))
  have zs : (w3.setCell ⟨xb, 4, none⟩ (.slice (some ⟨g, 0, none⟩) bs.length capl)).heap.size = w3.heap.size := by simp
  have hqj := fun i => blk_cell HJ.out i
  have hqi := fun i => blk_cell HI.out i
  clear hKs ho3 hb3 HI3 HJ3 Hw2
  go_wp2_with fail
  have Hr3 : Hid (Rd (w3.setCell ⟨xb, 4, none⟩ (.slice (some ⟨g, 0, none⟩) bs.length capl)) ao bs.length cap bs) := Hr.out.below (by rw [hib]; exact Hb.out)
  have Hg3 : Hid (Rd (w3.setCell ⟨xb, 4, none⟩ (.slice (some ⟨g, 0, none⟩) bs.length capl)) (some ⟨g, 0, none⟩) bs.length capl bs) := Ho.out.rdPrefix Hr.out.2.2.2
  clear hpi hpj hfz hqj hqi HI0 HI1 HI2 HJ2 Hb0 Hb1 Hb2
  generalize hW : w3.setCell ⟨xb, 4, none⟩ (.slice (some ⟨g, 0, none⟩) bs.length capl) = W at *
  clear hW
  obtain ⟨B, hB⟩ : ∃ B, B = W.heap.size := ⟨_, rfl⟩
  have sW : W.heap.size = B := hB.symm
  have zi : ib < B := by omega
  have zx : xb < B := by omega
  refine (encI_eq k s q st (some ⟨g, 0, none⟩) capl bs p st2 ss sq X E _ Hg3.out hp HX.out HE.out).mono ?_
  rintro e w4 ⟨ac, cc, rfl, hoc, hb4⟩
  have Hc4 : Hid (Own w4 B (.slice ac X.length cc) X) := by rw [hB]; exact hoc
  have Hb4 : Hid (Below B W w4) := by rw [hB]; exact hb4
  have z4 := hb4.size
  clear hoc hb4
  go_wp2_with fail
  refine (encI_eq 2 0 0 0 none 0 [] 9 1 3 4 [2, 9, 1, 3, 4] 0 _ (rd_nil _) (by decide) (by decide) (by decide)).mono ?_
  rintro e w5 ⟨ad, cd, rfl, hod, hb5⟩
  have Hd5 : Hid (Own w5 w4.heap.size (.slice ad ([2, 9, 1, 3, 4] : List Int).length cd) [2, 9, 1, 3, 4]) := hod
  have Hc5 : Hid (Own w5 B (.slice ac X.length cc) X) := owns_below Hc4.out hb5
  have Hb5 : Hid (Below B W w5) := Hb4.out.trans (hb5.mono (by omega))
  have z5 := hb5.size
  have hpx := fun i => blk_cell ((Hb5.out.block xb zx).trans HJ.out) i
  clear hod hb5
  go_wp2_with fail
  clear hpx
  refine (encI_eq k s q st (some ⟨g, 0, none⟩) capl bs p st2 ss sq X E _ (Hg3.out.below (by rw [sW]; exact Hb5.out)) hp HX.out HE.out).mono ?_
  rintro e w6 ⟨aa, ca, rfl, hoa, hb6⟩
  have Ha6 : Hid (Own w6 w5.heap.size (.slice aa X.length ca) X) := hoa
  have Hc6 : Hid (Own w6 B (.slice ac X.length cc) X) := owns_below Hc5.out hb6
  have Hd6 : Hid (Own w6 w4.heap.size (.slice ad ([2, 9, 1, 3, 4] : List Int).length cd) [2, 9, 1, 3, 4]) := owns_below Hd5.out hb6
  have Hb6 : Hid (Below B W w6) := Hb5.out.trans (hb6.mono (by omega))
  have Hw6 : Hid (Own w6 W0.heap.size (.slice aw X.length cw) X) := owns_below Hw.out (by rw [sW]; exact Hb6.out)
  have z6 := hb6.size
  clear hoa hb6
  go_wp2_with fail
  refine (num_any _ _).mono ?_
  rintro e w' ⟨rfl, rfl⟩
  go_wp2_with fail
  refine (num_any _ _).mono ?_
  rintro e w' ⟨rfl, rfl⟩
  go_wp2_with fail
  refine (num_any _ _).mono ?_
  rintro e w' ⟨rfl, rfl⟩
  go_wp2_with fail
  refine (same_own _ _ _ _ _ _ _ X _ Hc6.out Hw6.out HXr.out (by omega)).mono ?_
  rintro e w7 ⟨rfl, hb7⟩
  have Hb7 : Hid (Below w6.heap.size w6 w7) := hb7
  have z7 := hb7.size
  clear hb7
  go_wp2_with fail
  refine (same_own _ _ _ _ _ _ _ X _ (owns_below Ha6.out Hb7.out) (owns_below Hw6.out Hb7.out) HXr.out (by omega)).mono ?_
  rintro e w8 ⟨rfl, hb8⟩
  have Hb8 : Hid (Below w6.heap.size w6 w8) := bstep Hb7.out hb8
  have HbW8 : Hid (Below B W w8) := Hb6.out.trans (Hb8.out.mono (by omega))
  have z8 := hb8.size
  have hpx := fun i => blk_cell ((HbW8.out.block xb zx).trans HJ.out) i
  have hpi := fun i => blk_cell ((HbW8.out.block ib zi).trans HI.out) i
  clear hb8
  go_wp2_with fail
  clear hpx hpi
  refine (sameI_any k s q st p st2 ss sq _ _ bs.length _ _ bs _ (Hg3.out.below (by rw [sW]; exact HbW8.out)) (Hr3.out.below (by rw [sW]; exact HbW8.out)) (by omega)).mono ?_
  rintro e w9 ⟨rfl, hb9⟩
  have Hb9 : Hid (Below w6.heap.size w6 w9) := bstep Hb8.out hb9
  have z9 := hb9.size
  have HbW9 : Hid (Below B W w9) := HbW8.out.trans (hb9.mono (by omega))
  have hpi := fun i => blk_cell ((HbW9.out.block ib zi).trans HI.out) i
  clear hb9
  go_wp2_with fail
  clear hpi
  refine (unspoilt_own g capl w2.heap.size ao cap bs _ (Hr3.out.below (by rw [sW]; exact HbW9.out)) (by omega) (owns_below Ho.out (by rw [sW]; exact HbW9.out))).mono ?_
  rintro e w10 ⟨rfl, hb10⟩
  have Hb10 : Hid (Below B W w10) := HbW9.out.trans (hb10.mono (by omega))
  have Hb610 : Hid (Below w6.heap.size w6 w10) := bstep Hb9.out hb10
  have z10 := hb10.size
  clear hb10
  have H11 : Hid (BkAt (w10.alloc (.cells #[.slice none 0 0, .slice none 0 0, .int .i64 0] 46)) B w10.heap.size 0 []) := book_new w10 B (by omega)
  have Hb11 : Hid (Below w10.heap.size w10 (w10.alloc (.cells #[.slice none 0 0, .slice none 0 0, .int .i64 0] 46))) := (Below.refl _ _).alloc (Nat.le_refl _) _
  go_wp2_with fail
  generalize hkb : w10.heap.size = kb at *
  generalize hw11 : w10.alloc (.cells #[.slice none 0 0, .slice none 0 0, .int .i64 0] 46) = w11 at *
  have hkb' : kb ≤ w11.heap.size := by have := Hb11.out.size; omega
  clear hw11
  have Hb611 : Hid (Below w6.heap.size w6 w11) := Hb610.out.trans (Hb11.out.mono (by omega))
  have HbW11 : Hid (Below B W w11) := Hb10.out.trans (Hb11.out.mono (by omega))
  have Ha11 : Hid (Own w11 w5.heap.size (.slice aa X.length ca) X) := owns_below Ha6.out Hb611.out
  have Hc11 : Hid (Own w11 B (.slice ac X.length cc) X) := owns_below Hc6.out Hb611.out
  have Hd11 : Hid (Own w11 w4.heap.size (.slice ad ([2, 9, 1, 3, 4] : List Int).length cd) [2, 9, 1, 3, 4]) := owns_below Hd6.out Hb611.out
  have LC : Hid (∀ k, (Value.slice ac X.length cc).ownBlock = some k → B ≤ k ∧ k < w4.heap.size) := fun k hk => Hc4.out.lt k hk
  have LD : Hid (∀ k, (Value.slice ad ([2, 9, 1, 3, 4] : List Int).length cd).ownBlock = some k → w4.heap.size ≤ k ∧ k < w5.heap.size) := fun k hk => Hd5.out.lt k hk
  have LA : Hid (∀ k, (Value.slice aa X.length ca).ownBlock = some k → w5.heap.size ≤ k ∧ k < w6.heap.size) := fun k hk => Ha6.out.lt k hk
  clear Hc4 Hd5 Ha6 Hc6 Hd6 Hw6 Hc5 Hb610 Hb10 Hb11 HbW9 HbW8 Hb9 Hb8 Hb7 Hb6 Hb5 Hb4 Hb611
  refine (keep_at B kb 0 [] _ _ B X w11 H11.out Hc11.out (by omega) (by omega) (by simp) HXr.out (by omega) (by simp)).mono ?_
  rintro e w12 ⟨rfl, p1, hk1, hg1', hB1, hh1, hsp⟩
  have K12 : Hid (BkAt w12 B kb 1 [p1]) := hk1
  have G1 : Hid (p1.gr = p1.dn ∧ p1.B = .slice ac X.length cc ∧ ∀ k, holds p1 k → (Value.slice ac X.length cc).ownBlock = some k ∨ w11.heap.size ≤ k) := ⟨hg1', hB1, hh1⟩
  have Ha12 : Hid (Own w12 w5.heap.size (.slice aa X.length ca) X) := hsp.u8 Ha11.out (by simp)
  have Hd12 : Hid (Own w12 w4.heap.size (.slice ad ([2, 9, 1, 3, 4] : List Int).length cd) [2, 9, 1, 3, 4]) := hsp.u8 Hd11.out (by simp)
  have HbW12 : Hid (Below B W w12) := HbW11.out.trans hsp.bel
  have z12 := hsp.siz
  clear hk1 hg1' hB1 hh1 hsp
  go_wp2_with fail
  refine (write_at B kb 1 [p1] _ _ w5.heap.size X w12 K12.out Ha12.out (by omega) (by omega) (by simp) (by omega) ?_).mono ?_
  · intro k hk p hp hh
    obtain rfl := List.mem_singleton.1 hp
    have := LA.out k hk
    rcases G1.out.2.2 k hh with e | e
    · have := LC.out k e; omega
    · omega
  rintro e w13 ⟨rfl, p2, hk1, hg1', hB1, hh1, hsp⟩
  have K13 : Hid (BkAt w13 B kb 2 [p1, p2]) := hk1
  have G2 : Hid (p2.gr = p2.dn ∧ p2.B = .slice aa X.length ca ∧ ∀ k, holds p2 k → (Value.slice aa X.length ca).ownBlock = some k ∨ w12.heap.size ≤ k) := ⟨hg1', hB1, hh1⟩
  have Hd13 : Hid (Own w13 w4.heap.size (.slice ad ([2, 9, 1, 3, 4] : List Int).length cd) [2, 9, 1, 3, 4]) := hsp.u8 Hd12.out (fun k hk e => by have := LD.out k hk; have := LA.out k e; omega)
  have HbW13 : Hid (Below B W w13) := HbW12.out.trans hsp.bel
  have z13 := hsp.siz
  clear hk1 hg1' hB1 hh1 hsp
  go_wp2_with fail
  refine (keep_at B kb 2 [p1, p2] _ _ w4.heap.size [2, 9, 1, 3, 4] w13 K13.out Hd13.out (by omega) (by omega) (by simp) (getD_range (by decide)) (by simp) ?_).mono ?_
  · intro k hk p hp hh
    have := LD.out k hk
    rcases List.mem_cons.1 hp with rfl | hp
    · rcases G1.out.2.2 k hh with e | e
      · have := LC.out k e; omega
      · omega
    · obtain rfl := List.mem_singleton.1 hp
      rcases G2.out.2.2 k hh with e | e
      · have := LA.out k e; omega
      · omega
  rintro e w14 ⟨rfl, p3, hk1, hg1', hB1, hh1, hsp⟩
  have K14 : Hid (BkAt w14 B kb 3 [p1, p2, p3]) := hk1
  have G3 : Hid (p3.gr = p3.dn) := hg1'
  have HbW14 : Hid (Below B W w14) := HbW13.out.trans hsp.bel
  have z14 := hsp.siz
  clear hk1 hg1' hB1 hh1 hsp
  go_wp2_with fail
  refine (settle_at B kb 3 [p1, p2, p3] w14 K14.out (by simp) ?_).mono ?_
  · intro p hp
    rcases List.mem_cons.1 hp with rfl | hp
    · exact G1.out.1
    · rcases List.mem_cons.1 hp with rfl | hp
      · exact G2.out.1
      · obtain rfl := List.mem_singleton.1 hp
        exact G3.out
  rintro e w15 ⟨rfl, qs, hk1, hl1, hg1', hh1, hsp⟩
  have K15 : Hid (BkAt w15 B kb 3 qs) := hk1
  have G15 : Hid (∀ q ∈ qs, q.gr = q.dn) := hg1'
  have HbW15 : Hid (Below B W w15) := HbW14.out.trans hsp.bel
  have z15 := hsp.siz
  have hpi := fun i => blk_cell ((HbW15.out.block ib zi).trans HI.out) i
  clear hk1 hl1 hg1' hh1 hsp
  go_wp2_with fail
  clear hpi
  refine (unspoilt_own g capl w2.heap.size ao cap bs _ (Hr3.out.below (by rw [sW]; exact HbW15.out)) (by omega) (owns_below Ho.out (by rw [sW]; exact HbW15.out))).mono ?_
  rintro e w16 ⟨rfl, hb16⟩
  have HbW16 : Hid (Below B W w16) := HbW15.out.trans (hb16.mono (by omega))
  have K16 : Hid (BkAt w16 B kb 3 qs) := K15.out.below hb16
  have z16 := hb16.size
  have hpx := fun i => blk_cell ((HbW16.out.block xb zx).trans HJ.out) i
  clear hb16
  go_wp2_with fail
  clear hpx
  refine (encI_eq k s q st (some ⟨g, 0, none⟩) capl bs p st2 ss sq X E _ (Hg3.out.below (by rw [sW]; exact HbW16.out)) hp HX.out HE.out).mono ?_
  rintro e w17 ⟨al, cl, rfl, hol, hb17⟩
  have Hl17 : Hid (Own w17 w16.heap.size (.slice al X.length cl) X) := hol
  have HbW17 : Hid (Below B W w17) := HbW16.out.trans (hb17.mono (by omega))
  have K17 : Hid (BkAt w17 B kb 3 qs) := K16.out.below hb17
  have z17 := hb17.size
  clear hol hb17
  go_wp2_with fail
  refine (num_any _ _).mono ?_
  rintro e w' ⟨rfl, rfl⟩
  go_wp2_with fail
  refine (same_own _ _ _ _ _ _ _ X _ Hl17.out (owns_below Hw.out (by rw [sW]; exact HbW17.out)) HXr.out (by omega)).mono ?_
  rintro e w18 ⟨rfl, hb18⟩
  have HbW18 : Hid (Below B W w18) := HbW17.out.trans (hb18.mono (by omega))
  have K18 : Hid (BkAt w18 B kb 3 qs) := K17.out.below hb18
  have z18 := hb18.size
  clear hb18
  go_wp2_with fail
  refine (intact_at B kb 3 qs _ K18.out G15.out).mono ?_
  rintro e w19 ⟨rfl, hb19⟩
  have HF : Hid (Below ib w w19) := Hb.out.trans ((HbW18.out.trans (hb19.mono (by omega))).mono (by omega))
  clear hb19
  go_wp2_with fail
  go_ret
  exact ⟨rfl, by rw [hib]; exact HF.out⟩

set_option maxRecDepth 100000 in
theorem lifted (os : Os) (started : os.Started) (H : Type) (enc : TypeId × Value → H) :
    ReturnsInHanded {} Try.checked os 4 .any (Rows.wireItemsSpec.pre6 enc Try.prog Try.f4 Rows.wireItemsRow.domain false) (Rows.wireItemsSpec.post enc Try.prog Try.f4 false true false false) := by
  refine returnsInHanded_of_change_sized (C := Try.checked) Op.own started (by kernel_rfl) Try.func4
    (ChangeSpec.witness6 (enc := enc) (C := Try.checked) false ⟨#[], #[.agg #[.int .i64 0, .int .i64 0, .int .i64 0, .int .i64 0, .slice none 0 0, .int .i64 0, .int .i64 0, .int .i64 0, .int .i64 0]], []⟩ 8 (by kernel_rfl) (by kernel_rfl) (by kernel_rfl) (by kernel_rfl)) ?_
  intro W base args ds gs before hval0 hW hcnd hsz0 _
  have hsz : (DataW.weightsEach Try.prog (Try.f4.params.toList ++ Rows.wireItemsSpec.plain.varTypes Try.prog) (ds ++ gs)).all (· ≤ reachBytes) = true := hsz0
  clear hsz0
  have hval : ∀ (j : Nat) t v, Try.f4.params[j]? = some t → args[j]? = some v → Value.okWide Try.prog W .any base t v := hval0
  have hW' := hW
  obtain ⟨p, q, hA0, hV, rfl, hfz, hnd⟩ := hW
  have hA : DataW.TrodAll enc Try.prog W 0 (fun _ => true) true Try.f4.params.toList args.toList ds p := hA0
  rw [Try.params4] at hA hval hsz
  obtain ⟨v0, vs0, d0, ds0, p0, q0, hargs, rfl, rfl, h0, r0⟩ := trodAll_cons hA
  obtain ⟨rfl, rfl, rfl⟩ := trodAll_nil r0
  obtain rfl : args = #[v0] := by cases args; simp_all
  obtain ⟨rfl, rfl⟩ := trodVars_none hV
  have k0 := h0
  have lt0 : ∀ x ∈ p0, x.block < W.heap.size := by obtain ⟨m, hm⟩ := k0; exact DataW.trod_lt m _ _ _ hm
  obtain ⟨k, s, q, st, a0, len0, cap0, z0, po, st2, ss, sq, rfl, w0, wpo, rc⟩ := Op.open_item (hval 0 28 v0 rfl rfl) h0
  have rc0 := rc (List.all_eq_true.2 fun n hn => List.all_eq_true.1 hsz n (DataW.weights_mem_each (j := 0) rfl rfl n hn))
  clear hA0 hval0
  have hpo : po ≥ -9223372036854775808 := by simp [Lit.wf, IntKind.min, IntKind.max, IntKind.signed, IntKind.bits] at wpo; omega
  have hrd := Op.rd_of_row w0
  have hl : len0 ≤ cap0 := by rcases w0 with ⟨_, h1, _, _⟩ | ⟨x, _, hl, _⟩ <;> omega
  have hc := core k s q st a0 cap0 (z0.take len0) po st2 ss sq W hrd.1 (by have := hrd.2; omega) hpo
  rw [hrd.2] at hc
  refine hc.mono fun e W' ⟨he, bel⟩ => ?_
  subst he
  exact ⟨_, rfl, _, _, _, [], _, [], hW', trodAll_mk1 (shut_bool Try.underlying4 _), (trodAll_cons_mk (Below.trod Op.laidOut (by kernel_rfl) (of_decide_eq_true (by kernel_rfl)) k0 bel lt0) trodAll_mk0), rfl, bel.frame _, fun h => by cases h⟩

theorem over : Rows.wireItemsRow.holds Try.pinned (OpenSpec.ofChange Rows.wireItemsSpec) :=
  OpenClaim.holds_of_wide 4 Try.f4 rfl rfl rfl rfl rfl rfl rfl ⟨rfl, rfl, rfl, rfl, rfl⟩ rfl rfl rfl rfl rfl (by kernel_rfl) Try.func4 (by kernel_rfl)
    (of_decide_eq_true (by kernel_rfl)) (by unfold Func.isWrapper; first | (rw [if_pos (by decide +kernel)]; kernel_rfl) | (rw [if_neg (by decide +kernel)]; exact ⟨rfl, rfl⟩))
    (fun os started H enc _ => lifted os started H enc)

theorem proved : Rows.WireItemsSaid := over
end Go.Proofs.Ytbjpbcanmpimnab.wireItems

namespace Go.Proofs.Ytbjpbcanmpimnab
theorem wireItems_holds : Rows.WireItemsSaid := wireItems.proved
end Go.Proofs.Ytbjpbcanmpimnab
