import Derived.Test.YtbjpbcanmpimnabEnv
import Derived.Test.YtbjpbcanmpimnabOpenItem
import Derived.Test.YtbjpbcanmpimnabRows
import Derived.SizedLaws
import Derived.WalkKit
import Derived.ProofKit
import Derived.OpenShut
import Derived.ShutString
import Derived.ChangeOld
import Derived.Below
namespace Go.Proofs.Ytbjpbcanmpimnab.wireItemTexts
open Go.ChangeShapes Go.WideShapes Go.ChangeAt Go.RowKit
open Go.ChangeMaps (open_string shut_string)
open Lo Bk
set_option linter.unusedVariables false

theorem Env.drop {w : World} {bl : List (Nat × Array Value)} {o : Nat × Value × List Int} {ow : List (Nat × Value × List Int)} (h : Env w bl (o :: ow)) : Env w bl ow := ⟨h.1, fun o hm => h.2 o (List.mem_cons_of_mem _ hm)⟩

theorem own_below {w0 w w1 : World} {base : Nat} {v : Value} {bs : List Int} (h : Own w base v bs) (hb : Below w.heap.size w w1) : Own w1 base v bs := owns_below h hb

set_option maxRecDepth 100000 in
set_option maxHeartbeats 4000000 in
theorem core (ao : Option Addr) (cap : Nat) (bs : List Int) (w : World) (hr : Rd w ao bs.length cap bs) (hnc : bs.length ≤ cap) (hlen : bs.length ≤ 140737488351232) :
    Calls Try.prog 6 #[.slice ao bs.length cap] w fun e w' => e = .returned (.bool true) ∧ Below w.heap.size w w' := by
  have Hr : Hid (Rd w ao bs.length cap bs) := hr
  obtain ⟨k, s, q, st, body, p, st2, ss, sq, E, hI⟩ : ∃ k s q st body p st2 ss sq E, resI bs = (⟨k, s, q, st, body, p, st2, ss, sq⟩, E) := ⟨_, _, _, _, _, _, _, _, _, _, rfl⟩
  obtain ⟨k', s', q', st', body', p', st2', ss', sq', E', hI'⟩ : ∃ k s q st body p st2 ss sq E, resI (turnTo bs.length bs) = (⟨k, s, q, st, body, p, st2, ss, sq⟩, E) := ⟨_, _, _, _, _, _, _, _, _, _, rfl⟩
  have HI : Hid (resI bs = (⟨k, s, q, st, body, p, st2, ss, sq⟩, E)) := hI
  have HI' : Hid (resI (turnTo bs.length bs) = (⟨k', s', q', st', body', p', st2', ss', sq'⟩, E')) := hI'
  have hl : body.length ≤ 256 := by have := resI_len bs; rw [hI] at this; exact this
  have hl' : body'.length ≤ 256 := by have := resI_len (turnTo bs.length bs); rw [hI'] at this; exact this
  have HX : Hid (∀ i, 0 ≤ body.getD i 0 ∧ body.getD i 0 ≤ 255) := by have := resI_range bs hr.2.2.2; rw [hI] at this; exact this
  have HX' : Hid (∀ i, 0 ≤ body'.getD i 0 ∧ body'.getD i 0 ≤ 255) := by have := resI_range (turnTo bs.length bs) (turnTo_range _ bs hr.2.2.2); rw [hI'] at this; exact this
  clear hr hI hI'
  go_enter Try.func6, Try.ntmps6
  go_wp2_with fail
  refine (L_shape ao cap bs _ Hr.out (by omega)).mono ?_
  rintro e w1 ⟨g, capl, rfl, hcl, hg, ho1, hb1⟩
  have Ho1 : Hid (Own w1 w.heap.size (.slice (some ⟨g, 0, none⟩) (bs ++ marks 64).length capl) (bs ++ marks 64)) := ho1
  have Hb1 : Hid (Below w.heap.size w w1) := hb1
  have Hr1 : Hid (Rd w1 ao bs.length cap bs) := Hr.out.below hb1
  have Hg1 : Hid (Rd w1 (some ⟨g, 0, none⟩) bs.length capl bs) := ho1.rdPrefix Hr.out.2.2.2
  have hg1 : g < w1.heap.size := (ho1.lt g rfl).2
  obtain ⟨B, hB⟩ : ∃ B, B = w1.heap.size := ⟨_, rfl⟩
  have s1 : w1.heap.size = B := hB.symm
  clear ho1 hb1
  go_wp2_with fail
  refine (rdec_eq ao bs.length cap bs _ Hr1.out hnc k s q st body p st2 ss sq E HI.out).mono ?_
  rintro e w2 ⟨aw, cw, rfl, how, hb2⟩
  have E2 : Hid (Env (w2.alloc (.cells #[.int .i64 k, .int .i64 s, .int .i64 q, .int .i64 st, .slice aw body.length cw, .int .i64 p, .int .i64 st2, .int .i64 ss, .int .i64 sq] 28)) [(w2.heap.size, #[.int .i64 k, .int .i64 s, .int .i64 q, .int .i64 st, .slice aw body.length cw, .int .i64 p, .int .i64 st2, .int .i64 ss, .int .i64 sq])] [(B, .slice aw body.length cw, body)]) := ((Env.nil w2).own (by rw [hB]; exact how)).alloc _ rfl
  have Hb2 : Hid (Below B w1 (w2.alloc (.cells #[.int .i64 k, .int .i64 s, .int .i64 q, .int .i64 st, .slice aw body.length cw, .int .i64 p, .int .i64 st2, .int .i64 ss, .int .i64 sq] 28))) := by rw [hB]; exact balloc hb2
  have LW : Hid (∀ j, (Value.slice aw body.length cw).ownBlock = some j → B ≤ j ∧ j < w2.heap.size) := fun j hj => by rw [hB]; exact how.lt j hj
  have z2 := hb2.size
  clear how hb2
  go_wp2_with fail
  generalize hW2 : w2.alloc (.cells #[.int .i64 k, .int .i64 s, .int .i64 q, .int .i64 st, .slice aw body.length cw, .int .i64 p, .int .i64 st2, .int .i64 ss, .int .i64 sq] 28) = W2 at *
  have y2 : W2.heap.size = w2.heap.size + 1 := by rw [← hW2]; simp
  generalize hwb : w2.heap.size = wb at *
  clear hW2
  refine (dec_eq (some ⟨g, 0, none⟩) bs.length capl bs W2 (Hg1.out.below (by rw [s1]; exact Hb2.out)) (by omega) k s q st body p st2 ss sq E HI.out).mono ?_
  rintro e w3 ⟨ai, ci, rfl, hoi, hb3⟩
  have E3 : Hid (Env (w3.alloc (.cells #[.int .i64 k, .int .i64 s, .int .i64 q, .int .i64 st, .slice ai body.length ci, .int .i64 p, .int .i64 st2, .int .i64 ss, .int .i64 sq] 28)) [(w3.heap.size, #[.int .i64 k, .int .i64 s, .int .i64 q, .int .i64 st, .slice ai body.length ci, .int .i64 p, .int .i64 st2, .int .i64 ss, .int .i64 sq]), (wb, #[.int .i64 k, .int .i64 s, .int .i64 q, .int .i64 st, .slice aw body.length cw, .int .i64 p, .int .i64 st2, .int .i64 ss, .int .i64 sq])] [(W2.heap.size, .slice ai body.length ci, body), (B, .slice aw body.length cw, body)]) := ((E2.out.still hb3).own hoi).alloc _ rfl
  have Hb3 : Hid (Below B w1 (w3.alloc (.cells #[.int .i64 k, .int .i64 s, .int .i64 q, .int .i64 st, .slice ai body.length ci, .int .i64 p, .int .i64 st2, .int .i64 ss, .int .i64 sq] 28))) := by rw [hB] at Hb2 ⊢; exact balloc (bstep Hb2.out hb3)
  have LT : Hid (∀ j, (Value.slice ai body.length ci).ownBlock = some j → W2.heap.size ≤ j ∧ j < w3.heap.size) := fun j hj => hoi.lt j hj
  have z3 := hb3.size
  clear hoi hb3
  go_wp2_with fail
  generalize hW3 : w3.alloc (.cells #[.int .i64 k, .int .i64 s, .int .i64 q, .int .i64 st, .slice ai body.length ci, .int .i64 p, .int .i64 st2, .int .i64 ss, .int .i64 sq] 28) = W3 at *
  have y3 : W3.heap.size = w3.heap.size + 1 := by rw [← hW3]; simp
  generalize htb : w3.heap.size = tb at *
  clear hW3
  refine (text_any W3).mono ?_
  rintro e w4 ⟨ax, cx, rfl, hox, hb4⟩
  have HT4 : Hid (Own w4 W3.heap.size (.slice ax 8 cx) [1, 1, 1, 0, 3, 4, 5, 6]) := hox
  have E4 : Hid (Env w4 [(tb, #[.int .i64 k, .int .i64 s, .int .i64 q, .int .i64 st, .slice ai body.length ci, .int .i64 p, .int .i64 st2, .int .i64 ss, .int .i64 sq]), (wb, #[.int .i64 k, .int .i64 s, .int .i64 q, .int .i64 st, .slice aw body.length cw, .int .i64 p, .int .i64 st2, .int .i64 ss, .int .i64 sq])] [(W2.heap.size, .slice ai body.length ci, body), (B, .slice aw body.length cw, body)]) := E3.out.still hb4
  have Hb4 : Hid (Below B w1 w4) := by rw [hB] at Hb3 ⊢; exact bstep Hb3.out hb4
  have z4 := hb4.size
  clear hox hb4
  go_wp2_with fail
  refine (dec_text ax cx W3.heap.size w4 HT4.out).mono ?_
  rintro e w5 ⟨ad, cd, rfl, hod, hb5⟩
  have E5 : Hid (Env (w5.alloc (.cells #[.int .i64 1, .int .i64 1, .int .i64 1, .int .i64 0, .slice ad 3 cd, .int .i64 0, .int .i64 0, .int .i64 0, .int .i64 0] 28)) [(w5.heap.size, #[.int .i64 1, .int .i64 1, .int .i64 1, .int .i64 0, .slice ad 3 cd, .int .i64 0, .int .i64 0, .int .i64 0, .int .i64 0]), (tb, #[.int .i64 k, .int .i64 s, .int .i64 q, .int .i64 st, .slice ai body.length ci, .int .i64 p, .int .i64 st2, .int .i64 ss, .int .i64 sq]), (wb, #[.int .i64 k, .int .i64 s, .int .i64 q, .int .i64 st, .slice aw body.length cw, .int .i64 p, .int .i64 st2, .int .i64 ss, .int .i64 sq])] [(w4.heap.size, .slice ad 3 cd, [4, 5, 6]), (W2.heap.size, .slice ai body.length ci, body), (B, .slice aw body.length cw, body)]) := ((E4.out.still hb5).own hod).alloc _ rfl
  have Hb5 : Hid (Below B w1 (w5.alloc (.cells #[.int .i64 1, .int .i64 1, .int .i64 1, .int .i64 0, .slice ad 3 cd, .int .i64 0, .int .i64 0, .int .i64 0, .int .i64 0] 28))) := by rw [hB] at Hb4 ⊢; exact balloc (bstep Hb4.out hb5)
  have LO : Hid (∀ j, (Value.slice ad 3 cd).ownBlock = some j → w4.heap.size ≤ j ∧ j < w5.heap.size) := fun j hj => hod.lt j hj
  have z5 := hb5.size
  clear hod hb5
  go_wp2_with fail
  generalize hW5 : w5.alloc (.cells #[.int .i64 1, .int .i64 1, .int .i64 1, .int .i64 0, .slice ad 3 cd, .int .i64 0, .int .i64 0, .int .i64 0, .int .i64 0] 28) = W5 at *
  have y5 : W5.heap.size = w5.heap.size + 1 := by rw [← hW5]; simp
  generalize hob : w5.heap.size = ob at *
  clear hW5
  refine (dec_eq (some ⟨g, 0, none⟩) bs.length capl bs W5 (Hg1.out.below (by rw [s1]; exact Hb5.out)) (by omega) k s q st body p st2 ss sq E HI.out).mono ?_
  rintro e w6 ⟨aa, ca, rfl, hoa, hb6⟩
  have E6 : Hid (Env (w6.alloc (.cells #[.int .i64 k, .int .i64 s, .int .i64 q, .int .i64 st, .slice aa body.length ca, .int .i64 p, .int .i64 st2, .int .i64 ss, .int .i64 sq] 28)) [(w6.heap.size, #[.int .i64 k, .int .i64 s, .int .i64 q, .int .i64 st, .slice aa body.length ca, .int .i64 p, .int .i64 st2, .int .i64 ss, .int .i64 sq]), (ob, #[.int .i64 1, .int .i64 1, .int .i64 1, .int .i64 0, .slice ad 3 cd, .int .i64 0, .int .i64 0, .int .i64 0, .int .i64 0]), (tb, #[.int .i64 k, .int .i64 s, .int .i64 q, .int .i64 st, .slice ai body.length ci, .int .i64 p, .int .i64 st2, .int .i64 ss, .int .i64 sq]), (wb, #[.int .i64 k, .int .i64 s, .int .i64 q, .int .i64 st, .slice aw body.length cw, .int .i64 p, .int .i64 st2, .int .i64 ss, .int .i64 sq])] [(W5.heap.size, .slice aa body.length ca, body), (w4.heap.size, .slice ad 3 cd, [4, 5, 6]), (W2.heap.size, .slice ai body.length ci, body), (B, .slice aw body.length cw, body)]) := ((E5.out.still hb6).own hoa).alloc _ rfl
  have Hb6 : Hid (Below B w1 (w6.alloc (.cells #[.int .i64 k, .int .i64 s, .int .i64 q, .int .i64 st, .slice aa body.length ca, .int .i64 p, .int .i64 st2, .int .i64 ss, .int .i64 sq] 28))) := by rw [hB] at Hb5 ⊢; exact balloc (bstep Hb5.out hb6)
  have LX : Hid (∀ j, (Value.slice aa body.length ca).ownBlock = some j → W5.heap.size ≤ j ∧ j < w6.heap.size) := fun j hj => hoa.lt j hj
  have z6 := hb6.size
  clear hoa hb6
  go_wp2_with fail
  generalize hW6 : w6.alloc (.cells #[.int .i64 k, .int .i64 s, .int .i64 q, .int .i64 st, .slice aa body.length ca, .int .i64 p, .int .i64 st2, .int .i64 ss, .int .i64 sq] 28) = W6 at *
  have y6 : W6.heap.size = w6.heap.size + 1 := by rw [← hW6]; simp
  generalize hxb : w6.heap.size = xb at *
  clear hW6 E2 E3 E4 E5 Hb2 Hb3 Hb4 Hb5 HT4
  refine (num_any _ _).mono ?_
  rintro e w' ⟨rfl, rfl⟩
  go_wp2_with fail
  refine (num_any _ _).mono ?_
  rintro e w' ⟨rfl, rfl⟩
  go_wp2_with fail
  refine (num_any _ _).mono ?_
  rintro e w' ⟨rfl, rfl⟩
  have ct := fun i => blk_cell (E6.out.1 (tb, #[.int .i64 k, .int .i64 s, .int .i64 q, .int .i64 st, .slice ai body.length ci, .int .i64 p, .int .i64 st2, .int .i64 ss, .int .i64 sq]) (by simp)).1 i
  have cw_ := fun i => blk_cell (E6.out.1 (wb, #[.int .i64 k, .int .i64 s, .int .i64 q, .int .i64 st, .slice aw body.length cw, .int .i64 p, .int .i64 st2, .int .i64 ss, .int .i64 sq]) (by simp)).1 i
  go_wp2_with fail
  clear ct cw_
  refine (sameI_any k s q st p st2 ss sq ai aw body.length ci cw body _ (own_src (E6.out.2 (W2.heap.size, .slice ai body.length ci, body) (by simp)) HX.out) (own_src (E6.out.2 (B, .slice aw body.length cw, body) (by simp)) HX.out) (by omega)).mono ?_
  rintro e w7 ⟨rfl, hb⟩
  have E7 : Hid (Env w7 [(xb, #[.int .i64 k, .int .i64 s, .int .i64 q, .int .i64 st, .slice aa body.length ca, .int .i64 p, .int .i64 st2, .int .i64 ss, .int .i64 sq]), (ob, #[.int .i64 1, .int .i64 1, .int .i64 1, .int .i64 0, .slice ad 3 cd, .int .i64 0, .int .i64 0, .int .i64 0, .int .i64 0]), (tb, #[.int .i64 k, .int .i64 s, .int .i64 q, .int .i64 st, .slice ai body.length ci, .int .i64 p, .int .i64 st2, .int .i64 ss, .int .i64 sq]), (wb, #[.int .i64 k, .int .i64 s, .int .i64 q, .int .i64 st, .slice aw body.length cw, .int .i64 p, .int .i64 st2, .int .i64 ss, .int .i64 sq])] [(W5.heap.size, .slice aa body.length ca, body), (w4.heap.size, .slice ad 3 cd, [4, 5, 6]), (W2.heap.size, .slice ai body.length ci, body), (B, .slice aw body.length cw, body)]) := E6.out.still hb
  have Hb7 : Hid (Below B w1 w7) := by rw [hB] at Hb6 ⊢; exact bstep Hb6.out hb
  have zw7 := hb.size
  clear hb E6 Hb6
  have cx_ := fun i => blk_cell (E7.out.1 (xb, #[.int .i64 k, .int .i64 s, .int .i64 q, .int .i64 st, .slice aa body.length ca, .int .i64 p, .int .i64 st2, .int .i64 ss, .int .i64 sq]) (by simp)).1 i
  have cw_ := fun i => blk_cell (E7.out.1 (wb, #[.int .i64 k, .int .i64 s, .int .i64 q, .int .i64 st, .slice aw body.length cw, .int .i64 p, .int .i64 st2, .int .i64 ss, .int .i64 sq]) (by simp)).1 i
  go_wp2_with fail
  clear cx_ cw_
  refine (sameI_any k s q st p st2 ss sq aa aw body.length ca cw body _ (own_src (E7.out.2 (W5.heap.size, .slice aa body.length ca, body) (by simp)) HX.out) (own_src (E7.out.2 (B, .slice aw body.length cw, body) (by simp)) HX.out) (by omega)).mono ?_
  rintro e w8 ⟨rfl, hb⟩
  have E8 : Hid (Env w8 [(xb, #[.int .i64 k, .int .i64 s, .int .i64 q, .int .i64 st, .slice aa body.length ca, .int .i64 p, .int .i64 st2, .int .i64 ss, .int .i64 sq]), (ob, #[.int .i64 1, .int .i64 1, .int .i64 1, .int .i64 0, .slice ad 3 cd, .int .i64 0, .int .i64 0, .int .i64 0, .int .i64 0]), (tb, #[.int .i64 k, .int .i64 s, .int .i64 q, .int .i64 st, .slice ai body.length ci, .int .i64 p, .int .i64 st2, .int .i64 ss, .int .i64 sq]), (wb, #[.int .i64 k, .int .i64 s, .int .i64 q, .int .i64 st, .slice aw body.length cw, .int .i64 p, .int .i64 st2, .int .i64 ss, .int .i64 sq])] [(W5.heap.size, .slice aa body.length ca, body), (w4.heap.size, .slice ad 3 cd, [4, 5, 6]), (W2.heap.size, .slice ai body.length ci, body), (B, .slice aw body.length cw, body)]) := E7.out.still hb
  have Hb8 : Hid (Below B w1 w8) := by rw [hB] at Hb7 ⊢; exact bstep Hb7.out hb
  have zw8 := hb.size
  clear hb E7 Hb7
  go_wp2_with fail
  refine (unspoilt_own g capl w.heap.size ao cap bs _ (Hr1.out.below (by rw [s1]; exact Hb8.out)) (by omega) (owns_below Ho1.out (by rw [s1]; exact Hb8.out))).mono ?_
  rintro e w10 ⟨rfl, hb10⟩
  have E10 : Hid (Env (w10.alloc (.cells #[.slice none 0 0, .slice none 0 0, .int .i64 0] 46)) [(xb, #[.int .i64 k, .int .i64 s, .int .i64 q, .int .i64 st, .slice aa body.length ca, .int .i64 p, .int .i64 st2, .int .i64 ss, .int .i64 sq]), (ob, #[.int .i64 1, .int .i64 1, .int .i64 1, .int .i64 0, .slice ad 3 cd, .int .i64 0, .int .i64 0, .int .i64 0, .int .i64 0]), (tb, #[.int .i64 k, .int .i64 s, .int .i64 q, .int .i64 st, .slice ai body.length ci, .int .i64 p, .int .i64 st2, .int .i64 ss, .int .i64 sq]), (wb, #[.int .i64 k, .int .i64 s, .int .i64 q, .int .i64 st, .slice aw body.length cw, .int .i64 p, .int .i64 st2, .int .i64 ss, .int .i64 sq])] [(W5.heap.size, .slice aa body.length ca, body), (w4.heap.size, .slice ad 3 cd, [4, 5, 6]), (W2.heap.size, .slice ai body.length ci, body), (B, .slice aw body.length cw, body)]) := (E8.out.still hb10).still (balloc (Below.refl _ _))
  have Hb10 : Hid (Below B w1 (w10.alloc (.cells #[.slice none 0 0, .slice none 0 0, .int .i64 0] 46))) := by rw [hB] at Hb8 ⊢; exact balloc (bstep Hb8.out hb10)
  have z10 := hb10.size
  clear hb10 E8 Hb8
  have H11 : Hid (BkAt (w10.alloc (.cells #[.slice none 0 0, .slice none 0 0, .int .i64 0] 46)) B w10.heap.size 0 []) := book_new w10 B (by omega)
  have ct := fun i => blk_cell (E10.out.1 (tb, #[.int .i64 k, .int .i64 s, .int .i64 q, .int .i64 st, .slice ai body.length ci, .int .i64 p, .int .i64 st2, .int .i64 ss, .int .i64 sq]) (by simp)).1 i
  go_wp2_with fail
  clear ct
  generalize hw11 : w10.alloc (.cells #[.slice none 0 0, .slice none 0 0, .int .i64 0] 46) = w11 at *
  have y11 : w11.heap.size = w10.heap.size + 1 := by rw [← hw11]; simp
  generalize hkb : w10.heap.size = kb at *
  clear hw11
  refine (keep_at B kb 0 [] ai ci W2.heap.size body w11 H11.out (E10.out.2 (W2.heap.size, .slice ai body.length ci, body) (by simp)) (by omega) (by omega) (by simp) HX.out (by omega) (by simp)).mono ?_
  rintro e w12 ⟨rfl, p1, hk1, hg1', hB1, hh1, hsp⟩
  have K12 : Hid (BkAt w12 B kb 1 [p1]) := hk1
  have G1 : Hid (p1.gr = p1.dn ∧ ∀ j, holds p1 j → (.slice ai body.length ci : Value).ownBlock = some j ∨ w11.heap.size ≤ j) := ⟨hg1', hh1⟩
  have E12 : Hid (Env w12 [(xb, #[.int .i64 k, .int .i64 s, .int .i64 q, .int .i64 st, .slice aa body.length ca, .int .i64 p, .int .i64 st2, .int .i64 ss, .int .i64 sq]), (ob, #[.int .i64 1, .int .i64 1, .int .i64 1, .int .i64 0, .slice ad 3 cd, .int .i64 0, .int .i64 0, .int .i64 0, .int .i64 0]), (tb, #[.int .i64 k, .int .i64 s, .int .i64 q, .int .i64 st, .slice ai body.length ci, .int .i64 p, .int .i64 st2, .int .i64 ss, .int .i64 sq]), (wb, #[.int .i64 k, .int .i64 s, .int .i64 q, .int .i64 st, .slice aw body.length cw, .int .i64 p, .int .i64 st2, .int .i64 ss, .int .i64 sq])] [(W5.heap.size, .slice aa body.length ca, body), (w4.heap.size, .slice ad 3 cd, [4, 5, 6]), (W2.heap.size, .slice ai body.length ci, body), (B, .slice aw body.length cw, body)]) := E10.out.sp hsp (by simp) (by simp)
  have Hb12 : Hid (Below B w1 w12) := Hb10.out.trans hsp.bel
  have z12 := hsp.siz
  clear hk1 hg1' hB1 hh1 hsp E10 Hb10
  have cx_ := fun i => blk_cell (E12.out.1 (xb, #[.int .i64 k, .int .i64 s, .int .i64 q, .int .i64 st, .slice aa body.length ca, .int .i64 p, .int .i64 st2, .int .i64 ss, .int .i64 sq]) (by simp)).1 i
  go_wp2_with fail
  clear cx_
  refine (write_at B kb 1 [p1] aa ca W5.heap.size body w12 K12.out (E12.out.2 (W5.heap.size, .slice aa body.length ca, body) (by simp)) (by omega) (by omega) (by simp) (by omega) ?_).mono ?_
  · intro j hj p hp hh
    obtain rfl := List.mem_singleton.1 hp
    have := LX.out j hj
    rcases G1.out.2 j hh with e | e
    · have := LT.out j e; omega
    · omega
  rintro e w13 ⟨rfl, p2, hk1, hg1', hB1, hh1, hsp⟩
  have K13 : Hid (BkAt w13 B kb 2 [p1, p2]) := hk1
  have G2 : Hid (p2.gr = p2.dn ∧ ∀ j, holds p2 j → (.slice aa body.length ca : Value).ownBlock = some j ∨ w12.heap.size ≤ j) := ⟨hg1', hh1⟩
  have E13 : Hid (Env w13 [(xb, #[.int .i64 k, .int .i64 s, .int .i64 q, .int .i64 st, .slice aa body.length ca, .int .i64 p, .int .i64 st2, .int .i64 ss, .int .i64 sq]), (ob, #[.int .i64 1, .int .i64 1, .int .i64 1, .int .i64 0, .slice ad 3 cd, .int .i64 0, .int .i64 0, .int .i64 0, .int .i64 0]), (tb, #[.int .i64 k, .int .i64 s, .int .i64 q, .int .i64 st, .slice ai body.length ci, .int .i64 p, .int .i64 st2, .int .i64 ss, .int .i64 sq]), (wb, #[.int .i64 k, .int .i64 s, .int .i64 q, .int .i64 st, .slice aw body.length cw, .int .i64 p, .int .i64 st2, .int .i64 ss, .int .i64 sq])] [(w4.heap.size, .slice ad 3 cd, [4, 5, 6]), (W2.heap.size, .slice ai body.length ci, body), (B, .slice aw body.length cw, body)]) := by
    refine Env.sp (Env.drop E12.out) hsp ?_ ?_
    · intro b hb e
      have := LX.out _ e
      simp only [List.mem_cons, List.not_mem_nil, or_false] at hb
      rcases hb with rfl | rfl | rfl | rfl <;> simp only at this <;> omega
    · intro o ho j hj e
      have := LX.out _ e
      simp only [List.mem_cons, List.not_mem_nil, or_false] at ho
      rcases ho with rfl | rfl | rfl
      · have := LO.out j hj; omega
      · have := LT.out j hj; omega
      · have := LW.out j hj; omega
  have Hb13 : Hid (Below B w1 w13) := Hb12.out.trans hsp.bel
  have z13 := hsp.siz
  clear hk1 hg1' hB1 hh1 hsp E12 Hb12
  have co := fun i => blk_cell (E13.out.1 (ob, #[.int .i64 1, .int .i64 1, .int .i64 1, .int .i64 0, .slice ad 3 cd, .int .i64 0, .int .i64 0, .int .i64 0, .int .i64 0]) (by simp)).1 i
  go_wp2_with fail
  clear co
  refine (keep_at B kb 2 [p1, p2] ad cd w4.heap.size [4, 5, 6] w13 K13.out (E13.out.2 (w4.heap.size, .slice ad 3 cd, [4, 5, 6]) (by simp)) (by omega) (by omega) (by simp) (getD_range (by decide)) (by simp) ?_).mono ?_
  · intro j hj p hp hh
    have := LO.out j hj
    rcases List.mem_cons.1 hp with rfl | hp
    · rcases G1.out.2 j hh with e | e
      · have := LT.out j e; omega
      · omega
    · obtain rfl := List.mem_singleton.1 hp
      rcases G2.out.2 j hh with e | e
      · have := LX.out j e; omega
      · omega
  rintro e w14 ⟨rfl, p3, hk1, hg1', hB1, hh1, hsp⟩
  have K14 : Hid (BkAt w14 B kb 3 [p1, p2, p3]) := hk1
  have G3 : Hid (∀ p ∈ [p1, p2, p3], p.gr = p.dn) := by
    intro p hp
    rcases List.mem_cons.1 hp with rfl | hp
    · exact G1.out.1
    · rcases List.mem_cons.1 hp with rfl | hp
      · exact G2.out.1
      · obtain rfl := List.mem_singleton.1 hp
        exact hg1'
  have E14 : Hid (Env w14 [(xb, #[.int .i64 k, .int .i64 s, .int .i64 q, .int .i64 st, .slice aa body.length ca, .int .i64 p, .int .i64 st2, .int .i64 ss, .int .i64 sq]), (ob, #[.int .i64 1, .int .i64 1, .int .i64 1, .int .i64 0, .slice ad 3 cd, .int .i64 0, .int .i64 0, .int .i64 0, .int .i64 0]), (tb, #[.int .i64 k, .int .i64 s, .int .i64 q, .int .i64 st, .slice ai body.length ci, .int .i64 p, .int .i64 st2, .int .i64 ss, .int .i64 sq]), (wb, #[.int .i64 k, .int .i64 s, .int .i64 q, .int .i64 st, .slice aw body.length cw, .int .i64 p, .int .i64 st2, .int .i64 ss, .int .i64 sq])] [(w4.heap.size, .slice ad 3 cd, [4, 5, 6]), (W2.heap.size, .slice ai body.length ci, body), (B, .slice aw body.length cw, body)]) := E13.out.sp hsp (by simp) (by simp)
  have Hb14 : Hid (Below B w1 w14) := Hb13.out.trans hsp.bel
  have z14 := hsp.siz
  clear hk1 hg1' hB1 hh1 hsp E13 Hb13
  go_wp2_with fail
  refine (intact_at B kb 3 [p1, p2, p3] _ K14.out G3.out).mono ?_
  rintro e w15 ⟨rfl, hb⟩
  have E15 : Hid (Env w15 [(xb, #[.int .i64 k, .int .i64 s, .int .i64 q, .int .i64 st, .slice aa body.length ca, .int .i64 p, .int .i64 st2, .int .i64 ss, .int .i64 sq]), (ob, #[.int .i64 1, .int .i64 1, .int .i64 1, .int .i64 0, .slice ad 3 cd, .int .i64 0, .int .i64 0, .int .i64 0, .int .i64 0]), (tb, #[.int .i64 k, .int .i64 s, .int .i64 q, .int .i64 st, .slice ai body.length ci, .int .i64 p, .int .i64 st2, .int .i64 ss, .int .i64 sq]), (wb, #[.int .i64 k, .int .i64 s, .int .i64 q, .int .i64 st, .slice aw body.length cw, .int .i64 p, .int .i64 st2, .int .i64 ss, .int .i64 sq])] [(w4.heap.size, .slice ad 3 cd, [4, 5, 6]), (W2.heap.size, .slice ai body.length ci, body), (B, .slice aw body.length cw, body)]) := E14.out.still hb
  have K15 : Hid (BkAt w15 B kb 3 [p1, p2, p3]) := K14.out.below hb
  have Hb15 : Hid (Below B w1 w15) := by rw [hB] at Hb14 ⊢; exact bstep Hb14.out hb
  have z15 := hb.size
  clear hb E14 Hb14
  have ct := fun i => blk_cell (E15.out.1 (tb, #[.int .i64 k, .int .i64 s, .int .i64 q, .int .i64 st, .slice ai body.length ci, .int .i64 p, .int .i64 st2, .int .i64 ss, .int .i64 sq]) (by simp)).1 i
  have cw_ := fun i => blk_cell (E15.out.1 (wb, #[.int .i64 k, .int .i64 s, .int .i64 q, .int .i64 st, .slice aw body.length cw, .int .i64 p, .int .i64 st2, .int .i64 ss, .int .i64 sq]) (by simp)).1 i
  go_wp2_with fail
  clear ct cw_
  refine (sameI_any k s q st p st2 ss sq ai aw body.length ci cw body _ (own_src (E15.out.2 (W2.heap.size, .slice ai body.length ci, body) (by simp)) HX.out) (own_src (E15.out.2 (B, .slice aw body.length cw, body) (by simp)) HX.out) (by omega)).mono ?_
  rintro e w16 ⟨rfl, hb⟩
  have E16 : Hid (Env w16 [(xb, #[.int .i64 k, .int .i64 s, .int .i64 q, .int .i64 st, .slice aa body.length ca, .int .i64 p, .int .i64 st2, .int .i64 ss, .int .i64 sq]), (ob, #[.int .i64 1, .int .i64 1, .int .i64 1, .int .i64 0, .slice ad 3 cd, .int .i64 0, .int .i64 0, .int .i64 0, .int .i64 0]), (tb, #[.int .i64 k, .int .i64 s, .int .i64 q, .int .i64 st, .slice ai body.length ci, .int .i64 p, .int .i64 st2, .int .i64 ss, .int .i64 sq]), (wb, #[.int .i64 k, .int .i64 s, .int .i64 q, .int .i64 st, .slice aw body.length cw, .int .i64 p, .int .i64 st2, .int .i64 ss, .int .i64 sq])] [(w4.heap.size, .slice ad 3 cd, [4, 5, 6]), (W2.heap.size, .slice ai body.length ci, body), (B, .slice aw body.length cw, body)]) := E15.out.still hb
  have Hb16 : Hid (Below B w1 w16) := by rw [hB] at Hb15 ⊢; exact bstep Hb15.out hb
  have zw16 := hb.size
  have K16 : Hid (BkAt w16 B kb 3 [p1, p2, p3]) := K15.out.below hb
  clear hb E15 Hb15 K15
  go_wp2_with fail
  refine (unspoilt_own g capl w.heap.size ao cap bs _ (Hr1.out.below (by rw [s1]; exact Hb16.out)) (by omega) (owns_below Ho1.out (by rw [s1]; exact Hb16.out))).mono ?_
  rintro e w17 ⟨rfl, hb⟩
  have E17 : Hid (Env w17 [(xb, #[.int .i64 k, .int .i64 s, .int .i64 q, .int .i64 st, .slice aa body.length ca, .int .i64 p, .int .i64 st2, .int .i64 ss, .int .i64 sq]), (ob, #[.int .i64 1, .int .i64 1, .int .i64 1, .int .i64 0, .slice ad 3 cd, .int .i64 0, .int .i64 0, .int .i64 0, .int .i64 0]), (tb, #[.int .i64 k, .int .i64 s, .int .i64 q, .int .i64 st, .slice ai body.length ci, .int .i64 p, .int .i64 st2, .int .i64 ss, .int .i64 sq]), (wb, #[.int .i64 k, .int .i64 s, .int .i64 q, .int .i64 st, .slice aw body.length cw, .int .i64 p, .int .i64 st2, .int .i64 ss, .int .i64 sq])] [(w4.heap.size, .slice ad 3 cd, [4, 5, 6]), (W2.heap.size, .slice ai body.length ci, body), (B, .slice aw body.length cw, body)]) := E16.out.still hb
  have K17 : Hid (BkAt w17 B kb 3 [p1, p2, p3]) := K16.out.below hb
  have Hb17 : Hid (Below B w1 w17) := by rw [hB] at Hb16 ⊢; exact bstep Hb16.out hb
  have z17 := hb.size
  clear hb E16 Hb16 K16
  have Ho17 : Hid (Own w17 w.heap.size (.slice (some ⟨g, 0, none⟩) (bs ++ marks 64).length capl) (bs ++ marks 64)) := owns_below Ho1.out (by rw [s1]; exact Hb17.out)
  have Hbw17 : Hid (Below w.heap.size w w17) := Hb1.out.trans (Hb17.out.mono (by have := Hb1.out.size; omega))
  go_wp2_with fail
  refine (turn_shape g capl w.heap.size bs (marks 64) _ Ho17.out Hr.out.2.2.2 (by omega)).mono ?_
  rintro e w20 ⟨a3, cap3, rfl, ho3, hr3, hl3, hg3⟩
  have Hr20 : Hid (Rd w20 a3 bs.length cap3 (turnTo bs.length bs)) := hr3
  have hc3 : bs.length ≤ cap3 := own_le ho3
  have Ho20 : Hid (Own w20 w.heap.size (.slice (some ⟨g, 0, none⟩) (turnTo bs.length bs ++ marks 64).length capl) (turnTo bs.length bs ++ marks 64)) := by
    have e : (turnTo bs.length bs ++ marks 64).length = (bs ++ marks 64).length := by simp [turnTo_len]
    rw [e]; exact hl3
  have Hg20 : Hid (Rd w20 (some ⟨g, 0, none⟩) bs.length capl (turnTo bs.length bs)) := by
    have h := hl3.rdPrefix (turnTo_range _ bs Hr.out.2.2.2)
    rw [turnTo_len] at h
    exact h
  have K20 : Hid (BkAt w20 B kb 3 [p1, p2, p3]) := K17.out.grown hg3 (by omega)
  have E20 : Hid (Env w20 [(xb, #[.int .i64 k, .int .i64 s, .int .i64 q, .int .i64 st, .slice aa body.length ca, .int .i64 p, .int .i64 st2, .int .i64 ss, .int .i64 sq]), (ob, #[.int .i64 1, .int .i64 1, .int .i64 1, .int .i64 0, .slice ad 3 cd, .int .i64 0, .int .i64 0, .int .i64 0, .int .i64 0]), (tb, #[.int .i64 k, .int .i64 s, .int .i64 q, .int .i64 st, .slice ai body.length ci, .int .i64 p, .int .i64 st2, .int .i64 ss, .int .i64 sq]), (wb, #[.int .i64 k, .int .i64 s, .int .i64 q, .int .i64 st, .slice aw body.length cw, .int .i64 p, .int .i64 st2, .int .i64 ss, .int .i64 sq])] [(w4.heap.size, .slice ad 3 cd, [4, 5, 6]), (W2.heap.size, .slice ai body.length ci, body), (B, .slice aw body.length cw, body)]) := by
    refine E17.out.grown hg3 ?_ ?_
    · intro b hb e
      simp only [List.mem_cons, List.not_mem_nil, or_false] at hb
      rcases hb with rfl | rfl | rfl | rfl <;> simp only at e <;> omega
    · intro o ho j hj e
      simp only [List.mem_cons, List.not_mem_nil, or_false] at ho
      rcases ho with rfl | rfl | rfl
      · have := LO.out j hj; omega
      · have := LT.out j hj; omega
      · have := LW.out j hj; omega
  have Hbw20 : Hid (Below w.heap.size w w20) := Hbw17.out.grown hg3 Hbw17.out.size (fun k hk => by obtain rfl := Option.some.inj hk; exact hg)
  have z20 : w17.heap.size ≤ w20.heap.size := hg3.size
  clear ho3 hr3 hl3 hg3 E17 K17 Hb17 Hbw17 Ho17
  go_wp2_with fail
  refine (dec_eq (some ⟨g, 0, none⟩) bs.length capl (turnTo bs.length bs) w20 Hg20.out (by omega) k' s' q' st' body' p' st2' ss' sq' E' HI'.out).mono ?_
  rintro e w21 ⟨al, cl, rfl, hol, hb⟩
  have Hl21 : Hid (Own (w21.alloc (.cells #[.int .i64 k', .int .i64 s', .int .i64 q', .int .i64 st', .slice al body'.length cl, .int .i64 p', .int .i64 st2', .int .i64 ss', .int .i64 sq'] 28)) w20.heap.size (.slice al body'.length cl) body') := hol.alloc _
  have Hb21 : Hid (Below w20.heap.size w20 (w21.alloc (.cells #[.int .i64 k', .int .i64 s', .int .i64 q', .int .i64 st', .slice al body'.length cl, .int .i64 p', .int .i64 st2', .int .i64 ss', .int .i64 sq'] 28))) := balloc hb
  have I21 : Hid ((w21.alloc (.cells #[.int .i64 k', .int .i64 s', .int .i64 q', .int .i64 st', .slice al body'.length cl, .int .i64 p', .int .i64 st2', .int .i64 ss', .int .i64 sq'] 28)).heap[w21.heap.size]? = some (.cells #[.int .i64 k', .int .i64 s', .int .i64 q', .int .i64 st', .slice al body'.length cl, .int .i64 p', .int .i64 st2', .int .i64 ss', .int .i64 sq'] 28 (0, 0))) := heap_alloc_new _ _
  have z21 := hb.size
  clear hol hb
  go_wp2_with fail
  generalize hW21 : w21.alloc (.cells #[.int .i64 k', .int .i64 s', .int .i64 q', .int .i64 st', .slice al body'.length cl, .int .i64 p', .int .i64 st2', .int .i64 ss', .int .i64 sq'] 28) = W21 at *
  have y21 : W21.heap.size = w21.heap.size + 1 := by rw [← hW21]; simp
  generalize hlb : w21.heap.size = lb at *
  clear hW21
  refine (rdec_eq a3 bs.length cap3 (turnTo bs.length bs) W21 (Hr20.out.below Hb21.out) hc3 k' s' q' st' body' p' st2' ss' sq' E' HI'.out).mono ?_
  rintro e w22 ⟨an, cn, rfl, hon, hb⟩
  have Hn22 : Hid (Own (w22.alloc (.cells #[.int .i64 k', .int .i64 s', .int .i64 q', .int .i64 st', .slice an body'.length cn, .int .i64 p', .int .i64 st2', .int .i64 ss', .int .i64 sq'] 28)) W21.heap.size (.slice an body'.length cn) body') := hon.alloc _
  have Hl22 : Hid (Own (w22.alloc (.cells #[.int .i64 k', .int .i64 s', .int .i64 q', .int .i64 st', .slice an body'.length cn, .int .i64 p', .int .i64 st2', .int .i64 ss', .int .i64 sq'] 28)) w20.heap.size (.slice al body'.length cl) body') := (owns_below Hl21.out hb : Own _ _ _ _).alloc _
  have Hb22 : Hid (Below w20.heap.size w20 (w22.alloc (.cells #[.int .i64 k', .int .i64 s', .int .i64 q', .int .i64 st', .slice an body'.length cn, .int .i64 p', .int .i64 st2', .int .i64 ss', .int .i64 sq'] 28))) := balloc (bstep Hb21.out hb)
  have I22 : Hid ((w22.alloc (.cells #[.int .i64 k', .int .i64 s', .int .i64 q', .int .i64 st', .slice an body'.length cn, .int .i64 p', .int .i64 st2', .int .i64 ss', .int .i64 sq'] 28)).heap[lb]? = some (.cells #[.int .i64 k', .int .i64 s', .int .i64 q', .int .i64 st', .slice al body'.length cl, .int .i64 p', .int .i64 st2', .int .i64 ss', .int .i64 sq'] 28 (0, 0))) := blk_alloc ((hb.block lb (lt_heap I21.out)).trans I21.out)
  have J22 : Hid ((w22.alloc (.cells #[.int .i64 k', .int .i64 s', .int .i64 q', .int .i64 st', .slice an body'.length cn, .int .i64 p', .int .i64 st2', .int .i64 ss', .int .i64 sq'] 28)).heap[w22.heap.size]? = some (.cells #[.int .i64 k', .int .i64 s', .int .i64 q', .int .i64 st', .slice an body'.length cn, .int .i64 p', .int .i64 st2', .int .i64 ss', .int .i64 sq'] 28 (0, 0))) := heap_alloc_new _ _
  have z22 := hb.size
  clear hon hb Hl21 I21 Hb21
  go_wp2_with fail
  generalize hW22 : w22.alloc (.cells #[.int .i64 k', .int .i64 s', .int .i64 q', .int .i64 st', .slice an body'.length cn, .int .i64 p', .int .i64 st2', .int .i64 ss', .int .i64 sq'] 28) = W22 at *
  have y22 : W22.heap.size = w22.heap.size + 1 := by rw [← hW22]; simp
  generalize hnb : w22.heap.size = nb at *
  clear hW22
  refine (num_any _ _).mono ?_
  rintro e w' ⟨rfl, rfl⟩
  have cl' := fun i => blk_cell I22.out i
  have cn' := fun i => blk_cell J22.out i
  go_wp2_with fail
  clear cl' cn'
  refine (sameI_any k' s' q' st' p' st2' ss' sq' al an body'.length cl cn body' _ (own_src Hl22.out HX'.out) (own_src Hn22.out HX'.out) (by omega)).mono ?_
  rintro e w23 ⟨rfl, hb⟩
  have Hb23 : Hid (Below w20.heap.size w20 w23) := bstep Hb22.out hb
  have z23 := hb.size
  clear hb I22 J22 Hl22 Hn22 Hb22
  go_wp2_with fail
  have hu := unspoilt_own g capl w.heap.size a3 cap3 (turnTo bs.length bs) w23 (by rw [turnTo_len]; exact Hr20.out.below Hb23.out) (by rw [turnTo_len]; omega) (owns_below Ho20.out Hb23.out)
  rw [turnTo_len] at hu
  refine hu.mono ?_
  clear hu
  rintro e w24 ⟨rfl, hb⟩
  have Hb24 : Hid (Below w20.heap.size w20 w24) := bstep Hb23.out hb
  have E24 : Hid (Env w24 [(xb, #[.int .i64 k, .int .i64 s, .int .i64 q, .int .i64 st, .slice aa body.length ca, .int .i64 p, .int .i64 st2, .int .i64 ss, .int .i64 sq]), (ob, #[.int .i64 1, .int .i64 1, .int .i64 1, .int .i64 0, .slice ad 3 cd, .int .i64 0, .int .i64 0, .int .i64 0, .int .i64 0]), (tb, #[.int .i64 k, .int .i64 s, .int .i64 q, .int .i64 st, .slice ai body.length ci, .int .i64 p, .int .i64 st2, .int .i64 ss, .int .i64 sq]), (wb, #[.int .i64 k, .int .i64 s, .int .i64 q, .int .i64 st, .slice aw body.length cw, .int .i64 p, .int .i64 st2, .int .i64 ss, .int .i64 sq])] [(w4.heap.size, .slice ad 3 cd, [4, 5, 6]), (W2.heap.size, .slice ai body.length ci, body), (B, .slice aw body.length cw, body)]) := E20.out.still Hb24.out
  have z24 := hb.size
  clear hb Hb23
  have ct := fun i => blk_cell (E24.out.1 (tb, #[.int .i64 k, .int .i64 s, .int .i64 q, .int .i64 st, .slice ai body.length ci, .int .i64 p, .int .i64 st2, .int .i64 ss, .int .i64 sq]) (by simp)).1 i
  have cw_ := fun i => blk_cell (E24.out.1 (wb, #[.int .i64 k, .int .i64 s, .int .i64 q, .int .i64 st, .slice aw body.length cw, .int .i64 p, .int .i64 st2, .int .i64 ss, .int .i64 sq]) (by simp)).1 i
  go_wp2_with fail
  clear ct cw_
  refine (sameI_any k s q st p st2 ss sq ai aw body.length ci cw body _ (own_src (E24.out.2 (W2.heap.size, .slice ai body.length ci, body) (by simp)) HX.out) (own_src (E24.out.2 (B, .slice aw body.length cw, body) (by simp)) HX.out) (by omega)).mono ?_
  rintro e w25 ⟨rfl, hb⟩
  have Hb25 : Hid (Below w20.heap.size w20 w25) := bstep Hb24.out hb
  have z25 := hb.size
  clear hb Hb24 E24
  go_wp2_with fail
  refine (settle_at B kb 3 [p1, p2, p3] w25 (K20.out.below Hb25.out) (by simp) G3.out).mono ?_
  rintro e w26 ⟨rfl, qs, hk1, hl1, hg1', hh1, hsp⟩
  have HF : Hid (Below w.heap.size w w26) := (bstep Hbw20.out Hb25.out).trans (hsp.bel.mono (by have := Hb1.out.size; omega))
  clear hk1 hl1 hg1' hh1 hsp
  go_wp2_with fail
  go_ret
  exact ⟨rfl, HF⟩

theorem walk (a0 : Option Addr) (len0 cap0 : Nat) (z0 : List Int) (w : World) (w0 : Op.IsRow .u8 w a0 len0 cap0 z0) (rc0 : cap0 ≤ 140737488351232) :
    Calls Try.prog 6 #[.slice a0 len0 cap0] w fun e w' => e = .returned (.bool true) ∧ Below w.heap.size w w' := by
  have h := Op.rd_of_row w0
  have hl : len0 ≤ cap0 := by rcases w0 with ⟨_, h1, _, _⟩ | ⟨x, _, hl, _⟩ <;> omega
  have := core a0 cap0 (z0.take len0) w h.1 (by omega) (by omega)
  rw [h.2] at this
  exact this

set_option maxRecDepth 100000 in
theorem lifted (os : Os) (started : os.Started) (H : Type) (enc : TypeId × Value → H) :
    ReturnsInHanded {} Try.checked os 6 .any (Rows.wireItemTextsSpec.pre6 enc Try.prog Try.f6 Rows.wireItemTextsRow.domain false) (Rows.wireItemTextsSpec.post enc Try.prog Try.f6 false true false false) := by
  refine returnsInHanded_of_change_sized (C := Try.checked) Op.own started (by kernel_rfl) Try.func6
    (ChangeSpec.witness6 (enc := enc) (C := Try.checked) false ⟨#[], #[.slice none 0 0], []⟩ 8 (by kernel_rfl) (by kernel_rfl) (by kernel_rfl) (by kernel_rfl)) ?_
  intro W base args ds gs before hval0 hW hcnd hsz0 _
  have hsz : (DataW.weightsEach Try.prog (Try.f6.params.toList ++ Rows.wireItemTextsSpec.plain.varTypes Try.prog) (ds ++ gs)).all (· ≤ reachBytes) = true := hsz0
  clear hsz0
  have hval : ∀ (j : Nat) t v, Try.f6.params[j]? = some t → args[j]? = some v → Value.okWide Try.prog W .any base t v := hval0
  have hW' := hW
  obtain ⟨p, q, hA0, hV, rfl, hfz, hnd⟩ := hW
  have hA : DataW.TrodAll enc Try.prog W 0 (fun _ => true) true Try.f6.params.toList args.toList ds p := hA0
  rw [Try.params6] at hA hval hsz
  obtain ⟨v0, vs0, d0, ds0, p0, q0, hargs, rfl, rfl, h0, r0⟩ := trodAll_cons hA
  obtain ⟨rfl, rfl, rfl⟩ := trodAll_nil r0
  obtain rfl : args = #[v0] := by cases args; simp_all
  obtain ⟨rfl, rfl⟩ := trodVars_none hV
  obtain ⟨a0, len0, cap0, rfl⟩ := okWide_slice Try.underlying22 (hval 0 22 v0 rfl rfl)
  have k0 := h0
  have lt0 : ∀ x ∈ p0, x.block < W.heap.size := by obtain ⟨m, hm⟩ := k0; exact DataW.trod_lt m _ _ _ hm
  obtain ⟨z0, w0, rc0⟩ : ∃ zs, Op.IsRow .u8 W a0 len0 cap0 zs ∧ cap0 ≤ 140737488351232 := by
    obtain ⟨fuel, hf⟩ := h0
    rcases open_ints Try.underlying22 Try.underlying5 (by kernel_rfl) hf with ⟨hcs, _⟩ | ⟨x, l, c, zs, hcs, _, hl, hm, hz, hx, hcell, hwz⟩
    · simp [Value.cells] at hcs
      obtain ⟨rfl, rfl, rfl⟩ := hcs
      exact ⟨[], .inl ⟨rfl, rfl, rfl, rfl⟩, Nat.zero_le _⟩
    · simp [Value.cells] at hcs
      obtain ⟨rfl, rfl, rfl⟩ := hcs
      refine ⟨zs, .inr ⟨_, rfl, hl, hm, by simpa using hz, hcell, hwz⟩, ?_⟩
      simp only [Prod.mk.injEq] at hx
      obtain ⟨hx, _⟩ := hx
      have hb : Try.prog.bytesOf 5 = 1 := by kernel_rfl
      have hs := sized_slice hsz (j := 0) (t := 22) (e := 5) (elems := lits .u8 (zs.take len0)) (spare := lits .u8 (zs.drop len0)) rfl (by rw [hx]; rfl) Try.underlying22
      rw [hb] at hs
      simp only [lits, List.length_map, List.length_take, List.length_drop, reachBytes] at hs
      simp only [if_true] at hz
      omega
  clear hA0 hval0
  refine (walk a0 len0 cap0 z0 W w0 rc0).mono fun e W' ⟨he, bel⟩ => ?_
  subst he
  exact ⟨_, rfl, _, _, _, [], _, [], hW', trodAll_mk1 (shut_bool Try.underlying4 _), (trodAll_cons_mk (Below.trod Op.laidOut (by kernel_rfl) (of_decide_eq_true (by kernel_rfl)) k0 bel lt0) trodAll_mk0), rfl, bel.frame _, fun h => by cases h⟩

theorem over : Rows.wireItemTextsRow.holds Try.pinned (OpenSpec.ofChange Rows.wireItemTextsSpec) :=
  OpenClaim.holds_of_wide 6 Try.f6 rfl rfl rfl rfl rfl rfl rfl ⟨rfl, rfl, rfl, rfl, rfl⟩ rfl rfl rfl rfl rfl (by kernel_rfl) Try.func6 (by kernel_rfl)
    (of_decide_eq_true (by kernel_rfl)) (by unfold Func.isWrapper; first | (rw [if_pos (by decide +kernel)]; kernel_rfl) | (rw [if_neg (by decide +kernel)]; exact ⟨rfl, rfl⟩))
    (fun os started H enc _ => lifted os started H enc)

theorem proved : Rows.WireItemTextsSaid := over
end Go.Proofs.Ytbjpbcanmpimnab.wireItemTexts

namespace Go.Proofs.Ytbjpbcanmpimnab
theorem wireItemTexts_holds : Rows.WireItemTextsSaid := wireItemTexts.proved
end Go.Proofs.Ytbjpbcanmpimnab
