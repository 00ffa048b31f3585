import Derived.Test.YtbjpbcanmpimnaaPut
import Derived.Test.YtbjpbcanmpimnaaRefPut
import Derived.Test.YtbjpbcanmpimnaaBookAt
import Derived.SizedLaws
import Derived.WalkKit
import Derived.ProofKit
import Derived.OpenShut
import Derived.ShutString
import Derived.ChangeOld
import Derived.Below
namespace Go.Proofs.Ytbjpbcanmpimnaa.wirePuts
open Go.ChangeShapes Go.WideShapes Go.ChangeAt Go.RowKit
open Go.ChangeMaps (open_string shut_string)
set_option linter.unusedVariables false

theorem num_any (v : Int) (w : World) : Calls Try.prog 8 #[.int .i64 v] w fun e w' => e = .returned (.int .i64 v) ∧ w = w' := by
  go_enter Try.func8, Try.ntmps8
  go_wp2
  go_ret
  exact ⟨rfl, rfl⟩

theorem toWk {w : World} {ao : Option Addr} {len cap : Nat} {bs : List Int} (h : Lo.Rd w ao len cap bs) : Wk.Rd w ao len bs := ⟨h.1, h.2.2.1, h.2.2.2⟩

open Lo Bk

theorem putInt_pi (ao : Option Addr) (len cap : Nat) (bs X : List Int) (n e0 : Int) (w : World) (hr : Rd w ao len cap bs) (hlen : len ≤ 140737488355264) (hX : pi bs n = X) (he : pe n = e0) :
    Calls Try.prog 7 #[.slice ao len cap, .int .i64 n] w fun e w' => ∃ a1 c1, e = .returned (.tuple #[.slice a1 X.length c1, .int .i64 e0]) ∧ Own w' w.heap.size (.slice a1 X.length c1) X ∧ Rd w' a1 X.length c1 X ∧ Below w.heap.size w w' := by
  subst hX he
  have hrr := pi_range bs n hr.2.2.2
  refine (Wk.putInt_any ao len cap bs n w (toWk hr) (by omega)).mono fun e w' h => ?_
  rcases h with ⟨hn, rfl, rfl⟩ | ⟨hn, v', rfl, ho, hb⟩
  · have e : pi bs n = [] := by unfold pi; rw [if_neg hn]
    have e2 : pe n = 1 := by unfold pe; rw [if_neg hn]
    rw [e, e2]
    exact ⟨none, 0, rfl, World.ownsRow_nil _ _ _ _, ⟨rfl, fun _ => ⟨rfl, rfl⟩, .inl rfl, by simp⟩, Below.refl _ _⟩
  · have e : pi bs n = bs ++ Wm.put 8 n := by unfold pi; rw [if_pos hn]
    have e2 : pe n = 0 := by unfold pe; rw [if_pos hn]
    rw [e] at hrr
    rw [e, e2]
    have ho' : Own w' w.heap.size v' (bs ++ Wm.put 8 n) := ho
    obtain ⟨a1, c1, rfl, hrd⟩ := ho'.rdAny hrr
    exact ⟨a1, c1, rfl, ho', hrd, hb⟩

theorem rputInt_pi' (ao : Option Addr) (len cap : Nat) (bs X : List Int) (n e0 : Int) (w : World) (hr : Rd w ao len cap bs) (hlen : len ≤ 140737488355264) (hX : pi bs n = X) (he : pe n = e0) :
    Calls Try.prog 14 #[.slice ao len cap, .int .i64 n] w fun e w' => ∃ a1 c1, e = .returned (.tuple #[.slice a1 X.length c1, .int .i64 e0]) ∧ Own w' w.heap.size (.slice a1 X.length c1) X ∧ Rd w' a1 X.length c1 X ∧ Below w.heap.size w w' := by
  subst hX he
  exact rputInt_pi ao len cap bs n w hr hlen

theorem same_own (a1 a2 : Option Addr) (n c1 c2 b1 b2 : Nat) (X : List Int) (w : World) (h1 : Own w b1 (.slice a1 n c1) X) (h2 : Own w b2 (.slice a2 n c2) X) (hr : ∀ i, 0 ≤ X.getD i 0 ∧ X.getD i 0 ≤ 255) (hlen : n ≤ 140737488355328) :
    Calls Try.prog 15 #[.slice a1 n c1, .slice a2 n c2] w fun e w' => e = .returned (.bool true) ∧ Below w.heap.size w w' :=
  same_any a1 a2 n c1 c2 X w (own_src h1 hr) (own_src h2 hr) hlen

set_option maxRecDepth 100000 in
set_option maxHeartbeats 4000000 in
theorem core (ao : Option Addr) (cap : Nat) (bs : List Int) (n m : Int) (w : World) (hr : Rd w ao bs.length cap bs) (hlen : bs.length ≤ 140737488351232) :
    Calls Try.prog 5 #[.slice ao bs.length cap, .int .i64 n, .int .i64 m] w fun e w' => e = .returned (.bool true) ∧ Below w.heap.size w w' := by
  have Hr : Hid (Rd w ao bs.length cap bs) := hr
  obtain ⟨X, hX⟩ : ∃ X, pi bs n = X := ⟨_, rfl⟩
  obtain ⟨Y, hY⟩ : ∃ Y, pi bs m = Y := ⟨_, rfl⟩
  obtain ⟨Z, hZ⟩ : ∃ Z, pi (turnTo bs.length bs) n = Z := ⟨_, rfl⟩
  obtain ⟨en, hen⟩ : ∃ e, pe n = e := ⟨_, rfl⟩
  obtain ⟨em, hem⟩ : ∃ e, pe m = e := ⟨_, rfl⟩
  have HX : Hid (pi bs n = X) := hX
  have HY : Hid (pi bs m = Y) := hY
  have HZ : Hid (pi (turnTo bs.length bs) n = Z) := hZ
  have Hen : Hid (pe n = en) := hen
  have Hem : Hid (pe m = em) := hem
  have hXl : X.length ≤ bs.length + 9 := by rw [← hX]; exact pi_len bs n
  have hYl : Y.length ≤ bs.length + 9 := by rw [← hY]; exact pi_len bs m
  have hZl : Z.length ≤ bs.length + 9 := by rw [← hZ]; have := pi_len (turnTo bs.length bs) n; rw [turnTo_len] at this; exact this
  have HXr : Hid (∀ i, 0 ≤ X.getD i 0 ∧ X.getD i 0 ≤ 255) := by rw [← hX]; exact pi_range bs n hr.2.2.2
  have HYr : Hid (∀ i, 0 ≤ Y.getD i 0 ∧ Y.getD i 0 ≤ 255) := by rw [← hY]; exact pi_range bs m hr.2.2.2
  have HZr : Hid (∀ i, 0 ≤ Z.getD i 0 ∧ Z.getD i 0 ≤ 255) := by rw [← hZ]; exact pi_range _ n (turnTo_range _ bs hr.2.2.2)
  clear hr hX hY hZ hen hem
  go_enter Try.func5, Try.ntmps5
  go_wp2_with fail
  refine (L_shape ao cap bs _ Hr.out (by omega)).mono ?_
  rintro e w1 ⟨g, capl, rfl, hcl, hg, ho1, hb1⟩
  have Ho1 : Hid (Own w1 w.heap.size (.slice (some ⟨g, 0, none⟩) (bs ++ marks 64).length capl) (bs ++ marks 64)) := ho1
  have Hb1 : Hid (Below w.heap.size w w1) := hb1
  have Hr1 : Hid (Rd w1 ao bs.length cap bs) := Hr.out.below hb1
  have Hg1 : Hid (Rd w1 (some ⟨g, 0, none⟩) bs.length capl bs) := ho1.rdPrefix Hr.out.2.2.2
  have hg1 : g < w1.heap.size := (ho1.lt g rfl).2
  obtain ⟨B, hB⟩ : ∃ B, B = w1.heap.size := ⟨_, rfl⟩
  have s1 : w1.heap.size = B := hB.symm
  clear ho1 hb1
  go_wp2_with fail
  refine (putInt_pi _ _ _ bs X n en _ Hg1.out (by omega) HX.out Hen.out).mono ?_
  rintro e w2 ⟨ac, cc, rfl, hoc, -, hb2⟩
  have Hc2 : Hid (Own w2 B (.slice ac X.length cc) X) := by rw [hB]; exact hoc
  have Hb2 : Hid (Below B w1 w2) := by rw [hB]; exact hb2
  have z2 := hb2.size
  clear hoc hb2
  go_wp2_with fail
  refine (putInt_pi _ _ _ bs Y m em _ (Hg1.out.below (by rw [s1]; exact Hb2.out)) (by omega) HY.out Hem.out).mono ?_
  rintro e w3 ⟨ad, cd, rfl, hod, -, hb3⟩
  have Hd3 : Hid (Own w3 w2.heap.size (.slice ad Y.length cd) Y) := hod
  have Hc3 : Hid (Own w3 B (.slice ac X.length cc) X) := owns_below Hc2.out hb3
  have Hb3 : Hid (Below B w1 w3) := Hb2.out.trans (hb3.mono (by omega))
  have z3 := hb3.size
  clear hod hb3
  go_wp2_with fail
  refine (putInt_pi _ _ _ bs X n en _ (Hg1.out.below (by rw [s1]; exact Hb3.out)) (by omega) HX.out Hen.out).mono ?_
  rintro e w4 ⟨aa, ca, rfl, hoa, -, hb4⟩
  have Ha4 : Hid (Own w4 w3.heap.size (.slice aa X.length ca) X) := hoa
  have Hc4 : Hid (Own w4 B (.slice ac X.length cc) X) := owns_below Hc3.out hb4
  have Hd4 : Hid (Own w4 w2.heap.size (.slice ad Y.length cd) Y) := owns_below Hd3.out hb4
  have Hb4 : Hid (Below B w1 w4) := Hb3.out.trans (hb4.mono (by omega))
  have z4 := hb4.size
  clear hoa hb4
  go_wp2_with fail
  refine (rputInt_pi' _ _ _ bs X n en _ (Hr1.out.below (by rw [s1]; exact Hb4.out)) (by omega) HX.out Hen.out).mono ?_
  rintro e w5 ⟨aw, cw, rfl, how, -, hb5⟩
  have Hw5 : Hid (Own w5 w4.heap.size (.slice aw X.length cw) X) := how
  have Hb5 : Hid (Below w4.heap.size w4 w5) := hb5
  have Hb5' : Hid (Below B w1 w5) := Hb4.out.trans (hb5.mono (by omega))
  have z5 := hb5.size
  clear how hb5
  go_wp2_with fail
  refine (rputInt_pi' _ _ _ bs Y m em _ (Hr1.out.below (by rw [s1]; exact Hb5'.out)) (by omega) HY.out Hem.out).mono ?_
  rintro e w6 ⟨ao', co, rfl, hoo, -, hb6⟩
  have Ho6 : Hid (Own w6 w5.heap.size (.slice ao' Y.length co) Y) := hoo
  have Hw6 : Hid (Own w6 w4.heap.size (.slice aw X.length cw) X) := owns_below Hw5.out hb6
  have Hb6 : Hid (Below w4.heap.size w4 w6) := Hb5.out.trans (hb6.mono (by omega))
  have Ha6 : Hid (Own w6 w3.heap.size (.slice aa X.length ca) X) := owns_below Ha4.out Hb6.out
  have Hc6 : Hid (Own w6 B (.slice ac X.length cc) X) := owns_below Hc4.out Hb6.out
  have Hd6 : Hid (Own w6 w2.heap.size (.slice ad Y.length cd) Y) := owns_below Hd4.out Hb6.out
  have z6 := hb6.size
  clear hoo hb6
  go_wp2_with fail
  refine (num_any _ _).mono ?_
  rintro e w' ⟨rfl, rfl⟩
  go_wp2_with fail
  refine (num_any _ _).mono ?_
  rintro e w' ⟨rfl, rfl⟩
  go_wp2_with fail
  refine (num_any _ _).mono ?_
  rintro e w' ⟨rfl, rfl⟩
  go_wp2_with fail
  refine (same_own _ _ _ _ _ _ _ X _ Hc6.out Hw6.out HXr.out (by omega)).mono ?_
  rintro e w7 ⟨rfl, hb7⟩
  have Hb7 : Hid (Below w6.heap.size w6 w7) := hb7
  have z7 := hb7.size
  clear hb7
  go_wp2_with fail
  refine (same_own _ _ _ _ _ _ _ X _ (owns_below Ha6.out Hb7.out) (owns_below Hw6.out Hb7.out) HXr.out (by omega)).mono ?_
  rintro e w8 ⟨rfl, hb8⟩
  have Hb8 : Hid (Below w6.heap.size w6 w8) := Hb7.out.trans (hb8.mono (by omega))
  have z8 := hb8.size
  clear hb8
  go_wp2_with fail
  refine (same_own _ _ _ _ _ _ _ Y _ (owns_below Hd6.out Hb8.out) (owns_below Ho6.out Hb8.out) HYr.out (by omega)).mono ?_
  rintro e w9 ⟨rfl, hb9⟩
  have Hb9 : Hid (Below w6.heap.size w6 w9) := Hb8.out.trans (hb9.mono (by omega))
  have z9 := hb9.size
  have Hb9' : Hid (Below B w1 w9) := Hb4.out.trans ((Hb6.out.trans (Hb9.out.mono (by omega))).mono (by omega))
  clear hb9
  go_wp2_with fail
  refine (unspoilt_own g capl w.heap.size ao cap bs _ (Hr1.out.below (by rw [s1]; exact Hb9'.out)) (by omega) (owns_below Ho1.out (by rw [s1]; exact Hb9'.out))).mono ?_
  rintro e w10 ⟨rfl, hb10⟩
  have Hb10 : Hid (Below B w1 w10) := Hb9'.out.trans (hb10.mono (by omega))
  have Hb610 : Hid (Below w6.heap.size w6 w10) := Hb9.out.trans (hb10.mono (by omega))
  have z10 := hb10.size
  clear hb10
  have H11 : Hid (BkAt (w10.alloc (.cells #[.slice none 0 0, .slice none 0 0, .int .i64 0] 43)) B w10.heap.size 0 []) := book_new w10 B (by omega)
  have Hb11 : Hid (Below w10.heap.size w10 (w10.alloc (.cells #[.slice none 0 0, .slice none 0 0, .int .i64 0] 43))) := (Below.refl _ _).alloc (Nat.le_refl _) _
  go_wp2_with fail
  generalize hkb : w10.heap.size = kb at *
  generalize hw11 : w10.alloc (.cells #[.slice none 0 0, .slice none 0 0, .int .i64 0] 43) = w11 at *
  have hkb' : kb ≤ w11.heap.size := by have := Hb11.out.size; omega
  clear hw11
  have Hb611 : Hid (Below w6.heap.size w6 w11) := Hb610.out.trans (Hb11.out.mono (by omega))
  have Hb1_11 : Hid (Below B w1 w11) := Hb10.out.trans (Hb11.out.mono (by omega))
  have Ha11 : Hid (Own w11 w3.heap.size (.slice aa X.length ca) X) := owns_below Ha6.out Hb611.out
  have Hc11 : Hid (Own w11 B (.slice ac X.length cc) X) := owns_below Hc6.out Hb611.out
  have Hd11 : Hid (Own w11 w2.heap.size (.slice ad Y.length cd) Y) := owns_below Hd6.out Hb611.out
  have Hw11 : Hid (Own w11 w4.heap.size (.slice aw X.length cw) X) := owns_below Hw6.out Hb611.out
  have LC : Hid (∀ k, (Value.slice ac X.length cc).ownBlock = some k → B ≤ k ∧ k < w2.heap.size) := fun k hk => Hc2.out.lt k hk
  have LD : Hid (∀ k, (Value.slice ad Y.length cd).ownBlock = some k → w2.heap.size ≤ k ∧ k < w3.heap.size) := fun k hk => Hd3.out.lt k hk
  have LA : Hid (∀ k, (Value.slice aa X.length ca).ownBlock = some k → w3.heap.size ≤ k ∧ k < w4.heap.size) := fun k hk => Ha4.out.lt k hk
  have LW : Hid (∀ k, (Value.slice aw X.length cw).ownBlock = some k → w4.heap.size ≤ k) := fun k hk => (Hw5.out.lt k hk).1
  clear Hc2 Hd3 Ha4 Hw5 Ha6 Hc6 Hd6 Hw6 Ho6 Hc3 Hc4 Hd4 Hb610 Hb10 Hb11 Hb9' Hb9 Hb8 Hb7 Hb6 Hb5 Hb5' Hb4 Hb3 Hb2 Hb611
  refine (keep_at B kb 0 [] _ _ B X w11 H11.out Hc11.out (by omega) (by omega) (by simp) HXr.out (by omega) (by simp)).mono ?_
  rintro e w12 ⟨rfl, p1, hk1, hg1', hB1, hh1, hsp⟩
  have K12 : Hid (BkAt w12 B kb 1 [p1]) := hk1
  have G1 : Hid (p1.gr = p1.dn ∧ p1.B = .slice ac X.length cc ∧ ∀ k, holds p1 k → (Value.slice ac X.length cc).ownBlock = some k ∨ w11.heap.size ≤ k) := ⟨hg1', hB1, hh1⟩
  have Ha12 : Hid (Own w12 w3.heap.size (.slice aa X.length ca) X) := hsp.u8 Ha11.out (by simp)
  have Hd12 : Hid (Own w12 w2.heap.size (.slice ad Y.length cd) Y) := hsp.u8 Hd11.out (by simp)
  have Hw12 : Hid (Own w12 w4.heap.size (.slice aw X.length cw) X) := hsp.u8 Hw11.out (by simp)
  have Hb12 : Hid (Below B w1 w12) := Hb1_11.out.trans hsp.bel
  have z12 := hsp.siz
  clear hk1 hg1' hB1 hh1 hsp
  go_wp2_with fail
  refine (write_at B kb 1 [p1] _ _ w3.heap.size X w12 K12.out Ha12.out (by omega) (by omega) (by simp) (by omega) ?_).mono ?_
  · intro k hk p hp hh
    obtain rfl := List.mem_singleton.1 hp
    have := LA.out k hk
    rcases G1.out.2.2 k hh with e | e
    · have := LC.out k e; omega
    · omega
  rintro e w13 ⟨rfl, p2, hk1, hg1', hB1, hh1, hsp⟩
  have K13 : Hid (BkAt w13 B kb 2 [p1, p2]) := hk1
  have G2 : Hid (p2.gr = p2.dn ∧ p2.B = .slice aa X.length ca ∧ ∀ k, holds p2 k → (Value.slice aa X.length ca).ownBlock = some k ∨ w12.heap.size ≤ k) := ⟨hg1', hB1, hh1⟩
  have Hd13 : Hid (Own w13 w2.heap.size (.slice ad Y.length cd) Y) := hsp.u8 Hd12.out (fun k hk e => by have := LD.out k hk; have := LA.out k e; omega)
  have Hw13 : Hid (Own w13 w4.heap.size (.slice aw X.length cw) X) := hsp.u8 Hw12.out (fun k hk e => by have := LW.out k hk; have := LA.out k e; omega)
  have Hb13 : Hid (Below B w1 w13) := Hb12.out.trans hsp.bel
  have z13 := hsp.siz
  clear hk1 hg1' hB1 hh1 hsp
  go_wp2_with fail
  refine (keep_at B kb 2 [p1, p2] _ _ w2.heap.size Y w13 K13.out Hd13.out (by omega) (by omega) (by simp) HYr.out (by omega) ?_).mono ?_
  · intro k hk p hp hh
    have := LD.out k hk
    rcases List.mem_cons.1 hp with rfl | hp
    · rcases G1.out.2.2 k hh with e | e
      · have := LC.out k e; omega
      · omega
    · obtain rfl := List.mem_singleton.1 hp
      rcases G2.out.2.2 k hh with e | e
      · have := LA.out k e; omega
      · omega
  rintro e w14 ⟨rfl, p3, hk1, hg1', hB1, hh1, hsp⟩
  have K14 : Hid (BkAt w14 B kb 3 [p1, p2, p3]) := hk1
  have G3 : Hid (p3.gr = p3.dn ∧ p3.B = .slice ad Y.length cd) := ⟨hg1', hB1⟩
  have Hw14 : Hid (Own w14 w4.heap.size (.slice aw X.length cw) X) := hsp.u8 Hw13.out (by simp)
  have Hb14 : Hid (Below B w1 w14) := Hb13.out.trans hsp.bel
  have z14 := hsp.siz
  clear hk1 hg1' hB1 hh1 hsp
  go_wp2_with fail
  refine (settle_at B kb 3 [p1, p2, p3] w14 K14.out (by simp) ?_).mono ?_
  · intro p hp
    rcases List.mem_cons.1 hp with rfl | hp
    · exact G1.out.1
    · rcases List.mem_cons.1 hp with rfl | hp
      · exact G2.out.1
      · obtain rfl := List.mem_singleton.1 hp
        exact G3.out.1
  rintro e w15 ⟨rfl, qs, hk1, hl1, hg1', hh1, hsp⟩
  have K15 : Hid (BkAt w15 B kb 3 qs) := hk1
  have G15 : Hid (qs.length = 3 ∧ ∀ q ∈ qs, q.gr = q.dn) := ⟨hl1, hg1'⟩
  have Hw15 : Hid (Own w15 w4.heap.size (.slice aw X.length cw) X) := hsp.u8 Hw14.out (by
    rintro k hk ⟨p, hp, e⟩
    have := LW.out k hk
    rcases List.mem_cons.1 hp with rfl | hp
    · rw [G1.out.2.1] at e; have := LC.out k e; omega
    · rcases List.mem_cons.1 hp with rfl | hp
      · rw [G2.out.2.1] at e; have := LA.out k e; omega
      · obtain rfl := List.mem_singleton.1 hp
        rw [G3.out.2] at e; have := LD.out k e; omega)
  have Hb15 : Hid (Below B w1 w15) := Hb14.out.trans hsp.bel
  have z15 := hsp.siz
  clear hk1 hl1 hg1' hh1 hsp
  go_wp2_with fail
  refine (unspoilt_own g capl w.heap.size ao cap bs _ (Hr1.out.below (by rw [s1]; exact Hb15.out)) (by omega) (owns_below Ho1.out (by rw [s1]; exact Hb15.out))).mono ?_
  rintro e w16 ⟨rfl, hb16⟩
  have Hb16 : Hid (Below B w1 w16) := Hb15.out.trans (hb16.mono (by omega))
  have K16 : Hid (BkAt w16 B kb 3 qs) := K15.out.below hb16
  have Hw16 : Hid (Own w16 w4.heap.size (.slice aw X.length cw) X) := owns_below Hw15.out hb16
  have z16 := hb16.size
  clear hb16
  go_wp2_with fail
  refine (putInt_pi _ _ _ bs X n en _ (Hg1.out.below (by rw [s1]; exact Hb16.out)) (by omega) HX.out Hen.out).mono ?_
  rintro e w17 ⟨ag, cg, rfl, hog, -, hb17⟩
  have Hag17 : Hid (Own w17 w16.heap.size (.slice ag X.length cg) X) := hog
  have Hb17 : Hid (Below B w1 w17) := Hb16.out.trans (hb17.mono (by omega))
  have K17 : Hid (BkAt w17 B kb 3 qs) := K16.out.below hb17
  have HQ : Hid (∀ q ∈ qs, ∀ k, holds q k → k < w16.heap.size) := fun q hq k hk => (holds_lt K16.out q hq k hk).2
  have Hw17 : Hid (Own w17 w4.heap.size (.slice aw X.length cw) X) := owns_below Hw16.out hb17
  have z17 := hb17.size
  clear hog hb17
  go_wp2_with fail
  refine (keep_at B kb 3 qs _ _ w16.heap.size X w17 K17.out Hag17.out (by omega) (by omega) (by rw [G15.out.1]; omega) HXr.out (by omega) ?_).mono ?_
  · intro k hk p hp hh
    have := (Hag17.out.lt k hk).1
    have := HQ.out p hp k hh
    omega
  rintro e w18 ⟨rfl, p4, hk1, hg1', hB1, hh1, hsp⟩
  have K18 : Hid (BkAt w18 B kb 4 (qs ++ [p4])) := hk1
  have G18 : Hid (∀ q ∈ qs ++ [p4], q.gr = q.dn) := fun q hq => by
    rcases List.mem_append.1 hq with h | h
    · exact G15.out.2 q h
    · obtain rfl := List.mem_singleton.1 h; exact hg1'
  have Hw18 : Hid (Own w18 w4.heap.size (.slice aw X.length cw) X) := hsp.u8 Hw17.out (by simp)
  have Hag18 : Hid (Own w18 w16.heap.size (.slice ag X.length cg) X) := hsp.u8 Hag17.out (by simp)
  have Hb18 : Hid (Below B w1 w18) := Hb17.out.trans hsp.bel
  have z18 := hsp.siz
  clear hk1 hg1' hB1 hh1 hsp
  go_wp2_with fail
  refine (num_any _ _).mono ?_
  rintro e w' ⟨rfl, rfl⟩
  go_wp2_with fail
  refine (same_own _ _ _ _ _ _ _ X _ Hag18.out Hw18.out HXr.out (by omega)).mono ?_
  rintro e w19 ⟨rfl, hb19⟩
  have Hb19 : Hid (Below B w1 w19) := Hb18.out.trans (hb19.mono (by omega))
  have K19 : Hid (BkAt w19 B kb 4 (qs ++ [p4])) := K18.out.below hb19
  have z19 := hb19.size
  clear hb19
  have Ho19 : Hid (Own w19 w.heap.size (.slice (some ⟨g, 0, none⟩) (bs ++ marks 64).length capl) (bs ++ marks 64)) := owns_below Ho1.out (by rw [s1]; exact Hb19.out)
  have Hbw19 : Hid (Below w.heap.size w w19) := Hb1.out.trans (Hb19.out.mono (by have := Hb1.out.size; omega))
  go_wp2_with fail
  refine (turn_shape g capl w.heap.size bs (marks 64) _ Ho19.out Hr.out.2.2.2 (by omega)).mono ?_
  rintro e w20 ⟨a3, cap3, rfl, ho3, hr3, hl3, hg3⟩
  have Hr20 : Hid (Rd w20 a3 bs.length cap3 (turnTo bs.length bs)) := hr3
  have Ho20 : Hid (Own w20 w.heap.size (.slice (some ⟨g, 0, none⟩) (turnTo bs.length bs ++ marks 64).length capl) (turnTo bs.length bs ++ marks 64)) := by
    have e : (turnTo bs.length bs ++ marks 64).length = (bs ++ marks 64).length := by simp [turnTo_len]
    rw [e]; exact hl3
  have Hg20 : Hid (Rd w20 (some ⟨g, 0, none⟩) bs.length capl (turnTo bs.length bs)) := by
    have h := hl3.rdPrefix (turnTo_range _ bs Hr.out.2.2.2)
    rw [turnTo_len] at h
    exact h
  have K20 : Hid (BkAt w20 B kb 4 (qs ++ [p4])) := K19.out.grown hg3 (by omega)
  have Hbw20 : Hid (Below w.heap.size w w20) := Hbw19.out.grown hg3 Hbw19.out.size (fun k hk => by obtain rfl := Option.some.inj hk; exact hg)
  clear ho3 hr3 hl3 hg3
  go_wp2_with fail
  refine (putInt_pi _ _ _ _ Z n en _ Hg20.out (by omega) HZ.out Hen.out).mono ?_
  rintro e w21 ⟨al, cl, rfl, hol, -, hb21⟩
  have Hl21 : Hid (Own w21 w20.heap.size (.slice al Z.length cl) Z) := hol
  have Hb21 : Hid (Below w20.heap.size w20 w21) := hb21
  have z21 := hb21.size
  clear hol hb21
  go_wp2_with fail
  refine (rputInt_pi' _ _ _ _ Z n en _ (Hr20.out.below Hb21.out) (by omega) HZ.out Hen.out).mono ?_
  rintro e w22 ⟨an, cn, rfl, hon, -, hb22⟩
  have Hn22 : Hid (Own w22 w21.heap.size (.slice an Z.length cn) Z) := hon
  have Hl22 : Hid (Own w22 w20.heap.size (.slice al Z.length cl) Z) := owns_below Hl21.out hb22
  have Hb22 : Hid (Below w20.heap.size w20 w22) := Hb21.out.trans (hb22.mono (by omega))
  have z22 := hb22.size
  clear hon hb22
  go_wp2_with fail
  refine (num_any _ _).mono ?_
  rintro e w' ⟨rfl, rfl⟩
  go_wp2_with fail
  refine (same_own _ _ _ _ _ _ _ Z _ Hl22.out Hn22.out HZr.out (by omega)).mono ?_
  rintro e w23 ⟨rfl, hb23⟩
  have Hb23 : Hid (Below w20.heap.size w20 w23) := Hb22.out.trans (hb23.mono (by omega))
  have z23 := hb23.size
  clear hb23
  go_wp2_with fail
  have hu := unspoilt_own g capl w.heap.size a3 cap3 (turnTo bs.length bs) w23 (by rw [turnTo_len]; exact Hr20.out.below Hb23.out) (by rw [turnTo_len]; omega) (owns_below Ho20.out Hb23.out)
  rw [turnTo_len] at hu
  refine hu.mono ?_
  clear hu
  rintro e w24 ⟨rfl, hb24⟩
  have Hb24 : Hid (Below w20.heap.size w20 w24) := Hb23.out.trans (hb24.mono (by omega))
  have z24 := hb24.size
  clear hb24
  go_wp2_with fail
  refine (intact_at B kb 4 (qs ++ [p4]) _ (K20.out.below Hb24.out) G18.out).mono ?_
  rintro e w25 ⟨rfl, hb25⟩
  have Hb25 : Hid (Below w.heap.size w w25) := Hbw20.out.trans ((Hb24.out.trans (hb25.mono (by omega))).mono (by have := Hbw20.out.size; omega))
  clear hb25
  go_wp2_with fail
  go_ret
  exact ⟨rfl, Hb25⟩

theorem own : ownKnob Try.prog.godebug = none := by kernel_rfl
theorem laidOut : laidOutB Try.prog = true := by kernel_rfl

def IsRow (k : IntKind) (w : World) (a : Option Addr) (len cap : Nat) (zs : List Int) : Prop :=
  (a = none ∧ len = 0 ∧ cap = 0 ∧ zs = []) ∨
  ∃ x, a = some x ∧ len ≤ cap ∧ cap ≤ maxLen ∧ zs.length = cap ∧ (∀ i, i < zs.length → w.cell? (x.add i) = some (.int k (zs.getD i 0))) ∧ ∀ n ∈ zs, (Lit.int k n).wf = true

theorem rd_of_row {w : World} {a0 : Option Addr} {len0 cap0 : Nat} {z0 : List Int} (w0 : IsRow .u8 w a0 len0 cap0 z0) : Lo.Rd w a0 (z0.take len0).length cap0 (z0.take len0) ∧ (z0.take len0).length = len0 := by
  rcases w0 with ⟨rfl, rfl, rfl, rfl⟩ | ⟨x, rfl, hl, hm, hz, hcell, hwz⟩
  · exact ⟨⟨rfl, fun _ => ⟨rfl, rfl⟩, .inl rfl, by simp⟩, rfl⟩
  · have hlen : (z0.take len0).length = len0 := by rw [List.length_take]; omega
    refine ⟨⟨rfl, by simp, ?_, ?_⟩, hlen⟩
    · by_cases h0 : len0 = 0
      · exact .inl (by omega)
      · obtain ⟨b, off, spot⟩ := x
        have hc := hcell 0 (by omega)
        have hspot : spot = none := by simpa [Addr.add] using World.cell?_spot hc
        subst hspot
        refine .inr ⟨b, off, rfl, fun i hi => ?_⟩
        have := hcell i (by omega)
        rw [Addr.add_lit] at this
        rw [this]
        have h1 : i < len0 := by omega
        simp [List.getD, h1]
    · intro i
      by_cases hi : i < (z0.take len0).length
      · have hmem : (z0.take len0).getD i 0 ∈ z0 := by
          have : (z0.take len0).getD i 0 ∈ z0.take len0 := by simp only [List.getD, List.getElem?_eq_getElem hi]; exact List.getElem_mem hi
          exact List.mem_of_mem_take this
        have := hwz _ hmem
        simpa [Lit.wf, IntKind.min, IntKind.max, IntKind.signed, IntKind.bits] using this
      · simp [List.getD, List.getElem?_eq_none (by omega : (z0.take len0).length ≤ i)]

theorem walk (a0 : Option Addr) (len0 cap0 : Nat) (z0 : List Int) (a1 a2 : Int) (w : World) (w0 : IsRow .u8 w a0 len0 cap0 z0) (rc0 : cap0 ≤ 140737488351232) :
    Calls Try.prog 5 #[.slice a0 len0 cap0, .int .i64 a1, .int .i64 a2] w fun e w' => e = .returned (.bool true) ∧ Below w.heap.size w w' := by
  have h := rd_of_row w0
  have hl : len0 ≤ cap0 := by rcases w0 with ⟨_, h1, _, _⟩ | ⟨x, _, hl, _⟩ <;> omega
  have := core a0 cap0 (z0.take len0) a1 a2 w h.1 (by omega)
  rw [h.2] at this
  exact this

set_option maxRecDepth 100000 in
theorem lifted (os : Os) (started : os.Started) (H : Type) (enc : TypeId × Value → H) :
    ReturnsInHanded {} Try.checked os 5 .any (Rows.wirePutsSpec.pre6 enc Try.prog Try.f5 Rows.wirePutsRow.domain false) (Rows.wirePutsSpec.post enc Try.prog Try.f5 false true false false) := by
  refine returnsInHanded_of_change_sized (C := Try.checked) own started (by kernel_rfl) Try.func5
    (ChangeSpec.witness6 (enc := enc) (C := Try.checked) false ⟨#[], #[.slice none 0 0, .int .i64 0, .int .i64 0], []⟩ 8 (by kernel_rfl) (by kernel_rfl) (by kernel_rfl) (by kernel_rfl)) ?_
  intro W base args ds gs before hval0 hW hcnd hsz0 _
  have hsz : (DataW.weightsEach Try.prog (Try.f5.params.toList ++ Rows.wirePutsSpec.plain.varTypes Try.prog) (ds ++ gs)).all (· ≤ reachBytes) = true := hsz0
  clear hsz0
  have hval : ∀ (j : Nat) t v, Try.f5.params[j]? = some t → args[j]? = some v → Value.okWide Try.prog W .any base t v := hval0
  have hW' := hW
  obtain ⟨p, q, hA0, hV, rfl, hfz, hnd⟩ := hW
  have hA : DataW.TrodAll enc Try.prog W 0 (fun _ => true) true Try.f5.params.toList args.toList ds p := hA0
  rw [Try.params5] at hA hval hsz
  obtain ⟨v0, vs0, d0, ds0, p0, q0, hargs, rfl, rfl, h0, r0⟩ := trodAll_cons hA
  obtain ⟨v1, vs1, d1, ds1, p1, q1, rfl, rfl, rfl, h1, r1⟩ := trodAll_cons r0
  obtain ⟨v2, vs2, d2, ds2, p2, q2, rfl, rfl, rfl, h2, r2⟩ := trodAll_cons r1
  obtain ⟨rfl, rfl, rfl⟩ := trodAll_nil r2
  obtain rfl : args = #[v0, v1, v2] := by cases args; simp_all
  obtain ⟨rfl, rfl⟩ := trodVars_none hV
  obtain ⟨a0, len0, cap0, rfl⟩ := okWide_slice Try.underlying23 (hval 0 23 v0 rfl rfl)
  have k0 := h0
  have lt0 : ∀ x ∈ p0, x.block < W.heap.size := by obtain ⟨m, hm⟩ := k0; exact DataW.trod_lt m _ _ _ hm
  obtain ⟨z0, w0, rc0⟩ : ∃ zs, IsRow .u8 W a0 len0 cap0 zs ∧ cap0 ≤ 140737488351232 := by
    obtain ⟨fuel, hf⟩ := h0
    rcases open_ints Try.underlying23 Try.underlying5 (by kernel_rfl) hf with ⟨hcs, _⟩ | ⟨x, l, c, zs, hcs, _, hl, hm, hz, hx, hcell, hwz⟩
    · simp [Value.cells] at hcs
      obtain ⟨rfl, rfl, rfl⟩ := hcs
      exact ⟨[], .inl ⟨rfl, rfl, rfl, rfl⟩, Nat.zero_le _⟩
    · simp [Value.cells] at hcs
      obtain ⟨rfl, rfl, rfl⟩ := hcs
      refine ⟨zs, .inr ⟨_, rfl, hl, hm, by simpa using hz, hcell, hwz⟩, ?_⟩
      simp only [Prod.mk.injEq] at hx
      obtain ⟨hx, _⟩ := hx
      have hb : Try.prog.bytesOf 5 = 1 := by kernel_rfl
      have hs := sized_slice hsz (j := 0) (t := 23) (e := 5) (elems := lits .u8 (zs.take len0)) (spare := lits .u8 (zs.drop len0)) rfl (by rw [hx]; rfl) Try.underlying23
      rw [hb] at hs
      simp only [lits, List.length_map, List.length_take, List.length_drop, reachBytes] at hs
      simp only [if_true] at hz
      omega
  obtain ⟨a1, rfl, rfl, rfl, w1⟩ := open_int Try.underlying3 (hval 1 3 v1 rfl rfl) h1
  obtain ⟨a2, rfl, rfl, rfl, w2⟩ := open_int Try.underlying3 (hval 2 3 v2 rfl rfl) h2
  clear hA0 hval0
  refine (walk a0 len0 cap0 z0 a1 a2 W w0 rc0).mono fun e W' ⟨he, bel⟩ => ?_
  subst he
  exact ⟨_, rfl, _, _, _, [], _, [], hW', trodAll_mk1 (shut_bool Try.underlying4 _), (trodAll_cons_mk (Below.trod laidOut (by kernel_rfl) (of_decide_eq_true (by kernel_rfl)) k0 bel lt0) (trodAll_cons_mk (shut_int Try.underlying3 w1) (trodAll_cons_mk (shut_int Try.underlying3 w2) trodAll_mk0))), rfl, bel.frame _, fun h => by cases h⟩

theorem over : Rows.wirePutsRow.holds Try.pinned (OpenSpec.ofChange Rows.wirePutsSpec) :=
  OpenClaim.holds_of_wide 5 Try.f5 rfl rfl rfl rfl rfl rfl rfl ⟨rfl, rfl, rfl, rfl, rfl⟩ rfl rfl rfl rfl rfl (by kernel_rfl) Try.func5 (by kernel_rfl)
    (of_decide_eq_true (by kernel_rfl)) (by unfold Func.isWrapper; first | (rw [if_pos (by decide +kernel)]; kernel_rfl) | (rw [if_neg (by decide +kernel)]; exact ⟨rfl, rfl⟩))
    (fun os started H enc _ => lifted os started H enc)

theorem proved : Rows.WirePutsSaid := over
end Go.Proofs.Ytbjpbcanmpimnaa.wirePuts

namespace Go.Proofs.Ytbjpbcanmpimnaa
theorem wirePuts_holds : Rows.WirePutsSaid := wirePuts.proved
end Go.Proofs.Ytbjpbcanmpimnaa
