import Derived.Test.YtbjpbcanmpimnabTn4
import Derived.Test.YtbjpbcanmpimnabPkG1
import Derived.Test.YtbjpbcanmpimnabPkG2
import Derived.Test.YtbjpbcanmpimnabPkG3
import Derived.Test.YtbjpbcanmpimnabPkG4
import Derived.Test.YtbjpbcanmpimnabPkG5
import Derived.Test.YtbjpbcanmpimnabPkG6
import Derived.Test.YtbjpbcanmpimnabPkG7
import Derived.Test.YtbjpbcanmpimnabPkG8
namespace Go.Proofs.Ytbjpbcanmpimnab.Lo
open Go.RowKit Bk
set_option linter.unusedVariables false
set_option linter.unusedSimpArgs false

theorem good_any (P : Pk) (xs ss vs hs : List Int) (sl : List (Int × Int)) (ds : List Dt) (w : World) (hp : Pw w P xs ss vs hs sl ds) :
    Calls Try.prog 53 #[.agg P.cs] w fun x w' => x = .returned (.bool (goodB P xs ss vs hs sl ds)) ∧ Below w.heap.size w w' := by
  by_cases h1 : P.k = 1
  · exact good_1 P xs ss vs hs sl ds w hp h1
  by_cases h2 : P.k = 2
  · exact good_2 P xs ss vs hs sl ds w hp h2
  by_cases h3 : P.k = 3
  · exact good_3 P xs ss vs hs sl ds w hp h3
  by_cases h4 : P.k = 4
  · exact good_4 P xs ss vs hs sl ds w hp h4
  by_cases h5 : P.k = 5
  · exact good_5 P xs ss vs hs sl ds w hp h5
  by_cases h6 : P.k = 6
  · exact good_6 P xs ss vs hs sl ds w hp h6
  by_cases h7 : P.k = 7
  · exact good_7 P xs ss vs hs sl ds w hp h7
  exact good_8 P xs ss vs hs sl ds w hp (by omega)

set_option maxRecDepth 100000 in
set_option maxHeartbeats 2000000 in
theorem rcheck_any (P : Pk) (xs ss vs hs : List Int) (sl : List (Int × Int)) (ds : List Dt) (g : Bool) (w : World) (hp : Pw w P xs ss vs hs sl ds) (hg : goodB P xs ss vs hs sl ds = g) :
    Calls Try.prog 23 #[.agg P.cs] w fun x w' => x = .returned (.int .i64 (cond g 0 16)) ∧ Below w.heap.size w w' := by
  have HP : Hid (Pw w P xs ss vs hs sl ds) := hp
  have HG : Hid (goodB P xs ss vs hs sl ds = g) := hg
  have B0 : Hid (Bl w (w.alloc (.cells P.cs 72)) w.heap.size P.cs) := Bl.new w _
  clear hp hg
  cases g with
  | false =>
    go_enter Try.func23, Try.ntmps23
    go_wp2_with (first
      | (refine load_pk (.tmp 1) B0.out rfl rfl rfl ?_)
      | (go_at_call 53; refine (geq (good_any P xs ss vs hs sl ds _ (HP.out.below B0.out.b)) HG.out).mono ?_; rintro e w1 ⟨rfl, hb1⟩; have B1 : Hid (Bl w w1 w.heap.size P.cs) := B0.out.still hb1; clear hb1)
      | fail)
    go_ret
    exact ⟨rfl, B1.out.b⟩
  | true =>
    go_enter Try.func23, Try.ntmps23
    go_wp2_with (first
      | (refine load_pk (.tmp 1) B0.out rfl rfl rfl ?_)
      | (go_at_call 53; refine (geq (good_any P xs ss vs hs sl ds _ (HP.out.below B0.out.b)) HG.out).mono ?_; rintro e w1 ⟨rfl, hb1⟩; have B1 : Hid (Bl w w1 w.heap.size P.cs) := B0.out.still hb1; clear hb1)
      | fail)
    go_ret
    exact ⟨rfl, B1.out.b⟩

theorem fwdTo_mate {w : World} {n : Nat} {ds es : List Dt} {bb : List (List Int)} (h : Sam w n ds es bb) : ∀ j, j ≤ n → fwdTo es j = fwdTo ds j := by
  intro j hj
  have hok : ∀ i, i < j → okF es i = okF ds i := by
    intro i hi
    have hm := h i (by omega)
    have hp : (prevD es i).s = (prevD ds i).s ∧ (prevD es i).q = (prevD ds i).q := by
      unfold prevD
      by_cases h0 : i = 0
      · simp [h0]
      · have hm' := h (i - 1) (by omega)
        simp only [h0, if_false]
        exact ⟨hm'.s, hm'.q⟩
    unfold okF
    rw [hm.s, hm.q, hm.st, hm.n, hp.1, hp.2]
  induction j with
  | zero => rfl
  | succ j ih =>
    rw [fwdTo_succ, fwdTo_succ, ih (by omega) (fun i hi => hok i (by omega)), hok j (by omega)]

theorem goodB_mate {w : World} {P Q : Pk} {xs ss vs hs : List Int} {sl : List (Int × Int)} {ds es : List Dt} {bb : List (List Int)} (m : Mate P Q) (h : Sam w P.wmN ds es bb) : goodB Q xs ss vs hs sl es = goodB P xs ss vs hs sl ds := by
  have hf : forwardB Q.we Q.wl Q.wi Q.wc Q.wmN es = forwardB P.we P.wl P.wi P.wc P.wmN ds := by
    unfold forwardB
    rw [m.we, m.wl, m.wi, m.wc, m.wmN, fwdTo_mate h _ (Nat.le_refl _)]
  unfold goodB partB othersB
  rw [hf]
  simp only [m.k, m.src, m.si, m.dst, m.di, m.bt, m.hN, m.psN, m.pd, m.pr, m.pt, m.pe, m.pl, m.pi, m.pc, m.pvN, m.fe, m.fl, m.fi, m.fc, m.fb, m.fsN, m.fhN, m.se, m.sl, m.si2, m.sc, m.sd, m.sp, m.te, m.tl, m.ti, m.tc, m.ts, m.tbN, m.ae, m.al, m.ai, m.ac, m.au, m.we, m.wl, m.wi, m.wc, m.wmN]

theorem check_eq (P : Pk) (xs ss vs hs : List Int) (sl : List (Int × Int)) (ds : List Dt) (g : Bool) (w : World) (hp : Pw w P xs ss vs hs sl ds) (hg : goodB P xs ss vs hs sl ds = g) :
    Calls Try.prog 22 #[.agg P.cs] w fun x w' => x = .returned (.int .i64 (cond g 0 16)) ∧ Below w.heap.size w w' := by
  refine (check_any P xs ss vs hs sl ds w hp).mono ?_
  rintro e w' ⟨rfl, hb⟩
  refine ⟨?_, hb⟩
  rw [← hg, goodB]
  congr 2
  cases headB P.k P.src P.si P.dst P.di && partB P xs ss vs hs sl ds && othersB P <;> rfl

end Go.Proofs.Ytbjpbcanmpimnab.Lo
