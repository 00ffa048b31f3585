import Derived.Test.YtbjpbcanmpimnabPk2
namespace Go.Proofs.Ytbjpbcanmpimnab.Lo
open Go.RowKit Bk
set_option linter.unusedVariables false
set_option linter.unusedSimpArgs false

set_option maxRecDepth 100000 in
set_option maxHeartbeats 1000000 in
theorem part_1 (P : Pk) (xs ss vs hs : List Int) (sl : List (Int × Int)) (ds : List Dt) (w : World) (hp : Pw w P xs ss vs hs sl ds) (hk : P.k = 1) :
    Calls Try.prog 51 #[.agg P.cs] w fun x w' => x = .returned (.bool (beatB P.bt P.hN xs)) ∧ Below w.heap.size w w' := by
  have hq := fun i => blk_cell (heap_alloc_new w (.cells P.cs 72)) i
  have c0 := (hq 0).trans (P.c0.trans (by rw [hk]))
  have c5 := (hq 5).trans P.c5
  have c6 := (hq 6).trans P.c6
  have HL : Hid (Below w.heap.size w (w.alloc (.cells P.cs 72))) := balloc (Below.refl _ _)
  have HB : Hid (Pw (w.alloc (.cells P.cs 72)) P xs ss vs hs sl ds) := hp.below HL.out
  clear hp hq hk
  generalize P.cs = cs at *
  go_enter Try.func51, Try.ntmps51
  go_wp2_with fail
  generalize w.alloc (.cells cs 72) = W0 at *
  refine (beatFits_any P.bt P.hA P.hN P.hC xs W0 HB.out.h HB.out.lh).mono ?_
  rintro e w1 ⟨rfl, hb1⟩
  have HF : Hid (Below w.heap.size w w1) := bstep HL.out hb1
  clear hb1
  go_wp2_with fail
  go_ret
  exact ⟨rfl, HF⟩

set_option maxRecDepth 100000 in
set_option maxHeartbeats 1000000 in
theorem part_2 (P : Pk) (xs ss vs hs : List Int) (sl : List (Int × Int)) (ds : List Dt) (w : World) (hp : Pw w P xs ss vs hs sl ds) (hk : P.k = 2) :
    Calls Try.prog 51 #[.agg P.cs] w fun x w' => x = .returned (.bool (proposeB P.psN ss P.pd P.pr P.pt P.pe P.pl P.pi P.pc P.pvN vs)) ∧ Below w.heap.size w w' := by
  have hq := fun i => blk_cell (heap_alloc_new w (.cells P.cs 72)) i
  have c0 := (hq 0).trans (P.c0.trans (by rw [hk]))
  have c7 := (hq 7).trans P.c7
  have c8 := (hq 8).trans P.c8
  have c9 := (hq 9).trans P.c9
  have c10 := (hq 10).trans P.c10
  have c11 := (hq 11).trans P.c11
  have c12 := (hq 12).trans P.c12
  have c13 := (hq 13).trans P.c13
  have c14 := (hq 14).trans P.c14
  have c15 := (hq 15).trans P.c15
  have HL : Hid (Below w.heap.size w (w.alloc (.cells P.cs 72))) := balloc (Below.refl _ _)
  have HB : Hid (Pw (w.alloc (.cells P.cs 72)) P xs ss vs hs sl ds) := hp.below HL.out
  clear hp hq hk
  generalize P.cs = cs at *
  go_enter Try.func51, Try.ntmps51
  go_wp2_with fail
  generalize w.alloc (.cells cs 72) = W0 at *
  refine (proposeFits_any P.psA P.psN P.psC ss P.pd P.pr P.pt P.pe P.pl P.pi P.pc P.pvA P.pvN P.pvC vs W0 HB.out.ps HB.out.pv HB.out.lps HB.out.lpv).mono ?_
  rintro e w1 ⟨rfl, hb1⟩
  have HF : Hid (Below w.heap.size w w1) := bstep HL.out hb1
  clear hb1
  go_wp2_with fail
  go_ret
  exact ⟨rfl, HF⟩

set_option maxRecDepth 100000 in
set_option maxHeartbeats 1000000 in
theorem part_3 (P : Pk) (xs ss vs hs : List Int) (sl : List (Int × Int)) (ds : List Dt) (w : World) (hp : Pw w P xs ss vs hs sl ds) (hk : P.k = 3) :
    Calls Try.prog 51 #[.agg P.cs] w fun x w' => x = .returned (.bool (flushB P.fe P.fl P.fi P.fc P.fb P.fsN sl P.fhN hs)) ∧ Below w.heap.size w w' := by
  have hq := fun i => blk_cell (heap_alloc_new w (.cells P.cs 72)) i
  have c0 := (hq 0).trans (P.c0.trans (by rw [hk]))
  have c16 := (hq 16).trans P.c16
  have c17 := (hq 17).trans P.c17
  have c18 := (hq 18).trans P.c18
  have c19 := (hq 19).trans P.c19
  have c20 := (hq 20).trans P.c20
  have c21 := (hq 21).trans P.c21
  have c22 := (hq 22).trans P.c22
  have HL : Hid (Below w.heap.size w (w.alloc (.cells P.cs 72))) := balloc (Below.refl _ _)
  have HB : Hid (Pw (w.alloc (.cells P.cs 72)) P xs ss vs hs sl ds) := hp.below HL.out
  clear hp hq hk
  generalize P.cs = cs at *
  go_enter Try.func51, Try.ntmps51
  go_wp2_with fail
  generalize w.alloc (.cells cs 72) = W0 at *
  refine (flushFits_any P.fe P.fl P.fi P.fc P.fb P.fsA P.fsN P.fsC sl P.fhA P.fhN P.fhC hs W0 HB.out.fs HB.out.fh HB.out.lfs HB.out.lfh).mono ?_
  rintro e w1 ⟨rfl, hb1⟩
  have HF : Hid (Below w.heap.size w w1) := bstep HL.out hb1
  clear hb1
  go_wp2_with fail
  go_ret
  exact ⟨rfl, HF⟩

set_option maxRecDepth 100000 in
set_option maxHeartbeats 1000000 in
theorem part_4 (P : Pk) (xs ss vs hs : List Int) (sl : List (Int × Int)) (ds : List Dt) (w : World) (hp : Pw w P xs ss vs hs sl ds) (hk : P.k = 4) :
    Calls Try.prog 51 #[.agg P.cs] w fun x w' => x = .returned (.bool (stableB P.se P.sl P.si2 P.sc P.sd P.sp)) ∧ Below w.heap.size w w' := by
  have hq := fun i => blk_cell (heap_alloc_new w (.cells P.cs 72)) i
  have c0 := (hq 0).trans (P.c0.trans (by rw [hk]))
  have c23 := (hq 23).trans P.c23
  have c24 := (hq 24).trans P.c24
  have c25 := (hq 25).trans P.c25
  have c26 := (hq 26).trans P.c26
  have c27 := (hq 27).trans P.c27
  have c28 := (hq 28).trans P.c28
  have HL : Hid (Below w.heap.size w (w.alloc (.cells P.cs 72))) := balloc (Below.refl _ _)
  have HB : Hid (Pw (w.alloc (.cells P.cs 72)) P xs ss vs hs sl ds) := hp.below HL.out
  clear hp hq hk
  generalize P.cs = cs at *
  go_enter Try.func51, Try.ntmps51
  go_wp2_with fail
  generalize w.alloc (.cells cs 72) = W0 at *
  refine (stableFits_any P.se P.sl P.si2 P.sc P.sd P.sp W0).mono ?_
  rintro e w1 ⟨rfl, hb1⟩
  have HF : Hid (Below w.heap.size w w1) := bstep HL.out hb1
  clear hb1
  go_wp2_with fail
  go_ret
  exact ⟨rfl, HF⟩

set_option maxRecDepth 100000 in
set_option maxHeartbeats 1000000 in
theorem part_5 (P : Pk) (xs ss vs hs : List Int) (sl : List (Int × Int)) (ds : List Dt) (w : World) (hp : Pw w P xs ss vs hs sl ds) (hk : P.k = 5) :
    Calls Try.prog 51 #[.agg P.cs] w fun x w' => x = .returned (.bool (frameB P.te P.tl P.ti P.tc P.ts P.tbN)) ∧ Below w.heap.size w w' := by
  have hq := fun i => blk_cell (heap_alloc_new w (.cells P.cs 72)) i
  have c0 := (hq 0).trans (P.c0.trans (by rw [hk]))
  have c29 := (hq 29).trans P.c29
  have c30 := (hq 30).trans P.c30
  have c31 := (hq 31).trans P.c31
  have c32 := (hq 32).trans P.c32
  have c33 := (hq 33).trans P.c33
  have c34 := (hq 34).trans P.c34
  have HL : Hid (Below w.heap.size w (w.alloc (.cells P.cs 72))) := balloc (Below.refl _ _)
  have HB : Hid (Pw (w.alloc (.cells P.cs 72)) P xs ss vs hs sl ds) := hp.below HL.out
  clear hp hq hk
  generalize P.cs = cs at *
  go_enter Try.func51, Try.ntmps51
  go_wp2_with fail
  generalize w.alloc (.cells cs 72) = W0 at *
  refine (frameFits_any P.te P.tl P.ti P.tc P.ts P.tbA P.tbN P.tbC W0).mono ?_
  rintro e w1 ⟨rfl, hb1⟩
  have HF : Hid (Below w.heap.size w w1) := bstep HL.out hb1
  clear hb1
  go_wp2_with fail
  go_ret
  exact ⟨rfl, HF⟩

set_option maxRecDepth 100000 in
set_option maxHeartbeats 1000000 in
theorem part_6 (P : Pk) (xs ss vs hs : List Int) (sl : List (Int × Int)) (ds : List Dt) (w : World) (hp : Pw w P xs ss vs hs sl ds) (hk : P.k = 6) :
    Calls Try.prog 51 #[.agg P.cs] w fun x w' => x = .returned (.bool (ackB P.ae P.al P.ai P.ac P.au)) ∧ Below w.heap.size w w' := by
  have hq := fun i => blk_cell (heap_alloc_new w (.cells P.cs 72)) i
  have c0 := (hq 0).trans (P.c0.trans (by rw [hk]))
  have c35 := (hq 35).trans P.c35
  have c36 := (hq 36).trans P.c36
  have c37 := (hq 37).trans P.c37
  have c38 := (hq 38).trans P.c38
  have c39 := (hq 39).trans P.c39
  have HL : Hid (Below w.heap.size w (w.alloc (.cells P.cs 72))) := balloc (Below.refl _ _)
  have HB : Hid (Pw (w.alloc (.cells P.cs 72)) P xs ss vs hs sl ds) := hp.below HL.out
  clear hp hq hk
  generalize P.cs = cs at *
  go_enter Try.func51, Try.ntmps51
  go_wp2_with fail
  generalize w.alloc (.cells cs 72) = W0 at *
  refine (ackFits_any P.ae P.al P.ai P.ac P.au W0).mono ?_
  rintro e w1 ⟨rfl, hb1⟩
  have HF : Hid (Below w.heap.size w w1) := bstep HL.out hb1
  clear hb1
  go_wp2_with fail
  go_ret
  exact ⟨rfl, HF⟩

set_option maxRecDepth 100000 in
set_option maxHeartbeats 1000000 in
theorem part_7 (P : Pk) (xs ss vs hs : List Int) (sl : List (Int × Int)) (ds : List Dt) (w : World) (hp : Pw w P xs ss vs hs sl ds) (hk : P.k = 7) :
    Calls Try.prog 51 #[.agg P.cs] w fun x w' => x = .returned (.bool (forwardB P.we P.wl P.wi P.wc P.wmN ds)) ∧ Below w.heap.size w w' := by
  have hq := fun i => blk_cell (heap_alloc_new w (.cells P.cs 72)) i
  have c0 := (hq 0).trans (P.c0.trans (by rw [hk]))
  have c40 := (hq 40).trans P.c40
  have c41 := (hq 41).trans P.c41
  have c42 := (hq 42).trans P.c42
  have c43 := (hq 43).trans P.c43
  have c44 := (hq 44).trans P.c44
  have HL : Hid (Below w.heap.size w (w.alloc (.cells P.cs 72))) := balloc (Below.refl _ _)
  have HB : Hid (Pw (w.alloc (.cells P.cs 72)) P xs ss vs hs sl ds) := hp.below HL.out
  clear hp hq hk
  generalize P.cs = cs at *
  go_enter Try.func51, Try.ntmps51
  go_wp2_with fail
  generalize w.alloc (.cells cs 72) = W0 at *
  refine (forwardFits_any P.we P.wl P.wi P.wc P.wmA P.wmN P.wmC ds W0 HB.out.wm HB.out.lwm).mono ?_
  rintro e w1 ⟨rfl, hb1⟩
  have HF : Hid (Below w.heap.size w w1) := bstep HL.out hb1
  clear hb1
  go_wp2_with fail
  go_ret
  exact ⟨rfl, HF⟩

end Go.Proofs.Ytbjpbcanmpimnab.Lo
