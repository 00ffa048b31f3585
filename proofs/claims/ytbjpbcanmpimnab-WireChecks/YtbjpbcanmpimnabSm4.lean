import Derived.Test.YtbjpbcanmpimnabSm3
import Derived.Test.YtbjpbcanmpimnabPk6
namespace Go.Proofs.Ytbjpbcanmpimnab.Lo
open Go.RowKit Bk
set_option linter.unusedVariables false
set_option linter.unusedSimpArgs false

structure Mate (P Q : Pk) : Prop where
  k : Q.k = P.k
  src : Q.src = P.src
  si : Q.si = P.si
  dst : Q.dst = P.dst
  di : Q.di = P.di
  bt : Q.bt = P.bt
  hN : Q.hN = P.hN
  psN : Q.psN = P.psN
  pd : Q.pd = P.pd
  pr : Q.pr = P.pr
  pt : Q.pt = P.pt
  pe : Q.pe = P.pe
  pl : Q.pl = P.pl
  pi : Q.pi = P.pi
  pc : Q.pc = P.pc
  pvN : Q.pvN = P.pvN
  fe : Q.fe = P.fe
  fl : Q.fl = P.fl
  fi : Q.fi = P.fi
  fc : Q.fc = P.fc
  fb : Q.fb = P.fb
  fsN : Q.fsN = P.fsN
  fhN : Q.fhN = P.fhN
  se : Q.se = P.se
  sl : Q.sl = P.sl
  si2 : Q.si2 = P.si2
  sc : Q.sc = P.sc
  sd : Q.sd = P.sd
  sp : Q.sp = P.sp
  te : Q.te = P.te
  tl : Q.tl = P.tl
  ti : Q.ti = P.ti
  tc : Q.tc = P.tc
  ts : Q.ts = P.ts
  tbN : Q.tbN = P.tbN
  ae : Q.ae = P.ae
  al : Q.al = P.al
  ai : Q.ai = P.ai
  ac : Q.ac = P.ac
  au : Q.au = P.au
  we : Q.we = P.we
  wl : Q.wl = P.wl
  wi : Q.wi = P.wi
  wc : Q.wc = P.wc
  wmN : Q.wmN = P.wmN

theorem Ri.to {w : World} {ao : Option Addr} {n m : Nat} {xs : List Int} (h : Ri w ao n xs) (e : n = m) : Ri w ao m xs := e ▸ h
theorem Rs.to {w : World} {ao : Option Addr} {n m : Nat} {xs : List (Int × Int)} (h : Rs w ao n xs) (e : n = m) : Rs w ao m xs := e ▸ h
theorem Rm.to {w : World} {ao : Option Addr} {n m : Nat} {xs : List Dt} (h : Rm w ao n xs) (e : n = m) : Rm w ao m xs := e ▸ h
theorem Rd.to {w : World} {ao : Option Addr} {n m c : Nat} {xs : List Int} (h : Rd w ao n c xs) (e : n = m) : Rd w ao m c xs := e ▸ h

set_option maxRecDepth 100000 in
set_option maxHeartbeats 8000000 in
theorem samePacket_any (P Q : Pk) (xs ss vs hs bs : List Int) (sl : List (Int × Int)) (ds es : List Dt) (bb : List (List Int)) (w : World) (mt : Mate P Q) (hp : Pw w P xs ss vs hs sl ds) (hq : Pw w Q xs ss vs hs sl es) (d1 : Rd w P.tbA P.tbN P.tbC bs) (d2 : Rd w Q.tbA Q.tbN Q.tbC bs) (lb : P.tbN ≤ 140737488355328) (hsm : Sam w P.wmN ds es bb) :
    Calls Try.prog 24 #[.agg P.cs, .agg Q.cs] w fun e w' => e = .returned (.bool true) ∧ Below w.heap.size w w' := by
  have M : Hid (Mate P Q) := mt
  have HP : Hid (Pw w P xs ss vs hs sl ds) := hp
  have HQ : Hid (Pw w Q xs ss vs hs sl es) := hq
  have D1 : Hid (Rd w P.tbA P.tbN P.tbC bs) := d1
  have D2 : Hid (Rd w Q.tbA Q.tbN Q.tbC bs) := d2
  have LB : Hid (P.tbN ≤ 140737488355328) := lb
  have HS : Hid (Sam w P.wmN ds es bb) := hsm
  clear mt hp hq d1 d2 lb hsm
  have T0 : Hid (Tw w ((w.alloc (.cells P.cs 72)).alloc (.cells Q.cs 72)) P.cs Q.cs 72) := Tw.new w _ _ _
  have zd0 := (T0.out.ca 0).trans P.c0
  have zf0 : ((w.alloc (.cells P.cs 72)).alloc (.cells Q.cs 72)).cell? ⟨w.heap.size + 1, 0, none⟩ = some (.int .i64 P.k) := (T0.out.cb 0).trans (Q.c0.trans (by rw [M.out.k]))
  have zd1 := (T0.out.ca 1).trans P.c1
  have zf1 : ((w.alloc (.cells P.cs 72)).alloc (.cells Q.cs 72)).cell? ⟨w.heap.size + 1, 1, none⟩ = some (.int .i64 P.src) := (T0.out.cb 1).trans (Q.c1.trans (by rw [M.out.src]))
  have zd2 := (T0.out.ca 2).trans P.c2
  have zf2 : ((w.alloc (.cells P.cs 72)).alloc (.cells Q.cs 72)).cell? ⟨w.heap.size + 1, 2, none⟩ = some (.int .i64 P.si) := (T0.out.cb 2).trans (Q.c2.trans (by rw [M.out.si]))
  have zd3 := (T0.out.ca 3).trans P.c3
  have zf3 : ((w.alloc (.cells P.cs 72)).alloc (.cells Q.cs 72)).cell? ⟨w.heap.size + 1, 3, none⟩ = some (.int .i64 P.dst) := (T0.out.cb 3).trans (Q.c3.trans (by rw [M.out.dst]))
  have zd4 := (T0.out.ca 4).trans P.c4
  have zf4 : ((w.alloc (.cells P.cs 72)).alloc (.cells Q.cs 72)).cell? ⟨w.heap.size + 1, 4, none⟩ = some (.int .i64 P.di) := (T0.out.cb 4).trans (Q.c4.trans (by rw [M.out.di]))
  have zd5 := (T0.out.ca 5).trans P.c5
  have zf5 : ((w.alloc (.cells P.cs 72)).alloc (.cells Q.cs 72)).cell? ⟨w.heap.size + 1, 5, none⟩ = some (.int .i64 P.bt) := (T0.out.cb 5).trans (Q.c5.trans (by rw [M.out.bt]))
  have zd6 := (T0.out.ca 6).trans P.c6
  have zf6 : ((w.alloc (.cells P.cs 72)).alloc (.cells Q.cs 72)).cell? ⟨w.heap.size + 1, 6, none⟩ = some (.slice Q.hA P.hN Q.hC) := (T0.out.cb 6).trans (Q.c6.trans (by rw [M.out.hN]))
  go_enter Try.func24, Try.ntmps24
  go_wp2_with (first
    | (go_at_call 58; refine (sameDatas_any P.wmA Q.wmA P.wmN P.wmC Q.wmC ds es bb _ (HP.out.below T4.out.l).wm ((HQ.out.below T4.out.l).wm.to M.out.wmN) (HS.out.below T4.out.l) HP.out.lwm).mono ?_; rintro e w5 ⟨rfl, hb⟩; have T5 : Hid (Tw w w5 P.cs Q.cs 72) := T4.out.still hb; clear hb)
    | (go_at_call 57; refine (sameFrame_any P.te P.tl P.ti P.tc P.ts P.tbA Q.tbA P.tbN P.tbC Q.tbC bs _ (D1.out.below T3.out.l) ((D2.out.below T3.out.l).to M.out.tbN) LB.out).mono ?_; rintro e w4 ⟨rfl, hb⟩; have T4 : Hid (Tw w w4 P.cs Q.cs 72) := T3.out.still hb; clear hb; have dd35 := (T4.out.ca 35).trans P.c35; have df35 : w4.cell? ⟨w.heap.size + 1, 35, none⟩ = some (.int .i64 P.ae) := (T4.out.cb 35).trans (Q.c35.trans (by rw [M.out.ae])); have dd36 := (T4.out.ca 36).trans P.c36; have df36 : w4.cell? ⟨w.heap.size + 1, 36, none⟩ = some (.int .i64 P.al) := (T4.out.cb 36).trans (Q.c36.trans (by rw [M.out.al])); have dd37 := (T4.out.ca 37).trans P.c37; have df37 : w4.cell? ⟨w.heap.size + 1, 37, none⟩ = some (.int .i64 P.ai) := (T4.out.cb 37).trans (Q.c37.trans (by rw [M.out.ai])); have dd38 := (T4.out.ca 38).trans P.c38; have df38 : w4.cell? ⟨w.heap.size + 1, 38, none⟩ = some (.int .i64 P.ac) := (T4.out.cb 38).trans (Q.c38.trans (by rw [M.out.ac])); have dd39 := (T4.out.ca 39).trans P.c39; have df39 : w4.cell? ⟨w.heap.size + 1, 39, none⟩ = some (.int .i64 P.au) := (T4.out.cb 39).trans (Q.c39.trans (by rw [M.out.au])); have dd40 := (T4.out.ca 40).trans P.c40; have df40 : w4.cell? ⟨w.heap.size + 1, 40, none⟩ = some (.int .i64 P.we) := (T4.out.cb 40).trans (Q.c40.trans (by rw [M.out.we])); have dd41 := (T4.out.ca 41).trans P.c41; have df41 : w4.cell? ⟨w.heap.size + 1, 41, none⟩ = some (.int .i64 P.wl) := (T4.out.cb 41).trans (Q.c41.trans (by rw [M.out.wl])); have dd42 := (T4.out.ca 42).trans P.c42; have df42 : w4.cell? ⟨w.heap.size + 1, 42, none⟩ = some (.int .i64 P.wi) := (T4.out.cb 42).trans (Q.c42.trans (by rw [M.out.wi])); have dd43 := (T4.out.ca 43).trans P.c43; have df43 : w4.cell? ⟨w.heap.size + 1, 43, none⟩ = some (.int .i64 P.wc) := (T4.out.cb 43).trans (Q.c43.trans (by rw [M.out.wc])); have dd44 := (T4.out.ca 44).trans P.c44; have df44 : w4.cell? ⟨w.heap.size + 1, 44, none⟩ = some (.slice Q.wmA P.wmN Q.wmC) := (T4.out.cb 44).trans (Q.c44.trans (by rw [M.out.wmN])))
    | (go_at_call 56; refine (sameFlush_any P.fe P.fl P.fi P.fc P.fb P.fsA Q.fsA P.fsN P.fsC Q.fsC sl P.fhA Q.fhA P.fhN P.fhC Q.fhC hs _ (HP.out.below T2.out.l).fs ((HQ.out.below T2.out.l).fs.to M.out.fsN) (HP.out.below T2.out.l).fh ((HQ.out.below T2.out.l).fh.to M.out.fhN) HP.out.lfs HP.out.lfh).mono ?_; rintro e w3 ⟨rfl, hb⟩; have T3 : Hid (Tw w w3 P.cs Q.cs 72) := T2.out.still hb; clear hb; have cd23 := (T3.out.ca 23).trans P.c23; have cf23 : w3.cell? ⟨w.heap.size + 1, 23, none⟩ = some (.int .i64 P.se) := (T3.out.cb 23).trans (Q.c23.trans (by rw [M.out.se])); have cd24 := (T3.out.ca 24).trans P.c24; have cf24 : w3.cell? ⟨w.heap.size + 1, 24, none⟩ = some (.int .i64 P.sl) := (T3.out.cb 24).trans (Q.c24.trans (by rw [M.out.sl])); have cd25 := (T3.out.ca 25).trans P.c25; have cf25 : w3.cell? ⟨w.heap.size + 1, 25, none⟩ = some (.int .i64 P.si2) := (T3.out.cb 25).trans (Q.c25.trans (by rw [M.out.si2])); have cd26 := (T3.out.ca 26).trans P.c26; have cf26 : w3.cell? ⟨w.heap.size + 1, 26, none⟩ = some (.int .i64 P.sc) := (T3.out.cb 26).trans (Q.c26.trans (by rw [M.out.sc])); have cd27 := (T3.out.ca 27).trans P.c27; have cf27 : w3.cell? ⟨w.heap.size + 1, 27, none⟩ = some (.int .i64 P.sd) := (T3.out.cb 27).trans (Q.c27.trans (by rw [M.out.sd])); have cd28 := (T3.out.ca 28).trans P.c28; have cf28 : w3.cell? ⟨w.heap.size + 1, 28, none⟩ = some (.int .i64 P.sp) := (T3.out.cb 28).trans (Q.c28.trans (by rw [M.out.sp])); have cd29 := (T3.out.ca 29).trans P.c29; have cf29 : w3.cell? ⟨w.heap.size + 1, 29, none⟩ = some (.int .i64 P.te) := (T3.out.cb 29).trans (Q.c29.trans (by rw [M.out.te])); have cd30 := (T3.out.ca 30).trans P.c30; have cf30 : w3.cell? ⟨w.heap.size + 1, 30, none⟩ = some (.int .i64 P.tl) := (T3.out.cb 30).trans (Q.c30.trans (by rw [M.out.tl])); have cd31 := (T3.out.ca 31).trans P.c31; have cf31 : w3.cell? ⟨w.heap.size + 1, 31, none⟩ = some (.int .i64 P.ti) := (T3.out.cb 31).trans (Q.c31.trans (by rw [M.out.ti])); have cd32 := (T3.out.ca 32).trans P.c32; have cf32 : w3.cell? ⟨w.heap.size + 1, 32, none⟩ = some (.int .i64 P.tc) := (T3.out.cb 32).trans (Q.c32.trans (by rw [M.out.tc])); have cd33 := (T3.out.ca 33).trans P.c33; have cf33 : w3.cell? ⟨w.heap.size + 1, 33, none⟩ = some (.int .i64 P.ts) := (T3.out.cb 33).trans (Q.c33.trans (by rw [M.out.ts])); have cd34 := (T3.out.ca 34).trans P.c34; have cf34 : w3.cell? ⟨w.heap.size + 1, 34, none⟩ = some (.slice Q.tbA P.tbN Q.tbC) := (T3.out.cb 34).trans (Q.c34.trans (by rw [M.out.tbN])))
    | (go_at_call 55; refine (samePropose_any P.pd P.pr P.pt P.pe P.pl P.pi P.pc P.psA Q.psA P.psN P.psC Q.psC ss P.pvA Q.pvA P.pvN P.pvC Q.pvC vs _ (HP.out.below T1.out.l).ps ((HQ.out.below T1.out.l).ps.to M.out.psN) (HP.out.below T1.out.l).pv ((HQ.out.below T1.out.l).pv.to M.out.pvN) HP.out.lps HP.out.lpv).mono ?_; rintro e w2 ⟨rfl, hb⟩; have T2 : Hid (Tw w w2 P.cs Q.cs 72) := T1.out.still hb; clear hb; have bd16 := (T2.out.ca 16).trans P.c16; have bf16 : w2.cell? ⟨w.heap.size + 1, 16, none⟩ = some (.int .i64 P.fe) := (T2.out.cb 16).trans (Q.c16.trans (by rw [M.out.fe])); have bd17 := (T2.out.ca 17).trans P.c17; have bf17 : w2.cell? ⟨w.heap.size + 1, 17, none⟩ = some (.int .i64 P.fl) := (T2.out.cb 17).trans (Q.c17.trans (by rw [M.out.fl])); have bd18 := (T2.out.ca 18).trans P.c18; have bf18 : w2.cell? ⟨w.heap.size + 1, 18, none⟩ = some (.int .i64 P.fi) := (T2.out.cb 18).trans (Q.c18.trans (by rw [M.out.fi])); have bd19 := (T2.out.ca 19).trans P.c19; have bf19 : w2.cell? ⟨w.heap.size + 1, 19, none⟩ = some (.int .i64 P.fc) := (T2.out.cb 19).trans (Q.c19.trans (by rw [M.out.fc])); have bd20 := (T2.out.ca 20).trans P.c20; have bf20 : w2.cell? ⟨w.heap.size + 1, 20, none⟩ = some (.int .i64 P.fb) := (T2.out.cb 20).trans (Q.c20.trans (by rw [M.out.fb])); have bd21 := (T2.out.ca 21).trans P.c21; have bf21 : w2.cell? ⟨w.heap.size + 1, 21, none⟩ = some (.slice Q.fsA P.fsN Q.fsC) := (T2.out.cb 21).trans (Q.c21.trans (by rw [M.out.fsN])); have bd22 := (T2.out.ca 22).trans P.c22; have bf22 : w2.cell? ⟨w.heap.size + 1, 22, none⟩ = some (.slice Q.fhA P.fhN Q.fhC) := (T2.out.cb 22).trans (Q.c22.trans (by rw [M.out.fhN])))
    | (go_at_call 54; refine (sameInts_any P.hA Q.hA P.hN P.hC Q.hC xs _ (HP.out.below T0.out.l).h ((HQ.out.below T0.out.l).h.to M.out.hN) HP.out.lh).mono ?_; rintro e w1 ⟨rfl, hb⟩; have T1 : Hid (Tw w w1 P.cs Q.cs 72) := T0.out.still hb; clear hb; have ad7 := (T1.out.ca 7).trans P.c7; have af7 : w1.cell? ⟨w.heap.size + 1, 7, none⟩ = some (.slice Q.psA P.psN Q.psC) := (T1.out.cb 7).trans (Q.c7.trans (by rw [M.out.psN])); have ad8 := (T1.out.ca 8).trans P.c8; have af8 : w1.cell? ⟨w.heap.size + 1, 8, none⟩ = some (.int .i64 P.pd) := (T1.out.cb 8).trans (Q.c8.trans (by rw [M.out.pd])); have ad9 := (T1.out.ca 9).trans P.c9; have af9 : w1.cell? ⟨w.heap.size + 1, 9, none⟩ = some (.int .i64 P.pr) := (T1.out.cb 9).trans (Q.c9.trans (by rw [M.out.pr])); have ad10 := (T1.out.ca 10).trans P.c10; have af10 : w1.cell? ⟨w.heap.size + 1, 10, none⟩ = some (.int .i64 P.pt) := (T1.out.cb 10).trans (Q.c10.trans (by rw [M.out.pt])); have ad11 := (T1.out.ca 11).trans P.c11; have af11 : w1.cell? ⟨w.heap.size + 1, 11, none⟩ = some (.int .i64 P.pe) := (T1.out.cb 11).trans (Q.c11.trans (by rw [M.out.pe])); have ad12 := (T1.out.ca 12).trans P.c12; have af12 : w1.cell? ⟨w.heap.size + 1, 12, none⟩ = some (.int .i64 P.pl) := (T1.out.cb 12).trans (Q.c12.trans (by rw [M.out.pl])); have ad13 := (T1.out.ca 13).trans P.c13; have af13 : w1.cell? ⟨w.heap.size + 1, 13, none⟩ = some (.int .i64 P.pi) := (T1.out.cb 13).trans (Q.c13.trans (by rw [M.out.pi])); have ad14 := (T1.out.ca 14).trans P.c14; have af14 : w1.cell? ⟨w.heap.size + 1, 14, none⟩ = some (.int .i64 P.pc) := (T1.out.cb 14).trans (Q.c14.trans (by rw [M.out.pc])); have ad15 := (T1.out.ca 15).trans P.c15; have af15 : w1.cell? ⟨w.heap.size + 1, 15, none⟩ = some (.slice Q.pvA P.pvN Q.pvC) := (T1.out.cb 15).trans (Q.c15.trans (by rw [M.out.pvN])))
    | fail)
  go_ret
  exact ⟨rfl, T5.out.l⟩

end Go.Proofs.Ytbjpbcanmpimnab.Lo
