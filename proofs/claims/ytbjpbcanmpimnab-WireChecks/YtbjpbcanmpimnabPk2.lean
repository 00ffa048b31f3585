import Derived.Test.YtbjpbcanmpimnabPk0
namespace Go.Proofs.Ytbjpbcanmpimnab.Lo
open Go.RowKit Bk
set_option linter.unusedVariables false
set_option linter.unusedSimpArgs false

structure Pk where
  k : Int
  src : Int
  si : Int
  dst : Int
  di : Int
  bt : Int
  hA : Option Addr
  hN : Nat
  hC : Nat
  psA : Option Addr
  psN : Nat
  psC : Nat
  pd : Int
  pr : Int
  pt : Int
  pe : Int
  pl : Int
  pi : Int
  pc : Int
  pvA : Option Addr
  pvN : Nat
  pvC : Nat
  fe : Int
  fl : Int
  fi : Int
  fc : Int
  fb : Int
  fsA : Option Addr
  fsN : Nat
  fsC : Nat
  fhA : Option Addr
  fhN : Nat
  fhC : Nat
  se : Int
  sl : Int
  si2 : Int
  sc : Int
  sd : Int
  sp : Int
  te : Int
  tl : Int
  ti : Int
  tc : Int
  ts : Int
  tbA : Option Addr
  tbN : Nat
  tbC : Nat
  ae : Int
  al : Int
  ai : Int
  ac : Int
  au : Int
  we : Int
  wl : Int
  wi : Int
  wc : Int
  wmA : Option Addr
  wmN : Nat
  wmC : Nat

def Pk.cs (P : Pk) : Array Value := #[.int .i64 P.k, .int .i64 P.src, .int .i64 P.si, .int .i64 P.dst, .int .i64 P.di, .int .i64 P.bt, .slice P.hA P.hN P.hC, .slice P.psA P.psN P.psC, .int .i64 P.pd, .int .i64 P.pr, .int .i64 P.pt, .int .i64 P.pe, .int .i64 P.pl, .int .i64 P.pi, .int .i64 P.pc, .slice P.pvA P.pvN P.pvC, .int .i64 P.fe, .int .i64 P.fl, .int .i64 P.fi, .int .i64 P.fc, .int .i64 P.fb, .slice P.fsA P.fsN P.fsC, .slice P.fhA P.fhN P.fhC, .int .i64 P.se, .int .i64 P.sl, .int .i64 P.si2, .int .i64 P.sc, .int .i64 P.sd, .int .i64 P.sp, .int .i64 P.te, .int .i64 P.tl, .int .i64 P.ti, .int .i64 P.tc, .int .i64 P.ts, .slice P.tbA P.tbN P.tbC, .int .i64 P.ae, .int .i64 P.al, .int .i64 P.ai, .int .i64 P.ac, .int .i64 P.au, .int .i64 P.we, .int .i64 P.wl, .int .i64 P.wi, .int .i64 P.wc, .slice P.wmA P.wmN P.wmC]

theorem Pk.c0 (P : Pk) : P.cs[0]? = some (.int .i64 P.k) := rfl
theorem Pk.c1 (P : Pk) : P.cs[1]? = some (.int .i64 P.src) := rfl
theorem Pk.c2 (P : Pk) : P.cs[2]? = some (.int .i64 P.si) := rfl
theorem Pk.c3 (P : Pk) : P.cs[3]? = some (.int .i64 P.dst) := rfl
theorem Pk.c4 (P : Pk) : P.cs[4]? = some (.int .i64 P.di) := rfl
theorem Pk.c5 (P : Pk) : P.cs[5]? = some (.int .i64 P.bt) := rfl
theorem Pk.c6 (P : Pk) : P.cs[6]? = some (.slice P.hA P.hN P.hC) := rfl
theorem Pk.c7 (P : Pk) : P.cs[7]? = some (.slice P.psA P.psN P.psC) := rfl
theorem Pk.c8 (P : Pk) : P.cs[8]? = some (.int .i64 P.pd) := rfl
theorem Pk.c9 (P : Pk) : P.cs[9]? = some (.int .i64 P.pr) := rfl
theorem Pk.c10 (P : Pk) : P.cs[10]? = some (.int .i64 P.pt) := rfl
theorem Pk.c11 (P : Pk) : P.cs[11]? = some (.int .i64 P.pe) := rfl
theorem Pk.c12 (P : Pk) : P.cs[12]? = some (.int .i64 P.pl) := rfl
theorem Pk.c13 (P : Pk) : P.cs[13]? = some (.int .i64 P.pi) := rfl
theorem Pk.c14 (P : Pk) : P.cs[14]? = some (.int .i64 P.pc) := rfl
theorem Pk.c15 (P : Pk) : P.cs[15]? = some (.slice P.pvA P.pvN P.pvC) := rfl
theorem Pk.c16 (P : Pk) : P.cs[16]? = some (.int .i64 P.fe) := rfl
theorem Pk.c17 (P : Pk) : P.cs[17]? = some (.int .i64 P.fl) := rfl
theorem Pk.c18 (P : Pk) : P.cs[18]? = some (.int .i64 P.fi) := rfl
theorem Pk.c19 (P : Pk) : P.cs[19]? = some (.int .i64 P.fc) := rfl
theorem Pk.c20 (P : Pk) : P.cs[20]? = some (.int .i64 P.fb) := rfl
theorem Pk.c21 (P : Pk) : P.cs[21]? = some (.slice P.fsA P.fsN P.fsC) := rfl
theorem Pk.c22 (P : Pk) : P.cs[22]? = some (.slice P.fhA P.fhN P.fhC) := rfl
theorem Pk.c23 (P : Pk) : P.cs[23]? = some (.int .i64 P.se) := rfl
theorem Pk.c24 (P : Pk) : P.cs[24]? = some (.int .i64 P.sl) := rfl
theorem Pk.c25 (P : Pk) : P.cs[25]? = some (.int .i64 P.si2) := rfl
theorem Pk.c26 (P : Pk) : P.cs[26]? = some (.int .i64 P.sc) := rfl
theorem Pk.c27 (P : Pk) : P.cs[27]? = some (.int .i64 P.sd) := rfl
theorem Pk.c28 (P : Pk) : P.cs[28]? = some (.int .i64 P.sp) := rfl
theorem Pk.c29 (P : Pk) : P.cs[29]? = some (.int .i64 P.te) := rfl
theorem Pk.c30 (P : Pk) : P.cs[30]? = some (.int .i64 P.tl) := rfl
theorem Pk.c31 (P : Pk) : P.cs[31]? = some (.int .i64 P.ti) := rfl
theorem Pk.c32 (P : Pk) : P.cs[32]? = some (.int .i64 P.tc) := rfl
theorem Pk.c33 (P : Pk) : P.cs[33]? = some (.int .i64 P.ts) := rfl
theorem Pk.c34 (P : Pk) : P.cs[34]? = some (.slice P.tbA P.tbN P.tbC) := rfl
theorem Pk.c35 (P : Pk) : P.cs[35]? = some (.int .i64 P.ae) := rfl
theorem Pk.c36 (P : Pk) : P.cs[36]? = some (.int .i64 P.al) := rfl
theorem Pk.c37 (P : Pk) : P.cs[37]? = some (.int .i64 P.ai) := rfl
theorem Pk.c38 (P : Pk) : P.cs[38]? = some (.int .i64 P.ac) := rfl
theorem Pk.c39 (P : Pk) : P.cs[39]? = some (.int .i64 P.au) := rfl
theorem Pk.c40 (P : Pk) : P.cs[40]? = some (.int .i64 P.we) := rfl
theorem Pk.c41 (P : Pk) : P.cs[41]? = some (.int .i64 P.wl) := rfl
theorem Pk.c42 (P : Pk) : P.cs[42]? = some (.int .i64 P.wi) := rfl
theorem Pk.c43 (P : Pk) : P.cs[43]? = some (.int .i64 P.wc) := rfl
theorem Pk.c44 (P : Pk) : P.cs[44]? = some (.slice P.wmA P.wmN P.wmC) := rfl

theorem Pk.hd (P : Pk) : Hd P.cs P.k P.src P.si P.dst P.di := ⟨P.c0, P.c1, P.c2, P.c3, P.c4⟩

structure Pw (w : World) (P : Pk) (xs ss vs hs : List Int) (sl : List (Int × Int)) (ds : List Dt) : Prop where
  h : Ri w P.hA P.hN xs
  ps : Ri w P.psA P.psN ss
  pv : Ri w P.pvA P.pvN vs
  fh : Ri w P.fhA P.fhN hs
  fs : Rs w P.fsA P.fsN sl
  wm : Rm w P.wmA P.wmN ds
  lh : P.hN ≤ 140737488355328
  lps : P.psN ≤ 140737488355328
  lpv : P.pvN ≤ 140737488355328
  lfh : P.fhN ≤ 140737488355328
  lfs : P.fsN ≤ 140737488355328
  lwm : P.wmN ≤ 140737488355328

theorem Pw.below {w w1 : World} {P : Pk} {xs ss vs hs : List Int} {sl : List (Int × Int)} {ds : List Dt} (h : Pw w P xs ss vs hs sl ds) (hb : Below w.heap.size w w1) : Pw w1 P xs ss vs hs sl ds :=
  ⟨h.h.below hb, h.ps.below hb, h.pv.below hb, h.fh.below hb, h.fs.below hb, h.wm.below hb, h.lh, h.lps, h.lpv, h.lfh, h.lfs, h.lwm⟩

def partB (P : Pk) (xs ss vs hs : List Int) (sl : List (Int × Int)) (ds : List Dt) : Bool :=
  if P.k = 1 then beatB P.bt P.hN xs
  else if P.k = 2 then proposeB P.psN ss P.pd P.pr P.pt P.pe P.pl P.pi P.pc P.pvN vs
  else if P.k = 3 then flushB P.fe P.fl P.fi P.fc P.fb P.fsN sl P.fhN hs
  else if P.k = 4 then stableB P.se P.sl P.si2 P.sc P.sd P.sp
  else if P.k = 5 then frameB P.te P.tl P.ti P.tc P.ts P.tbN
  else if P.k = 6 then ackB P.ae P.al P.ai P.ac P.au
  else if P.k = 7 then forwardB P.we P.wl P.wi P.wc P.wmN ds
  else false

end Go.Proofs.Ytbjpbcanmpimnab.Lo
