import Derived.Test.YthanifbimndhaaaM15
import Derived.Test.YthanifbimndhaaaM19
import Derived.Test.YthanifbimndhaaaM22
namespace Go.Proofs.Ythanifbimndhaaa.Ln
set_option maxHeartbeats 40000000
open Go.RowKit Mb
set_option linter.unusedVariables false
set_option maxRecDepth 100000
set_option linter.unusedSimpArgs false
structure Kr where
 L : Value
 G : Value
 V : Value
 mr : Int
 dn : Bool
 n : Nat
 F : Nat -> Prop
def Kr.cs (p : Kr) : List Value := [p.L, p.G, p.V, .int .i64 p.mr, .bool p.dn]
structure KrOK (t s f : Nat) (lo hi : Int) (w : World) (B : Nat) (p : Kr) : Prop where
 row : ∃ xs, w.ownsRow B t s p.L p.n xs
 gs : ∃ a m c, p.G = .slice a m c
 vs : ∃ a m c, p.V = .slice a m c
 fl : ∀ k, p.L.ownBlock = some k -> p.F k
 ft : ∀ k, p.F k -> B ≤ k /\ ∃ C t', w.heap[k]? = some (.cells C t' (0, 0)) /\ (t' = t ∨ t' = 5)
 sh : ∀ w', AgF p.F w w' -> Calls Try.prog f #[.agg p.cs.toArray] w' fun e w2 => e = .returned (.bool true) /\ Below w'.heap.size w' w2
 n1 : p.n ≤ 100000
 m1 : lo ≤ p.mr /\ p.mr ≤ hi
def Sepp (ks : List Kr) : Prop := ∀ (i j : Nat) (p q : Kr), ks[i]? = some p -> ks[j]? = some q -> i ≠ j -> ∀ k, p.L.ownBlock = some k -> ¬ q.F k
structure Pl where
 b : Nat
 M : Nat -> Option (Mx × Rx)
 vp : Value
 nx : Int
 ps : List Bk.Pg
 kv : Value
 ks : List Kr
 ov : Value
 os : List Kr
 tn : Int
def mpt : Option (Mx × Rx) -> Value
 | none => .pointer none
 | some (M, _) => .pointer (some ⟨M.b, 0, none⟩)
def dpt : Option (Mx × Rx) -> Value
 | none => .pointer none
 | some (_, R) => .pointer (some ⟨R.b, 0, none⟩)
def Pl.fr (Y : Pl) : Bk.Fr := ⟨mpt (Y.M 0), mpt (Y.M 1), mpt (Y.M 2), dpt (Y.M 0), dpt (Y.M 1), dpt (Y.M 2), Y.kv, Y.ov, .int .i64 Y.tn⟩
def Pl.mo (Y : Pl) (j : Nat) : Prop := ∃ i M R, i < 3 /\ Y.M i = some (M, R) /\ (M.own j ∨ R.own j)
def Pl.kf (Y : Pl) (j : Nat) : Prop := ∃ p ∈ Y.ks, p.F j
def Pl.of (Y : Pl) (j : Nat) : Prop := ∃ p ∈ Y.os, p.F j
def Pl.pf (Y : Pl) (j : Nat) : Prop := ∃ g ∈ Y.ps, Bk.holds g j
structure PlOk (Y : Pl) (w : World) (B T : Nat) : Prop where
 bk : Bk.BookIs Y.fr w B Y.b Y.vp Y.nx Y.ps
 gd : ∀ g ∈ Y.ps, g.gr = g.dn
 nx : Y.nx = (Y.ps.length : Int)
 lo : B ≤ Y.b
 rk : w.ownsRow B 48 5 Y.kv Y.ks.length (Y.ks.flatMap Kr.cs)
 ro : w.ownsRow B 51 5 Y.ov Y.os.length (Y.os.flatMap Kr.cs)
 kok : ∀ p ∈ Y.ks, KrOK 55 6 30 (-1000000) 0 w B p
 ook : ∀ p ∈ Y.os, KrOK 40 1 31 0 255 w B p
 duo : ∀ i M R, i < 3 -> Y.M i = some (M, R) -> Duo w B T M R
 mm : ∀ i i' M R M' R', i < 3 -> i' < 3 -> i ≠ i' -> Y.M i = some (M, R) -> Y.M i' = some (M', R') -> ∀ j, (M.own j ∨ R.own j) -> ¬ (M'.own j ∨ R'.own j)
 mq : ∀ j, Y.mo j -> ¬ Y.kf j /\ ¬ Y.of j /\ ¬ Y.pf j
 kk : Sepp Y.ks
 oo : Sepp Y.os
 dk : ∀ p ∈ Y.ks, p.dn = true -> ∀ j, p.F j -> ¬ Y.pf j
 dO : ∀ p ∈ Y.os, p.dn = true -> ∀ j, p.F j -> ¬ Y.pf j
 ck : Y.ks.length ≤ 24
 co : Y.os.length ≤ 24
 t1 : T ≤ 450
 tb : 0 ≤ Y.tn /\ Y.tn ≤ (Y.os.length : Int) + 1
section
variable {w w' W : World} {B T : Nat} {Y : Pl}
theorem kbk {P : Nat -> Prop} (h : Kept w w' P) : Bk.Kept w w' P := ⟨h.os, h.tape, h.output, h.size, h.block⟩
theorem bkk {P : Nat -> Prop} (h : Bk.Kept w w' P) : Kept w w' P := ⟨h.os, h.tape, h.output, h.size, h.block⟩
theorem KrOK.keep {t s f : Nat} {lo hi : Int} {p : Kr} {P : Nat -> Prop} (h : KrOK t s f lo hi w B p) (k : Kept w w' P) (hp : ∀ j, p.F j -> ¬ P j) : KrOK t s f lo hi w' B p := by
 obtain ⟨xs, hx⟩ := h.row
 refine { h with row := ⟨xs, k.owns hx fun j hj => hp j (h.fl j hj)⟩, ft := fun j hj => ?_, sh := fun w2 ha => h.sh w2 ((AgF.ofKept k fun j hj => ⟨?_, hp j hj⟩).trans ha) }
 ·obtain ⟨h1, C, t', h2, h3⟩ := h.ft j hj
  exact ⟨h1, C, t', k.obj h2 (hp j hj), h3⟩
 ·obtain ⟨h1, C, t', h2, h3⟩ := h.ft j hj
  exact lt_heap h2
theorem KrOK.lt {t s f : Nat} {lo hi : Int} {p : Kr} (h : KrOK t s f lo hi w B p) {j : Nat} (hj : p.F j) : B ≤ j /\ j < w.heap.size := by
 obtain ⟨h1, C, t', h2, h3⟩ := h.ft j hj
 exact ⟨h1, lt_heap h2⟩
theorem KrOK.ne {t s f k t2 : Nat} {lo hi : Int} {p : Kr} {C : Array Value} (h : KrOK t s f lo hi w B p) (hk : w.heap[k]? = some (.cells C t2 (0, 0))) (h1 : t2 ≠ t) (h2 : t2 ≠ 5) : ¬ p.F k := fun hF => by
 obtain ⟨_, C', t', h3, h4⟩ := h.ft k hF
 rw [hk] at h3
 simp at h3
 rcases h4 with h4 | h4
 ·exact h1 (h3.2.trans h4)
 ·exact h2 (h3.2.trans h4)
theorem PlOk.mo_lt (h : PlOk Y w B T) {j : Nat} (hj : Y.mo j) : B ≤ j /\ j < w.heap.size := by
 obtain ⟨i, M, R, hi, hY, ho⟩ := hj
 exact (h.duo i M R hi hY).lt ho
theorem PlOk.mo_ne (h : PlOk Y w B T) {j t : Nat} {C : Array Value} (hk : w.heap[j]? = some (.cells C t (0, 0))) (ht : t = 37 ∨ t = 48 ∨ t = 51 ∨ t = 89 ∨ t = 55) : ¬ Y.mo j := by
 rintro ⟨i, M, R, hi, hY, ho⟩
 have hd := h.duo i M R hi hY
 rcases ho with ho | ho
 ·refine hd.m.ne_t hk ?_ ?_ ?_ ?_ ?_ ho <;> (rcases ht with rfl | rfl | rfl | rfl | rfl <;> decide)
 ·refine hd.r.ne_t hk ?_ ?_ ?_ ?_ ?_ ho <;> (rcases ht with rfl | rfl | rfl | rfl | rfl <;> decide)
theorem PlOk.rowk_ne (h : PlOk Y w B T) {j : Nat} (hj : Y.kv.ownBlock = some j) : ∃ C, w.heap[j]? = some (.cells C 48 (0, 0)) := own_ty h.rk hj
theorem PlOk.rowo_ne (h : PlOk Y w B T) {j : Nat} (hj : Y.ov.ownBlock = some j) : ∃ C, w.heap[j]? = some (.cells C 51 (0, 0)) := own_ty h.ro hj
theorem PlOk.rowp_ne (h : PlOk Y w B T) {j : Nat} (hj : Y.vp.ownBlock = some j) : ∃ C, w.heap[j]? = some (.cells C 89 (0, 0)) := own_ty h.bk.o hj
structure RestY (Y : Pl) (w' : World) (B : Nat) : Prop where
 bk : Bk.BookIs Y.fr w' B Y.b Y.vp Y.nx Y.ps
 rk : w'.ownsRow B 48 5 Y.kv Y.ks.length (Y.ks.flatMap Kr.cs)
 ro : w'.ownsRow B 51 5 Y.ov Y.os.length (Y.os.flatMap Kr.cs)
 kok : ∀ p ∈ Y.ks, KrOK 55 6 30 (-1000000) 0 w' B p
 ook : ∀ p ∈ Y.os, KrOK 40 1 31 0 255 w' B p
theorem PlOk.rest {P : Nat -> Prop} (h : PlOk Y w B T) (k : Kept w w' P) (hP : ∀ j, P j -> Y.mo j) : RestY Y w' B := by
 refine ⟨h.bk.kept (kbk k) (fun e => ?_) (fun j hj e => ?_) (fun g hg j hj e => ?_), k.owns h.rk fun j hj e => ?_, k.owns h.ro fun j hj e => ?_, fun p hp => (h.kok p hp).keep k fun j hj e => ?_, fun p hp => (h.ook p hp).keep k fun j hj e => ?_⟩
 ·exact h.mo_ne h.bk.k (.inl rfl) (hP _ e)
 ·obtain ⟨C, hC⟩ := h.rowp_ne hj; exact h.mo_ne hC (.inr (.inr (.inr (.inl rfl)))) (hP _ e)
 ·exact (h.mq j (hP _ e)).2.2 ⟨g, hg, hj⟩
 ·obtain ⟨C, hC⟩ := h.rowk_ne hj; exact h.mo_ne hC (.inr (.inl rfl)) (hP _ e)
 ·obtain ⟨C, hC⟩ := h.rowo_ne hj; exact h.mo_ne hC (.inr (.inr (.inl rfl))) (hP _ e)
 ·exact (h.mq j (hP _ e)).1 ⟨p, hp, hj⟩
 ·exact (h.mq j (hP _ e)).2.1 ⟨p, hp, hj⟩
theorem PlOk.still (h : PlOk Y w B T) (hb : Below w.heap.size w w') : PlOk Y w' B T := by
 have r := h.rest (Kept.ofBelow hb (fun _ => False)) (fun j hj => hj.elim)
 exact { h with bk := r.bk, rk := r.rk, ro := r.ro, kok := r.kok, ook := r.ook, duo := fun i M R hi hY => (h.duo i M R hi hY).still hb }
def Pl.setM (Y : Pl) (i : Nat) (m : Option (Mx × Rx)) : Pl := { Y with M := upd Y.M i m }
theorem setM_fr {i : Nat} {M M' : Mx} {R R' : Rx} (hY : Y.M i = some (M, R)) (hm : M'.b = M.b) (hr : R'.b = R.b) : (Y.setM i (some (M', R'))).fr = Y.fr := by
 have e : ∀ k, mpt (upd Y.M i (some (M', R')) k) = mpt (Y.M k) /\ dpt (upd Y.M i (some (M', R')) k) = dpt (Y.M k) := fun k => by
  by_cases c : k = i
  ·subst c
   rw [upd_same, hY]
   simp only [mpt, dpt, hm, hr, and_self]
  ·rw [upd_ne _ _ c]
   exact ⟨rfl, rfl⟩
 unfold Pl.fr Pl.setM
 simp only [(e 0).1, (e 1).1, (e 2).1, (e 0).2, (e 1).2, (e 2).2]
theorem PlOk.pf_lt (h : PlOk Y w B T) {j : Nat} (hj : Y.pf j) : B ≤ j /\ j < w.heap.size := by
 obtain ⟨g, hg, hh⟩ := hj
 exact Bk.holds_lt ⟨h.lo, Y.vp, h.bk⟩ g hg j hh
theorem PlOk.kf_lt (h : PlOk Y w B T) {j : Nat} (hj : Y.kf j) : B ≤ j /\ j < w.heap.size := by obtain ⟨p, hp, hh⟩ := hj; exact (h.kok p hp).lt hh
theorem PlOk.of_lt (h : PlOk Y w B T) {j : Nat} (hj : Y.of j) : B ≤ j /\ j < w.heap.size := by obtain ⟨p, hp, hh⟩ := hj; exact (h.ook p hp).lt hh
theorem PlOk.mux {i T' : Nat} {M M' : Mx} {R R' : Rx} (h : PlOk Y w B T) (hi : i < 3) (hY : Y.M i = some (M, R)) (s : DStep w w' B T' M R M' R') (hT : T ≤ T') (hT1 : T' ≤ 450) : PlOk (Y.setM i (some (M', R'))) w' B T' := by
 have hmo : ∀ j, (M.own j ∨ R.own j) -> Y.mo j := fun j hj => ⟨i, M, R, hi, hY, hj⟩
 have r := h.rest s.kept hmo
 have hnew : ∀ j, (M'.own j ∨ R'.own j) -> Y.mo j ∨ w.heap.size ≤ j := fun j hj => (s.own j hj).imp (hmo j) id
 have hm' : ∀ j, (Y.setM i (some (M', R'))).mo j -> Y.mo j ∨ w.heap.size ≤ j := by
  rintro j ⟨k, M2, R2, hk, hY2, ho⟩
  have hY3 : upd Y.M i (some (M', R')) k = some (M2, R2) := hY2
  by_cases c : k = i
  ·subst c
   rw [upd_same] at hY3
   cases hY3
   exact hnew j ho
  ·rw [upd_ne _ _ c] at hY3
   exact .inl ⟨k, M2, R2, hk, hY3, ho⟩
 refine { bk := ?_, gd := h.gd, nx := h.nx, lo := h.lo, rk := r.rk, ro := r.ro, kok := r.kok, ook := r.ook, duo := fun k M2 R2 hk hY2 => ?_, mm := fun k k' M2 R2 M3 R3 hk hk' hne hY2 hY3 j h2 h3 => ?_, mq := fun j hj => ?_, kk := h.kk, oo := h.oo, dk := h.dk, dO := h.dO, ck := h.ck, co := h.co, t1 := hT1, tb := h.tb }
 ·rw [setM_fr hY s.mb s.rb]; exact r.bk
 ·have hY3 : upd Y.M i (some (M', R')) k = some (M2, R2) := hY2
  by_cases c : k = i
  ·subst c
   rw [upd_same] at hY3
   cases hY3
   exact s.duo
  ·rw [upd_ne _ _ c] at hY3
   exact ((h.duo k M2 R2 hk hY3).keep s.kept fun j hj hp => h.mm k i M2 R2 M R hk hi c hY3 hY j hj hp).mono hT (by omega)
 ·have e2 : upd Y.M i (some (M', R')) k = some (M2, R2) := hY2
  have e3 : upd Y.M i (some (M', R')) k' = some (M3, R3) := hY3
  by_cases c : k = i
  ·subst c
   rw [upd_same] at e2
   cases e2
   rw [upd_ne _ _ (fun e => hne e.symm)] at e3
   rcases s.own j h2 with h4 | h4
   ·exact h.mm k k' M R M3 R3 hk hk' hne hY e3 j h4 h3
   ·have := ((h.duo k' M3 R3 hk' e3).lt h3).2; omega
  ·rw [upd_ne _ _ c] at e2
   by_cases c' : k' = i
   ·subst c'
    rw [upd_same] at e3
    cases e3
    rcases s.own j h3 with h4 | h4
    ·exact h.mm k k' M2 R2 M R hk hk' hne e2 hY j h2 h4
    ·have := ((h.duo k M2 R2 hk e2).lt h2).2; omega
   ·rw [upd_ne _ _ c'] at e3
    exact h.mm k k' M2 R2 M3 R3 hk hk' hne e2 e3 j h2 h3
 ·rcases hm' j hj with h2 | h2
  ·exact h.mq j h2
  ·refine ⟨fun h3 => ?_, fun h3 => ?_, fun h3 => ?_⟩
   ·have := (h.kf_lt h3).2; omega
   ·have := (h.of_lt h3).2; omega
   ·have := (h.pf_lt h3).2; omega
end
section
variable {w w' W : World} {B T : Nat} {Y : Pl}
theorem rec_cell {t B n kb kc k : Nat} {ks : List Kr} {p : Kr} (h : w.ownsRow B t 5 (.slice (some ⟨kb, 0, none⟩) n kc) n (ks.flatMap Kr.cs)) (hp : ks[k]? = some p) (hk : k < n) (j : Nat) (hj : j < 5) : w.cell? ⟨kb, k * 5 + j, none⟩ = p.cs[j]? := by
 rw [World.ownsRow.cellAt h (k * 5 + j) (by omega)]
 exact flat_get Kr.cs 5 (fun _ => rfl) ks k p hp j hj
theorem row_addr {t s B n c : Nat} {a : Option Addr} {l : List Value} (h : w.ownsRow B t s (.slice a n c) n l) (hn : 0 < n) : ∃ g, a = some ⟨g, 0, none⟩ := by
 rcases h.2 with ⟨_, h0⟩ | ⟨g, cap, cur, hv, _⟩
 ·omega
 ·simp only [Value.slice.injEq] at hv; exact ⟨g, hv.1⟩
theorem PlOk.c (h : PlOk Y w B T) (i : Nat) {v : Value} (e : (#[Y.fr.p0, Y.fr.p1, Y.fr.p2, Y.fr.d0, Y.fr.d1, Y.fr.d2, Y.vp, .slice none 0 0, .int .i64 Y.nx, Y.fr.ls, Y.fr.os, Y.fr.tn] : Array Value)[i]? = some v) : w.cell? ⟨Y.b, i, none⟩ = some v := (bC h.bk.k i).trans e
theorem pintact_any (h : PlOk Y w B T) : Calls Try.prog 14 #[.pointer (some ⟨Y.b, 0, none⟩)] w fun e w' => e = .returned (.bool true) /\ Below w.heap.size w w' := by
 have H : Hid (PlOk Y w B T) := h
 have hck := h.ck
 have hco := h.co
 obtain ⟨ka, kc, hkv⟩ := row_shape' h.rk
 obtain ⟨oa, oc, hov⟩ := row_shape' h.ro
 obtain ⟨nk, hnk⟩ : ∃ n, Y.ks.length = n := ⟨_, rfl⟩
 obtain ⟨no, hno⟩ : ∃ n, Y.os.length = n := ⟨_, rfl⟩
 have Hkv : Hid (Y.kv = .slice ka nk kc /\ Y.ks.length = nk) := (show _ /\ _ from ⟨by rw [hkv, hnk], hnk⟩)
 have Hov : Hid (Y.ov = .slice oa no oc /\ Y.os.length = no) := (show _ /\ _ from ⟨by rw [hov, hno], hno⟩)
 rw [hnk] at hck
 rw [hno] at hco
 have HC : Hid (∀ D, Below w.heap.size w D -> D.cell? ⟨Y.b, 9, none⟩ = some (.slice ka nk kc) /\ D.cell? ⟨Y.b, 10, none⟩ = some (.slice oa no oc)) := fun D hb => (show _ /\ _ from ⟨by rw [<- Hkv.out.1]; exact (H.out.still hb).c 9 rfl, by rw [<- Hov.out.1]; exact (H.out.still hb).c 10 rfl⟩)
 have HI : Hid (∀ D, Below w.heap.size w D -> Calls Try.prog 32 #[.pointer (some ⟨Y.b, 6, none⟩)] D fun e w' => e = .returned (.bool true) /\ Below D.heap.size D w') := fun D hb => (show Calls _ _ _ _ _ from Bk.intact_any B Y.b Y.vp Y.nx Y.ps D (H.out.still hb).bk H.out.gd)
 clear h hkv hov hnk hno
 obtain ⟨yb, hyb⟩ : ∃ b, Y.b = b := ⟨_, rfl⟩
 rw [hyb] at HC HI
 rw [hyb]
 clear hyb
 go_enter Try.func14, Try.ntmps14
 go_wp2
 go_loopw [3] (fun v3 wr => ∃ i : Nat, i ≤ nk /\ v3 = .int .i64 (i : Int) /\ Hid (Below w.heap.size w wr)) (fun v3 _ => nk - (intOf v3).toNat)
 case atStart => exact ⟨0, by omega, rfl, (show Below _ _ _ from Below.refl _ _)⟩
 case round =>
  obtain ⟨i, hi, rfl, hs⟩ := hrel
  have c9 := (HC.out wr hs.out).1
  by_cases hlt : i < nk
  ·have i1 : (0 : Int) ≤ (i : Int) := Int.natCast_nonneg _
   have i2 : (i : Int) < (nk : Int) := by omega
   have hY := H.out.still hs.out
   obtain ⟨p, hp⟩ : ∃ p, Y.ks[i]? = some p := ⟨_, List.getElem?_eq_getElem (by rw [Hkv.out.2]; exact hlt)⟩
   have hrk := hY.rk
   rw [Hkv.out.1, Hkv.out.2] at hrk
   obtain ⟨kb, hkb⟩ := row_addr hrk (by omega)
   rw [hkb] at hrk c9
   have e0 : wr.cell? ⟨kb, i * 5, none⟩ = some p.L := rec_cell hrk hp hlt 0 (by decide)
   have e1 : wr.cell? ⟨kb, i * 5 + 1, none⟩ = some p.G := rec_cell hrk hp hlt 1 (by decide)
   have e2 : wr.cell? ⟨kb, i * 5 + 2, none⟩ = some p.V := rec_cell hrk hp hlt 2 (by decide)
   have e3 : wr.cell? ⟨kb, i * 5 + 3, none⟩ = some (.int .i64 p.mr) := rec_cell hrk hp hlt 3 (by decide)
   have e4 : wr.cell? ⟨kb, i * 5 + 4, none⟩ = some (.bool p.dn) := rec_cell hrk hp hlt 4 (by decide)
   have HS : Hid (Calls Try.prog 30 #[.agg #[p.L, p.G, p.V, .int .i64 p.mr, .bool p.dn]] wr fun e w' => e = .returned (.bool true) /\ Below wr.heap.size wr w') := (show Calls _ _ _ _ _ from (hY.kok p (List.mem_of_getElem? hp)).sh wr (AgF.refl _ _))
   have Hb : Hid (Below w.heap.size w wr) := hs
   clear hs hlt hY hp hrk hkb
   go_wp2_with fail
   refine HS.out.mono ?_
   rintro e w1 ⟨rfl, hb1⟩
   have HN : Hid (Below w.heap.size w w1) := (show Below _ _ _ from bstep Hb.out hb1)
   clear hb1 e0 e1 e2 e3 e4 c9 HS Hb
   go_wp2
   exact ⟨⟨i + 1, by omega, by go_num, HN⟩, by simp [intOf]; omega⟩
  ·have i2 : ¬ (i : Int) < (nk : Int) := by omega
   have HB0 : Hid (Below w.heap.size w wr) := hs
   clear hs hlt
   generalize wr = wz at *
   go_wp2
   go_loopw [4] (fun v4 wr => ∃ i : Nat, i ≤ no /\ v4 = .int .i64 (i : Int) /\ Hid (Below w.heap.size w wr)) (fun v4 _ => no - (intOf v4).toNat)
   case atStart => exact ⟨0, by omega, rfl, HB0⟩
   case round =>
    clear HB0 c9 i2 hi
    obtain ⟨i, hi, rfl, hs⟩ := hrel
    have c9 := (HC.out wr hs.out).2
    by_cases hlt : i < no
    ·have i1 : (0 : Int) ≤ (i : Int) := Int.natCast_nonneg _
     have i2 : (i : Int) < (no : Int) := by omega
     have hY := H.out.still hs.out
     obtain ⟨p, hp⟩ : ∃ p, Y.os[i]? = some p := ⟨_, List.getElem?_eq_getElem (by rw [Hov.out.2]; exact hlt)⟩
     have hrk := hY.ro
     rw [Hov.out.1, Hov.out.2] at hrk
     obtain ⟨kb, hkb⟩ := row_addr hrk (by omega)
     rw [hkb] at hrk c9
     have e0 : wr.cell? ⟨kb, i * 5, none⟩ = some p.L := rec_cell hrk hp hlt 0 (by decide)
     have e1 : wr.cell? ⟨kb, i * 5 + 1, none⟩ = some p.G := rec_cell hrk hp hlt 1 (by decide)
     have e2 : wr.cell? ⟨kb, i * 5 + 2, none⟩ = some p.V := rec_cell hrk hp hlt 2 (by decide)
     have e3 : wr.cell? ⟨kb, i * 5 + 3, none⟩ = some (.int .i64 p.mr) := rec_cell hrk hp hlt 3 (by decide)
     have e4 : wr.cell? ⟨kb, i * 5 + 4, none⟩ = some (.bool p.dn) := rec_cell hrk hp hlt 4 (by decide)
     have HS : Hid (Calls Try.prog 31 #[.agg #[p.L, p.G, p.V, .int .i64 p.mr, .bool p.dn]] wr fun e w' => e = .returned (.bool true) /\ Below wr.heap.size wr w') := (show Calls _ _ _ _ _ from (hY.ook p (List.mem_of_getElem? hp)).sh wr (AgF.refl _ _))
     have Hb : Hid (Below w.heap.size w wr) := hs
     clear hs hlt hY hp hrk hkb
     go_wp2_with fail
     refine HS.out.mono ?_
     rintro e w1 ⟨rfl, hb1⟩
     have HN : Hid (Below w.heap.size w w1) := (show Below _ _ _ from bstep Hb.out hb1)
     clear hb1 e0 e1 e2 e3 e4 c9 HS Hb
     go_wp2
     exact ⟨⟨i + 1, by omega, by go_num, HN⟩, by simp [intOf]; omega⟩
    ·have i2 : ¬ (i : Int) < (no : Int) := by omega
     have Hb : Hid (Below w.heap.size w wr) := hs
     clear hs hlt
     go_wp2_with (first | (go_at_call 32; refine (HI.out _ Hb.out).mono ?_; rintro e w1 ⟨rfl, hb1⟩) | fail)
     have HN : Hid (Below w.heap.size w w1) := (show Below _ _ _ from bstep Hb.out hb1)
     clear hb1
     go_wp2
     go_ret
     exact ⟨rfl, HN.out⟩
end
section
variable {w w' W : World} {B T : Nat} {Y : Pl} {F : Bk.Fr}
theorem keep_full {kb cv n : Nat} {av ao : Option Addr} {m c : Nat} (c6 : w.cell? ⟨kb, 6, none⟩ = some (.slice av n cv)) (hn : 96 ≤ n) : Calls Try.prog 82 #[.pointer (some ⟨kb, 6, none⟩), .slice ao m c] w fun e w' => e = .returned (.tuple #[]) /\ w = w' := by
 have h96 : decide ((96 : Int) ≤ (n : Int)) = true := by simp; omega
 have i2 : (n : Int) ≥ 96 := by omega
 go_enter Try.func82, Try.ntmps82
 go_wp2
 exact bodyPost_ret (v := .tuple #[]) (by simp [results, Try.results82, go_sem]) rfl ⟨rfl, rfl⟩
theorem write_full {kb cv n : Nat} {av ao : Option Addr} {m c : Nat} (c6 : w.cell? ⟨kb, 6, none⟩ = some (.slice av n cv)) (hn : 96 ≤ n) : Calls Try.prog 81 #[.pointer (some ⟨kb, 6, none⟩), .slice ao m c] w fun e w' => e = .returned (.tuple #[]) /\ w = w' := by
 have h96 : decide ((96 : Int) ≤ (n : Int)) = true := by simp; omega
 have i2 : (n : Int) ≥ 96 := by omega
 go_enter Try.func81, Try.ntmps81
 go_wp2
 exact bodyPost_ret (v := .tuple #[]) (by simp [results, Try.results81, go_sem]) rfl ⟨rfl, rfl⟩
theorem own_body {k : Nat} {bs : List Int} (h : Body w B ⟨k, bs⟩) : Lo.Own w B (.slice (some ⟨k, 0, none⟩) bs.length bs.length) bs := by
 have hle : bs.length ≤ 300 := h.le
 refine ⟨by simp, .inr ⟨k, bs.length, (byts bs).toArray, rfl, h.lo, h.bk, Nat.le_refl _, by unfold maxLen; omega, by simp [byts], ?_⟩⟩
 simp [byts, List.take_of_length_le]
def tyP (B : Nat) (w : World) (j : Nat) : Prop := ∃ C : { C : Array Value // B ≤ j }, w.heap[j]? = some (.cells C.1 89 (0, 0))
theorem PlOk.tyP_of (h : PlOk Y w B T) {j : Nat} (hj : Y.vp.ownBlock = some j) : tyP B w j := by
 obtain ⟨C, hC⟩ := h.rowp_ne hj
 exact ⟨⟨C, (World.ownsRow.lt h.bk.o j hj).1⟩, hC⟩
structure PgO (w w' : World) (B T : Nat) (Y : Pl) (k : Nat) (wr : Prop) : Prop where
 out : ∃ Y' : Pl, PlOk Y' w' B T /\ Y'.b = Y.b /\ Y'.M = Y.M /\ Y'.ks = Y.ks /\ Y'.kv = Y.kv /\ Y'.os = Y.os /\ Y'.ov = Y.ov /\ Y'.tn = Y.tn /\ (∀ j, Y'.pf j -> Y.pf j ∨ j = k ∨ w.heap.size ≤ j) /\ Kept w w' (fun j => j = Y.b ∨ tyP B w j ∨ (wr /\ j = k))
theorem PlOk.page {k : Nat} {vp' : Value} {g : Bk.Pg} {wr : Prop} (h : PlOk Y w B T) (hk1 : ¬ Y.mo k) (hk2 : ¬ Y.kf k) (hk3 : ¬ Y.of k) (hk4 : ∃ C, w.heap[k]? = some (.cells C 5 (0, 0))) (hg : g.gr = g.dn) (hh : ∀ j, Bk.holds g j -> j = k ∨ w.heap.size ≤ j) (hb : Bk.BookIs Y.fr w' B Y.b vp' (Y.nx + 1) (Y.ps ++ [g])) (hK : Kept w w' (fun j => j = Y.b ∨ tyP B w j ∨ (wr /\ j = k))) : PgO w w' B T Y k wr := by
 have hnF : ∀ {t s f : Nat} {lo hi : Int} {p : Kr}, KrOK t s f lo hi w B p -> t ≠ 37 -> t ≠ 89 -> ¬ p.F k -> ∀ j, p.F j -> ¬ (j = Y.b ∨ tyP B w j ∨ (wr /\ j = k)) := fun hp t1 t2 hF j hj e => by
  rcases e with rfl | e | ⟨_, rfl⟩
  ·exact hp.ne h.bk.k (fun e => t1 e.symm) (by decide) hj
  ·obtain ⟨C, hC⟩ := e; exact hp.ne hC (fun e => t2 e.symm) (by decide) hj
  ·exact hF hj
 have hnm : ∀ j, Y.mo j -> ¬ (j = Y.b ∨ tyP B w j ∨ (wr /\ j = k)) := fun j hj e => by
  rcases e with rfl | e | ⟨_, rfl⟩
  ·exact h.mo_ne h.bk.k (.inl rfl) hj
  ·obtain ⟨C, hC⟩ := e; exact h.mo_ne hC (.inr (.inr (.inr (.inl rfl)))) hj
  ·exact hk1 hj
 have hpf : ∀ j, (∃ g' ∈ Y.ps ++ [g], Bk.holds g' j) -> Y.pf j ∨ j = k ∨ w.heap.size ≤ j := by
  rintro j ⟨g', hg', hj⟩
  rcases List.mem_append.1 hg' with h1 | h1
  ·exact .inl ⟨g', h1, hj⟩
  ·simp at h1; subst h1; exact .inr (hh j hj)
 have hdn : ∀ j, (B ≤ j /\ j < w.heap.size) -> j ≠ k -> ¬ Y.pf j -> ¬ (∃ g' ∈ Y.ps ++ [g], Bk.holds g' j) := fun j h1 h2 h3 h4 => by
  rcases hpf j h4 with h5 | h5 | h5
  ·exact h3 h5
  ·exact h2 h5
  ·omega
 have hrow : ∀ {t : Nat} {v : Value} {n : Nat} {l : List Value}, w.ownsRow B t 5 v n l -> t = 48 ∨ t = 51 -> (∀ j, v.ownBlock = some j -> j ≠ k) -> w'.ownsRow B t 5 v n l := fun hr ht hnk => hK.owns hr fun j hj e => by
  obtain ⟨C, hC⟩ := own_ty hr hj
  rcases e with rfl | e | ⟨_, rfl⟩
  ·exact blk_ne hC h.bk.k (by rcases ht with rfl | rfl <;> decide) rfl
  ·obtain ⟨C', hC'⟩ := e; exact blk_ne hC hC' (by rcases ht with rfl | rfl <;> decide) rfl
  ·exact hnk _ hj rfl
 refine ⟨{ Y with vp := vp', nx := Y.nx + 1, ps := Y.ps ++ [g] }, ?_, rfl, rfl, rfl, rfl, rfl, rfl, rfl, hpf, hK⟩
 have hkb := hb.k
 refine { bk := hb, gd := fun g' hg' => ?_, nx := ?_, lo := h.lo, rk := ?_, ro := ?_, kok := fun p hp => (h.kok p hp).keep hK (hnF (h.kok p hp) (by decide) (by decide) fun e => hk2 ⟨p, hp, e⟩), ook := fun p hp => (h.ook p hp).keep hK (hnF (h.ook p hp) (by decide) (by decide) fun e => hk3 ⟨p, hp, e⟩), duo := fun i M R hi hY => (h.duo i M R hi hY).keep hK fun j hj => hnm j ⟨i, M, R, hi, hY, hj⟩, mm := h.mm, mq := fun j hj => ⟨(h.mq j hj).1, (h.mq j hj).2.1, hdn j (h.mo_lt hj) (fun e => hk1 (e ▸ hj)) (h.mq j hj).2.2⟩, kk := h.kk, oo := h.oo, dk := fun p hp hd j hj => hdn j ((h.kok p hp).lt hj) (fun e => hk2 ⟨p, hp, e ▸ hj⟩) (h.dk p hp hd j hj), dO := fun p hp hd j hj => hdn j ((h.ook p hp).lt hj) (fun e => hk3 ⟨p, hp, e ▸ hj⟩) (h.dO p hp hd j hj), ck := h.ck, co := h.co, t1 := h.t1, tb := h.tb }
 ·rcases List.mem_append.1 hg' with h1 | h1
  ·exact h.gd g' h1
  ·simp at h1; subst h1; exact hg
 ·show Y.nx + 1 = ((Y.ps ++ [g]).length : Int)
  rw [h.nx]; simp
 ·refine hrow h.rk (.inl rfl) fun j hj e => ?_
  obtain ⟨C, hC⟩ := h.rowk_ne hj
  obtain ⟨C', hC'⟩ := hk4
  exact blk_ne hC hC' (by decide) e
 ·refine hrow h.ro (.inr rfl) fun j hj e => ?_
  obtain ⟨C, hC⟩ := h.rowo_ne hj
  obtain ⟨C', hC'⟩ := hk4
  exact blk_ne hC hC' (by decide) e
theorem byg {bs : List Int} (h : By bs) : ∀ i, 0 ≤ bs.getD i 0 /\ bs.getD i 0 ≤ 255 := fun i => h i
theorem pkeep_any {k : Nat} {bs : List Int} (h : PlOk Y w B T) (hb : Body w B ⟨k, bs⟩) (hk1 : ¬ Y.mo k) (hk2 : ¬ Y.kf k) (hk3 : ¬ Y.of k) (hk4 : ¬ Y.pf k) : Calls Try.prog 82 #[.pointer (some ⟨Y.b, 6, none⟩), .slice (some ⟨k, 0, none⟩) bs.length bs.length] w fun e w' => e = .returned (.tuple #[]) /\ PgO w w' B T Y k False := by
 obtain ⟨av, cv, hv⟩ := Bk.vp_slice h.bk
 by_cases hc : Y.ps.length < 96
 ·have hbk := h.bk
  rw [hv] at hbk
  refine (Bk.keep_walk B Y.b av cv Y.nx Y.ps (some ⟨k, 0, none⟩) bs.length bs.length bs w hbk (own_body hb) (by have := h.nx; omega) hc (byg hb.by_) (by have := hb.le; show bs.length ≤ _; have h3 : bs.length ≤ 300 := hb.le; omega) rfl (fun p hp j hj e => ?_) (fun p hp j hj hh => ?_)).mono fun e w' hx => ⟨hx.1, ?_⟩
  ·simp [Value.ownBlock] at e; subst e; exact hk4 ⟨p, hp, .inl hj⟩
  ·simp [Value.ownBlock] at hj; subst hj; exact hk4 ⟨p, hp, hh⟩
  ·obtain ⟨vp', a1, c1, hB, hK, hf⟩ := hx.2
   have hK' : Kept w w' (fun j => j = Y.b ∨ tyP B w j ∨ (False /\ j = k)) := (bkk hK).mono fun j _ e => e.imp id fun e => .inl (h.tyP_of (by rw [hv]; exact e.symm))
   refine h.page hk1 hk2 hk3 ⟨_, hb.bk⟩ rfl (fun j hj => ?_) hB hK'
   rcases hj with e | ⟨e, _⟩ | ⟨_, e⟩
   ·simp [Value.ownBlock] at e; exact .inl e.symm
   ·simp at e
   ·exact .inr (hf j e)
 ·have hcn := h.bk.cnt
  refine (keep_full (n := Y.ps.length) (by rw [<- hv]; exact h.c 6 rfl) (by omega)).mono fun e w' hx => ⟨hx.1, ?_⟩
  rw [<- hx.2]
  exact ⟨Y, h, rfl, rfl, rfl, rfl, rfl, rfl, rfl, fun j hj => .inl hj, Kept.refl _ _⟩
theorem pwrite_any {k : Nat} {bs : List Int} (h : PlOk Y w B T) (hb : Body w B ⟨k, bs⟩) (hk1 : ¬ Y.mo k) (hk2 : ¬ Y.kf k) (hk3 : ¬ Y.of k) (hk4 : ¬ Y.pf k) : Calls Try.prog 81 #[.pointer (some ⟨Y.b, 6, none⟩), .slice (some ⟨k, 0, none⟩) bs.length bs.length] w fun e w' => e = .returned (.tuple #[]) /\ PgO w w' B T Y k True := by
 obtain ⟨av, cv, hv⟩ := Bk.vp_slice h.bk
 by_cases hc : Y.ps.length < 96
 ·have hbk := h.bk
  rw [hv] at hbk
  refine (Bk.write_walk B Y.b av cv Y.nx Y.ps (some ⟨k, 0, none⟩) bs.length bs.length bs w hbk (own_body hb) (by have := h.nx; omega) hc (by have := hb.le; show bs.length ≤ _; have h3 : bs.length ≤ 300 := hb.le; omega) rfl (fun p hp j hj e => ?_) (fun p hp j hj hh => ?_)).mono fun e w' hx => ⟨hx.1, ?_⟩
  ·simp [Value.ownBlock] at e; subst e; exact hk4 ⟨p, hp, .inl hj⟩
  ·simp [Value.ownBlock] at hj; subst hj; exact hk4 ⟨p, hp, hh⟩
  ·obtain ⟨vp', G, hB, hK, hf⟩ := hx.2
   have hK' : Kept w w' (fun j => j = Y.b ∨ tyP B w j ∨ (True /\ j = k)) := (bkk hK).mono fun j _ e => e.imp id fun e => e.imp (fun e => h.tyP_of (by rw [hv]; exact e.symm)) fun e => ⟨trivial, by simpa [Value.ownBlock] using e⟩
   refine h.page hk1 hk2 hk3 ⟨_, hb.bk⟩ rfl (fun j hj => ?_) hB hK'
   rcases hj with e | ⟨_, e⟩ | ⟨e, _⟩
   ·simp [Value.ownBlock] at e; exact .inl e.symm
   ·rcases hf with hf | ⟨g', hf, hl⟩
    ·left; have e2 := hf.symm.trans e; simp [Value.ownBlock] at e2; exact e2.symm
    ·right; have e2 := hf.symm.trans e; simp at e2; omega
   ·simp at e
 ·have hcn := h.bk.cnt
  refine (write_full (n := Y.ps.length) (by rw [<- hv]; exact h.c 6 rfl) (by omega)).mono fun e w' hx => ⟨hx.1, ?_⟩
  rw [<- hx.2]
  exact ⟨Y, h, rfl, rfl, rfl, rfl, rfl, rfl, rfl, fun j hj => .inl hj, Kept.refl _ _⟩
end
section
variable {w w' W : World} {B T : Nat} {Y : Pl}
def fkF (L V : Value) (fs hs : List Fm) (k : Nat) : Prop := L.ownBlock = some k ∨ V.ownBlock = some k ∨ (∃ f ∈ fs, k = f.y.k) ∨ ∃ g ∈ hs, k = g.y.k
theorem kr_fresh {la va : Option Addr} {n lc vc : Nat} {mk : Int} {fs hs : List Fm} (h1 : w.ownsRow B 55 6 (.slice la n lc) n (fmR fs)) (h2 : w.ownsRow B 55 6 (.slice va n vc) n (fmR hs)) (ho : ∀ f ∈ fs, f.y.Ok w B) (hg : ∀ g ∈ hs, g.y.Ok w B) (he : fs.map fmS = hs.map fmS) (hn : n ≤ 100000) (hm : -1000000 ≤ mk /\ mk ≤ 0) :
  KrOK 55 6 30 (-1000000) 0 w B ⟨.slice la n lc, .slice none 0 0, .slice va n vc, mk, false, n, fkF (.slice la n lc) (.slice va n vc) fs hs⟩ := by
 refine ⟨⟨_, h1⟩, ⟨_, _, _, rfl⟩, ⟨_, _, _, rfl⟩, fun k hk => .inl hk, fun k hk => ?_, fun w' ha => ?_, hn, hm⟩
 ·rcases hk with hk | hk | ⟨f, hf, rfl⟩ | ⟨g, hg', rfl⟩
  ·obtain ⟨C, hC⟩ := own_ty h1 hk; exact ⟨(World.ownsRow.lt h1 k hk).1, C, _, hC, .inl rfl⟩
  ·obtain ⟨C, hC⟩ := own_ty h2 hk; exact ⟨(World.ownsRow.lt h2 k hk).1, C, _, hC, .inl rfl⟩
  ·obtain ⟨C, hC, _⟩ := (ho f hf).blk; exact ⟨(ho f hf).lo, C, _, hC, .inr rfl⟩
  ·obtain ⟨C, hC, _⟩ := (hg g hg').blk; exact ⟨(hg g hg').lo, C, _, hC, .inr rfl⟩
 ·have r1 := FRd.of (ha.own (fun k hk => .inl hk) h1)
  have r2 := FRd.of (ha.own (fun k hk => .inr (.inl hk)) h2)
  refine shows_fresh (B := B) r1 r2 ⟨fun i f hf => ha.bn (.inr (.inr (.inl ⟨f, List.mem_of_getElem? hf, rfl⟩))) (ho f (List.mem_of_getElem? hf)), fun i g hg' => ha.bn (.inr (.inr (.inr ⟨g, List.mem_of_getElem? hg', rfl⟩))) (hg g (List.mem_of_getElem? hg')), fun i f g hf hg' => ?_⟩ (by omega)
  have e := congrArg (fun l => l[i]?) he
  simp only [List.getElem?_map, hf, hg', Option.map_some, Option.some.injEq] at e
  simp only [fmS, Prod.mk.injEq] at e
  exact ⟨e.1.symm, e.2.1.symm, e.2.2.symm⟩
def dnF (L G : Value) (k : Nat) : Prop := L.ownBlock = some k ∨ G.ownBlock = some k
theorem DnF.ag {la ga : Option Addr} {n lc gn gc : Nat} {mk : Int} (h : DnF w la ga n mk) (ha : AgF (dnF (.slice la n lc) (.slice ga gn gc)) w w') : DnF w' la ga n mk := by
 obtain ⟨gb, e, h1, h2⟩ := h.gb
 have fg : dnF (.slice la n lc) (.slice ga gn gc) gb := .inr (by rw [e]; rfl)
 refine ⟨⟨gb, e, fun i hi => ha.cell fg (h1 i hi), fun i hi => ha.cell fg (h2 i hi)⟩, fun hn => ?_⟩
 obtain ⟨lb, e2, h3⟩ := h.lb hn
 have fl : dnF (.slice la n lc) (.slice ga gn gc) lb := .inl (by rw [e2]; rfl)
 exact ⟨lb, e2, fun i hi => ⟨ha.cell fl (h3 i hi).1, ha.cell fl (h3 i hi).2⟩⟩
theorem kr_done {la ga va : Option Addr} {n lc gc vn vc : Nat} {mk : Int} {xs ys : List Value} (h : DnF w la ga n mk) (h1 : w.ownsRow B 55 6 (.slice la n lc) n xs) (h2 : w.ownsRow B 55 6 (.slice ga (n + 64) gc) (n + 64) ys) (hn : n ≤ 100000) (hm : -1000000 ≤ mk /\ mk ≤ 0) :
  KrOK 55 6 30 (-1000000) 0 w B ⟨.slice la n lc, .slice ga (n + 64) gc, .slice va vn vc, mk, true, n, dnF (.slice la n lc) (.slice ga (n + 64) gc)⟩ := by
 refine ⟨⟨_, h1⟩, ⟨_, _, _, rfl⟩, ⟨_, _, _, rfl⟩, fun k hk => .inl hk, fun k hk => ?_, fun w' ha => shows_done (h.ag ha) (by show n ≤ _; omega) rfl ⟨by have := hm.1; show _ ≤ mk; omega, hm.2⟩, hn, hm⟩
 rcases hk with hk | hk
 ·obtain ⟨C, hC⟩ := own_ty h1 hk; exact ⟨(World.ownsRow.lt h1 k hk).1, C, _, hC, .inl rfl⟩
 ·obtain ⟨C, hC⟩ := own_ty h2 hk; exact ⟨(World.ownsRow.lt h2 k hk).1, C, _, hC, .inl rfl⟩
def foF (L V : Value) (ys zs : List Bn) (k : Nat) : Prop := L.ownBlock = some k ∨ V.ownBlock = some k ∨ (∃ y ∈ ys, k = y.k) ∨ ∃ z ∈ zs, k = z.k
theorem or_fresh {la va : Option Addr} {n lc vc : Nat} {mk : Int} {ys zs : List Bn} (h1 : w.ownsRow B 40 1 (.slice la n lc) n (ys.map Bn.v)) (h2 : w.ownsRow B 40 1 (.slice va n vc) n (zs.map Bn.v)) (ho : ∀ y ∈ ys, y.Ok w B) (hg : ∀ z ∈ zs, z.Ok w B) (he : ys.map Bn.bs = zs.map Bn.bs) (hn : n ≤ 100000) (hm : 0 ≤ mk /\ mk ≤ 255) :
  KrOK 40 1 31 0 255 w B ⟨.slice la n lc, .slice none 0 0, .slice va n vc, mk, false, n, foF (.slice la n lc) (.slice va n vc) ys zs⟩ := by
 refine ⟨⟨_, h1⟩, ⟨_, _, _, rfl⟩, ⟨_, _, _, rfl⟩, fun k hk => .inl hk, fun k hk => ?_, fun w' ha => ?_, hn, hm⟩
 ·rcases hk with hk | hk | ⟨f, hf, rfl⟩ | ⟨g, hg', rfl⟩
  ·obtain ⟨C, hC⟩ := own_ty h1 hk; exact ⟨(World.ownsRow.lt h1 k hk).1, C, _, hC, .inl rfl⟩
  ·obtain ⟨C, hC⟩ := own_ty h2 hk; exact ⟨(World.ownsRow.lt h2 k hk).1, C, _, hC, .inl rfl⟩
  ·obtain ⟨C, hC, _⟩ := (ho f hf).blk; exact ⟨(ho f hf).lo, C, _, hC, .inr rfl⟩
  ·obtain ⟨C, hC, _⟩ := (hg g hg').blk; exact ⟨(hg g hg').lo, C, _, hC, .inr rfl⟩
 ·have r1 := ORd.of (ha.own (fun k hk => .inl hk) h1)
  have r2 := ORd.of (ha.own (fun k hk => .inr (.inl hk)) h2)
  refine oshows_fresh (B := B) r1 r2 ⟨fun i f hf => ha.bn (.inr (.inr (.inl ⟨f, List.mem_of_getElem? hf, rfl⟩))) (ho f (List.mem_of_getElem? hf)), fun i g hg' => ha.bn (.inr (.inr (.inr ⟨g, List.mem_of_getElem? hg', rfl⟩))) (hg g (List.mem_of_getElem? hg')), fun i f g hf hg' => ?_⟩ (by omega)
  have e := congrArg (fun l => l[i]?) he
  simp only [List.getElem?_map, hf, hg', Option.map_some, Option.some.injEq] at e
  exact e.symm
def doF (L G : Value) (n : Nat) (Y Z : Nat -> Bn) (k : Nat) : Prop := L.ownBlock = some k ∨ G.ownBlock = some k ∨ (∃ i, i < n /\ k = (Y i).k) ∨ ∃ i, i < 64 /\ k = (Z i).k
theorem DnO.ag {la ga : Option Addr} {n lc gn gc : Nat} {mk : Int} {Y Z : Nat -> Bn} (h : DnO w B la ga n mk Y Z) (ha : AgF (doF (.slice la n lc) (.slice ga gn gc) n Y Z) w w') : DnO w' B la ga n mk Y Z := by
 obtain ⟨gb, e, h1, h2⟩ := h.gb
 have fg : doF (.slice la n lc) (.slice ga gn gc) n Y Z gb := .inr (.inl (by rw [e]; rfl))
 refine ⟨⟨gb, e, fun i hi => ha.cell fg (h1 i hi), fun i hi => ha.cell fg (h2 i hi)⟩, fun hn => ?_, fun i hi => ⟨ha.bn (.inr (.inr (.inl ⟨i, hi, rfl⟩))) (h.yo i hi).1, (h.yo i hi).2⟩, fun i hi => ⟨ha.bn (.inr (.inr (.inr ⟨i, hi, rfl⟩))) (h.zo i hi).1, (h.zo i hi).2⟩⟩
 obtain ⟨lb, e2, h3⟩ := h.lb hn
 have fl : doF (.slice la n lc) (.slice ga gn gc) n Y Z lb := .inl (by rw [e2]; rfl)
 exact ⟨lb, e2, fun i hi => ha.cell fl (h3 i hi)⟩
theorem or_done {la ga va : Option Addr} {n lc gc vn vc : Nat} {mk : Int} {xs ys : List Value} {Y Z : Nat -> Bn} (h : DnO w B la ga n mk Y Z) (h1 : w.ownsRow B 40 1 (.slice la n lc) n xs) (h2 : w.ownsRow B 40 1 (.slice ga (n + 64) gc) (n + 64) ys) (hn : n ≤ 100000) (hm : 0 ≤ mk /\ mk ≤ 255) :
  KrOK 40 1 31 0 255 w B ⟨.slice la n lc, .slice ga (n + 64) gc, .slice va vn vc, mk, true, n, doF (.slice la n lc) (.slice ga (n + 64) gc) n Y Z⟩ := by
 refine ⟨⟨_, h1⟩, ⟨_, _, _, rfl⟩, ⟨_, _, _, rfl⟩, fun k hk => .inl hk, fun k hk => ?_, fun w' ha => oshows_done (h.ag ha) (by show n ≤ _; omega) rfl hm, hn, hm⟩
 rcases hk with hk | hk | ⟨i, hi, rfl⟩ | ⟨i, hi, rfl⟩
 ·obtain ⟨C, hC⟩ := own_ty h1 hk; exact ⟨(World.ownsRow.lt h1 k hk).1, C, _, hC, .inl rfl⟩
 ·obtain ⟨C, hC⟩ := own_ty h2 hk; exact ⟨(World.ownsRow.lt h2 k hk).1, C, _, hC, .inl rfl⟩
 ·obtain ⟨C, hC, _⟩ := (h.yo i hi).1.blk; exact ⟨(h.yo i hi).1.lo, C, _, hC, .inr rfl⟩
 ·obtain ⟨C, hC, _⟩ := (h.zo i hi).1.blk; exact ⟨(h.zo i hi).1.lo, C, _, hC, .inr rfl⟩
theorem sepp_snoc {ks : List Kr} {p : Kr} (h : Sepp ks) (h1 : ∀ q ∈ ks, ∀ k, p.L.ownBlock = some k -> ¬ q.F k) (h2 : ∀ q ∈ ks, ∀ k, q.L.ownBlock = some k -> ¬ p.F k) : Sepp (ks ++ [p]) := by
 intro i j a c hi hj hne k hk
 by_cases x : i < ks.length
 ·rw [List.getElem?_append_left x] at hi
  by_cases y : j < ks.length
  ·rw [List.getElem?_append_left y] at hj
   exact h i j a c hi hj hne k hk
  ·rw [List.getElem?_append_right (by omega)] at hj
   have hj' := (List.getElem?_eq_some_iff.1 hj).1
   have e : j - ks.length = 0 := by simp at hj'; omega
   rw [e] at hj
   simp at hj
   subst hj
   exact h2 a (List.mem_of_getElem? hi) k hk
 ·rw [List.getElem?_append_right (by omega)] at hi
  have hi' := (List.getElem?_eq_some_iff.1 hi).1
  have e : i - ks.length = 0 := by simp at hi'; omega
  rw [e] at hi
  simp at hi
  subst hi
  by_cases y : j < ks.length
  ·rw [List.getElem?_append_left y] at hj
   exact h1 c (List.mem_of_getElem? hj) k hk
  ·rw [List.getElem?_append_right (by omega)] at hj
   have hj' := (List.getElem?_eq_some_iff.1 hj).1
   simp at hi' hj'
   omega
theorem PlOk.addk {w2 : World} {g cap : Nat} {p : Kr} (h : PlOk Y w B T) (hp : KrOK 55 6 30 (-1000000) 0 w B p) (hF : ∀ j, p.F j -> ¬ Y.mo j) (h1 : ∀ q ∈ Y.ks, ∀ k, p.L.ownBlock = some k -> ¬ q.F k) (h2 : ∀ q ∈ Y.ks, ∀ k, q.L.ownBlock = some k -> ¬ p.F k) (hd : p.dn = true -> ∀ j, p.F j -> ¬ Y.pf j) (hc : Y.ks.length < 24)
  (ho : w2.ownsRow B 48 5 (.slice (some ⟨g, 0, none⟩) (Y.ks.length + 1) cap) (Y.ks.length + 1) (Y.ks.flatMap Kr.cs ++ p.cs)) (hk : Kept w w2 (fun j => Y.kv.ownBlock = some j)) :
  PlOk { Y with ks := Y.ks ++ [p], kv := .slice (some ⟨g, 0, none⟩) (Y.ks.length + 1) cap } (w2.setCell ⟨Y.b, 9, none⟩ (.slice (some ⟨g, 0, none⟩) (Y.ks.length + 1) cap)) B T := by
 generalize hX : w2.setCell ⟨Y.b, 9, none⟩ (.slice (some ⟨g, 0, none⟩) (Y.ks.length + 1) cap) = X
 have k2 : Kept w2 X (fun j => j = Y.b) := by rw [<- hX]; exact kset (P := fun j => j = Y.b) _ _ _ _ rfl
 have hbne : ∀ {j : Nat}, Y.kv.ownBlock = some j -> j ≠ Y.b := fun hj e => by obtain ⟨C, hC⟩ := h.rowk_ne hj; exact blk_ne hC h.bk.k (by decide) e
 have hb2 : w2.heap[Y.b]? = some (.cells #[Y.fr.p0, Y.fr.p1, Y.fr.p2, Y.fr.d0, Y.fr.d1, Y.fr.d2, Y.vp, .slice none 0 0, .int .i64 Y.nx, Y.fr.ls, Y.fr.os, Y.fr.tn] 37 (0, 0)) := hk.obj h.bk.k fun e => hbne e rfl
 have kX : Kept w X (fun j => j = Y.b ∨ Y.kv.ownBlock = some j) := (hk.mono fun j _ e => .inr e).trans (k2.mono fun j _ e => .inl e)
 have hty : ∀ {t s : Nat} {v : Value} {n : Nat} {l : List Value}, w.ownsRow B t s v n l -> t ≠ 37 -> t ≠ 48 -> X.ownsRow B t s v n l := fun hr t1 t2 => kX.owns hr fun j hj e => by
  obtain ⟨C, hC⟩ := own_ty hr hj
  rcases e with rfl | e
  ·exact blk_ne hC h.bk.k t1 rfl
  ·obtain ⟨C', hC'⟩ := h.rowk_ne e; exact blk_ne hC hC' t2 rfl
 have hKr : ∀ {t s f : Nat} {lo hi : Int} {q : Kr}, KrOK t s f lo hi w B q -> t ≠ 37 -> t ≠ 48 -> KrOK t s f lo hi X B q := fun hq t1 t2 => hq.keep kX fun j hj e => by
  rcases e with rfl | e
  ·exact hq.ne h.bk.k (fun e => t1 e.symm) (by decide) hj
  ·obtain ⟨C', hC'⟩ := h.rowk_ne e; exact hq.ne hC' (fun e => t2 e.symm) (by decide) hj
 have hmX : ∀ j, Y.mo j -> ¬ (j = Y.b ∨ Y.kv.ownBlock = some j) := fun j hj e => by
  rcases e with rfl | e
  ·exact h.mo_ne h.bk.k (.inl rfl) hj
  ·obtain ⟨C', hC'⟩ := h.rowk_ne e; exact h.mo_ne hC' (.inr (.inl rfl)) hj
 have hbk := h.bk
 refine { bk := ⟨?_, hty hbk.o (by decide) (by decide), fun g' hg' => (hbk.ok g' hg').kept (kbk kX) fun j hj e => ?_, hbk.sep, by have := hbk.b; have := kX.size; omega, hbk.n0, hbk.n1, hbk.cnt⟩, gd := h.gd, nx := h.nx, lo := h.lo, rk := ?_, ro := hty h.ro (by decide) (by decide), kok := fun q hq => ?_, ook := fun q hq => hKr (h.ook q hq) (by decide) (by decide), duo := fun i M R hi hY => (h.duo i M R hi hY).keep kX fun j hj => hmX j ⟨i, M, R, hi, hY, hj⟩, mm := h.mm, mq := fun j hj => ⟨?_, (h.mq j hj).2.1, (h.mq j hj).2.2⟩, kk := sepp_snoc h.kk h1 h2, oo := h.oo, dk := fun q hq hd2 => ?_, dO := h.dO, ck := by simp; omega, co := h.co, t1 := h.t1, tb := h.tb }
 ·rw [<- hX]
  exact blk_set hb2 rfl
 ·obtain ⟨C, hC⟩ := Bk.holds_type (hbk.ok g' hg') hj
  rcases e with rfl | e
  ·exact blk_ne hC h.bk.k (by decide) rfl
  ·obtain ⟨C', hC'⟩ := h.rowk_ne e; exact blk_ne hC hC' (by decide) rfl
 ·have : X.ownsRow B 48 5 (.slice (some ⟨g, 0, none⟩) (Y.ks.length + 1) cap) (Y.ks.length + 1) (Y.ks.flatMap Kr.cs ++ p.cs) := k2.owns ho fun j hj e => by
   obtain ⟨C, hC⟩ := own_ty ho hj
   exact blk_ne hC hb2 (by decide) e
  simpa using this
 ·rcases List.mem_append.1 hq with hq | hq
  ·exact hKr (h.kok q hq) (by decide) (by decide)
  ·simp at hq; subst hq; exact hKr hp (by decide) (by decide)
 ·rintro ⟨q, hq, hj2⟩
  have hjm : Y.mo j := hj
  rcases List.mem_append.1 hq with hq | hq
  ·exact (h.mq j hjm).1 ⟨q, hq, hj2⟩
  ·simp at hq; subst hq; exact hF j hj2 hjm
 ·rcases List.mem_append.1 hq with hq | hq
  ·exact h.dk q hq hd2
  ·simp at hq; subst hq; exact hd hd2
theorem PlOk.addo {w2 : World} {g cap : Nat} {p : Kr} (h : PlOk Y w B T) (hp : KrOK 40 1 31 0 255 w B p) (hF : ∀ j, p.F j -> ¬ Y.mo j) (h1 : ∀ q ∈ Y.os, ∀ k, p.L.ownBlock = some k -> ¬ q.F k) (h2 : ∀ q ∈ Y.os, ∀ k, q.L.ownBlock = some k -> ¬ p.F k) (hd : p.dn = true -> ∀ j, p.F j -> ¬ Y.pf j) (hc : Y.os.length < 24)
  (ho : w2.ownsRow B 51 5 (.slice (some ⟨g, 0, none⟩) (Y.os.length + 1) cap) (Y.os.length + 1) (Y.os.flatMap Kr.cs ++ p.cs)) (hk : Kept w w2 (fun j => Y.ov.ownBlock = some j)) :
  PlOk { Y with os := Y.os ++ [p], ov := .slice (some ⟨g, 0, none⟩) (Y.os.length + 1) cap } (w2.setCell ⟨Y.b, 10, none⟩ (.slice (some ⟨g, 0, none⟩) (Y.os.length + 1) cap)) B T := by
 generalize hX : w2.setCell ⟨Y.b, 10, none⟩ (.slice (some ⟨g, 0, none⟩) (Y.os.length + 1) cap) = X
 have k2 : Kept w2 X (fun j => j = Y.b) := by rw [<- hX]; exact kset (P := fun j => j = Y.b) _ _ _ _ rfl
 have hbne : ∀ {j : Nat}, Y.ov.ownBlock = some j -> j ≠ Y.b := fun hj e => by obtain ⟨C, hC⟩ := h.rowo_ne hj; exact blk_ne hC h.bk.k (by decide) e
 have hb2 : w2.heap[Y.b]? = some (.cells #[Y.fr.p0, Y.fr.p1, Y.fr.p2, Y.fr.d0, Y.fr.d1, Y.fr.d2, Y.vp, .slice none 0 0, .int .i64 Y.nx, Y.fr.ls, Y.fr.os, Y.fr.tn] 37 (0, 0)) := hk.obj h.bk.k fun e => hbne e rfl
 have kX : Kept w X (fun j => j = Y.b ∨ Y.ov.ownBlock = some j) := (hk.mono fun j _ e => .inr e).trans (k2.mono fun j _ e => .inl e)
 have hty : ∀ {t s : Nat} {v : Value} {n : Nat} {l : List Value}, w.ownsRow B t s v n l -> t ≠ 37 -> t ≠ 51 -> X.ownsRow B t s v n l := fun hr t1 t2 => kX.owns hr fun j hj e => by
  obtain ⟨C, hC⟩ := own_ty hr hj
  rcases e with rfl | e
  ·exact blk_ne hC h.bk.k t1 rfl
  ·obtain ⟨C', hC'⟩ := h.rowo_ne e; exact blk_ne hC hC' t2 rfl
 have hKr : ∀ {t s f : Nat} {lo hi : Int} {q : Kr}, KrOK t s f lo hi w B q -> t ≠ 37 -> t ≠ 51 -> KrOK t s f lo hi X B q := fun hq t1 t2 => hq.keep kX fun j hj e => by
  rcases e with rfl | e
  ·exact hq.ne h.bk.k (fun e => t1 e.symm) (by decide) hj
  ·obtain ⟨C', hC'⟩ := h.rowo_ne e; exact hq.ne hC' (fun e => t2 e.symm) (by decide) hj
 have hmX : ∀ j, Y.mo j -> ¬ (j = Y.b ∨ Y.ov.ownBlock = some j) := fun j hj e => by
  rcases e with rfl | e
  ·exact h.mo_ne h.bk.k (.inl rfl) hj
  ·obtain ⟨C', hC'⟩ := h.rowo_ne e; exact h.mo_ne hC' (.inr (.inr (.inl rfl))) hj
 have hbk := h.bk
 refine { bk := ⟨?_, hty hbk.o (by decide) (by decide), fun g' hg' => (hbk.ok g' hg').kept (kbk kX) fun j hj e => ?_, hbk.sep, by have := hbk.b; have := kX.size; omega, hbk.n0, hbk.n1, hbk.cnt⟩, gd := h.gd, nx := h.nx, lo := h.lo, rk := hty h.rk (by decide) (by decide), ro := ?_, kok := fun q hq => hKr (h.kok q hq) (by decide) (by decide), ook := fun q hq => ?_, duo := fun i M R hi hY => (h.duo i M R hi hY).keep kX fun j hj => hmX j ⟨i, M, R, hi, hY, hj⟩, mm := h.mm, mq := fun j hj => ⟨(h.mq j hj).1, ?_, (h.mq j hj).2.2⟩, kk := h.kk, oo := sepp_snoc h.oo h1 h2, dk := h.dk, dO := fun q hq hd2 => ?_, ck := h.ck, co := by simp; omega, t1 := h.t1, tb := ⟨h.tb.1, by have := h.tb.2; simp; omega⟩ }
 ·rw [<- hX]
  exact blk_set hb2 rfl
 ·obtain ⟨C, hC⟩ := Bk.holds_type (hbk.ok g' hg') hj
  rcases e with rfl | e
  ·exact blk_ne hC h.bk.k (by decide) rfl
  ·obtain ⟨C', hC'⟩ := h.rowo_ne e; exact blk_ne hC hC' (by decide) rfl
 ·have : X.ownsRow B 51 5 (.slice (some ⟨g, 0, none⟩) (Y.os.length + 1) cap) (Y.os.length + 1) (Y.os.flatMap Kr.cs ++ p.cs) := k2.owns ho fun j hj e => by
   obtain ⟨C, hC⟩ := own_ty ho hj
   exact blk_ne hC hb2 (by decide) e
  simpa using this
 ·rcases List.mem_append.1 hq with hq | hq
  ·exact hKr (h.ook q hq) (by decide) (by decide)
  ·simp at hq; subst hq; exact hKr hp (by decide) (by decide)
 ·rintro ⟨q, hq, hj2⟩
  have hjm : Y.mo j := hj
  rcases List.mem_append.1 hq with hq | hq
  ·exact (h.mq j hjm).2.1 ⟨q, hq, hj2⟩
  ·simp at hq; subst hq; exact hF j hj2 hjm
 ·rcases List.mem_append.1 hq with hq | hq
  ·exact h.dO q hq hd2
  ·simp at hq; subst hq; exact hd hd2
end
end Go.Proofs.Ythanifbimndhaaa.Ln
