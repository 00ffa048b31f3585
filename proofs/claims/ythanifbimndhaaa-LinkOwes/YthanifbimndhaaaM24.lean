import Derived.Test.YthanifbimndhaaaM23
namespace Go.Proofs.Ythanifbimndhaaa.Ln
set_option maxHeartbeats 40000000
open Go.RowKit Mb
set_option linter.unusedVariables false
set_option maxRecDepth 100000
set_option linter.unusedSimpArgs false
section
variable {w w' W : World} {B T : Nat} {Y : Pl}
def tyK (B : Nat) (w : World) (j : Nat) : Prop := ∃ C : { C : Array Value // B ≤ j }, w.heap[j]? = some (.cells C.1 48 (0, 0))
theorem PlOk.tyK_of (h : PlOk Y w B T) {j : Nat} (hj : Y.kv.ownBlock = some j) : tyK B w j := by
 obtain ⟨C, hC⟩ := h.rowk_ne hj
 exact ⟨⟨C, (World.ownsRow.lt h.rk j hj).1⟩, hC⟩
theorem PlOk.keep {P : Nat -> Prop} (h : PlOk Y w B T) (k : Kept w w' P) (hP : ∀ j, P j -> j ≠ Y.b /\ Y.vp.ownBlock ≠ some j /\ Y.kv.ownBlock ≠ some j /\ Y.ov.ownBlock ≠ some j /\ ¬ Y.mo j /\ ¬ Y.kf j /\ ¬ Y.of j /\ ¬ Y.pf j) : PlOk Y w' B T :=
 { h with
  bk := h.bk.kept (kbk k) (fun e => (hP _ e).1 rfl) (fun j hj e => (hP j e).2.1 hj) (fun g hg j hj e => (hP j e).2.2.2.2.2.2.2 ⟨g, hg, hj⟩)
  rk := k.owns h.rk fun j hj e => (hP j e).2.2.1 hj
  ro := k.owns h.ro fun j hj e => (hP j e).2.2.2.1 hj
  kok := fun p hp => (h.kok p hp).keep k fun j hj e => (hP j e).2.2.2.2.2.1 ⟨p, hp, hj⟩
  ook := fun p hp => (h.ook p hp).keep k fun j hj e => (hP j e).2.2.2.2.2.2.1 ⟨p, hp, hj⟩
  duo := fun i M R hi hY => (h.duo i M R hi hY).keep k fun j hj e => (hP j e).2.2.2.2.1 ⟨i, M, R, hi, hY, hj⟩ }
def Lset (L : Value) (fs : List Fm) (j : Nat) : Prop := L.ownBlock = some j ∨ ∃ f ∈ fs, j = f.y.k
structure FrIn (w : World) (B : Nat) (Y : Pl) (la : Option Addr) (n lc : Nat) (fs : List Fm) (wa : Option Addr) (gs : List Fm) : Prop where
 row : w.ownsRow B 55 6 (.slice la n lc) n (fmR fs)
 bod : ∀ f ∈ fs, Body w B ⟨f.y.k, f.y.bs⟩ /\ f.y.c = f.y.bs.length
 nd : (fs.map fun f => f.y.k).Nodup
 free : ∀ j, Lset (.slice la n lc) fs j -> ¬ Y.mo j /\ ¬ Y.kf j /\ ¬ Y.of j /\ ¬ Y.pf j
 wrow : FRd w wa n gs
 wok : ∀ g ∈ gs, g.y.Ok w B
 eq : fs.map fmS = gs.map fmS
 n1 : n ≤ 1000
theorem FrIn.len {la wa : Option Addr} {n lc : Nat} {fs gs : List Fm} (h : FrIn w B Y la n lc fs wa gs) : fs.length = n /\ gs.length = n := by
 have h1 := congrArg List.length h.eq
 rw [List.length_map, List.length_map] at h1
 have h2 := h.wrow.len
 omega
theorem FrIn.lt {la wa : Option Addr} {n lc : Nat} {fs gs : List Fm} (h : FrIn w B Y la n lc fs wa gs) {j : Nat} (hj : Lset (.slice la n lc) fs j) : B ≤ j /\ j < w.heap.size := by
 rcases hj with hj | ⟨f, hf, rfl⟩
 ·exact World.ownsRow.lt h.row j hj
 ·exact ⟨(h.bod f hf).1.lo, (h.bod f hf).1.bk.lt⟩
theorem FrIn.at_ {la wa : Option Addr} {n lc i : Nat} {fs gs : List Fm} (h : FrIn w B Y la n lc fs wa gs) (hi : i < n) : ∃ f g, fs[i]? = some f /\ gs[i]? = some g /\ g.t = f.t /\ g.s = f.s /\ g.y.bs = f.y.bs := by
 obtain ⟨f, hf⟩ : ∃ f, fs[i]? = some f := ⟨_, List.getElem?_eq_getElem (by rw [h.len.1]; exact hi)⟩
 obtain ⟨g, hg⟩ : ∃ g, gs[i]? = some g := ⟨_, List.getElem?_eq_getElem (by rw [h.len.2]; exact hi)⟩
 have e := congrArg (fun l => l[i]?) h.eq
 simp only [List.getElem?_map, hf, hg, Option.map_some, Option.some.injEq, fmS, Prod.mk.injEq] at e
 exact ⟨f, g, hf, hg, e.1.symm, e.2.1.symm, e.2.2.symm⟩
structure FL1 (w wr : World) (la : Option Addr) (n lc : Nat) (mk : Int) (gs : List Fm) (i : Nat) (v : Value) (hs : List Fm) : Prop where
 blk : wr.heap[w.heap.size]? = some (.cells #[.slice la n lc, .slice none 0 0, v, .int .i64 mk, .bool false] 48 (0, 0))
 row : wr.ownsRow w.heap.size 55 6 v i (fmR hs)
 ok : ∀ g ∈ hs, g.y.Ok wr w.heap.size
 eq : hs.map fmS = (gs.take i).map fmS
 bel : Below w.heap.size w wr
theorem FL1.first {la : Option Addr} {n lc : Nat} {mk : Int} {gs : List Fm} : FL1 w (w.alloc (.cells #[.slice la n lc, .slice none 0 0, .slice none 0 0, .int .i64 mk, .bool false] 48)) la n lc mk gs 0 (.slice none 0 0) [] :=
 ⟨heap_alloc_new _ _, nil_row, fun g hg => (by cases hg), rfl, balloc (Below.refl _ _)⟩
theorem FL1.still {wr w2 : World} {la : Option Addr} {n lc i : Nat} {mk : Int} {gs hs : List Fm} {v : Value} (h : FL1 w wr la n lc mk gs i v hs) (hb : Below wr.heap.size wr w2) : FL1 w w2 la n lc mk gs i v hs :=
 ⟨blk_up hb h.blk, own_still h.row hb, fun g hg => (h.ok g hg).still hb, h.eq, bstep h.bel hb⟩
theorem FL1.next {wr w6 w7 : World} {la : Option Addr} {n lc i gg cap : Nat} {mk : Int} {gs hs : List Fm} {v : Value} {g : Fm} {y : Bn} (h : FL1 w wr la n lc mk gs i v hs) (hg : gs[i]? = some g) (hb : Below wr.heap.size wr w6) (hy : y.Ok w6 wr.heap.size) (hyb : y.bs = g.y.bs) (ho : w7.ownsRow w.heap.size 55 6 (.slice (some ⟨gg, 0, none⟩) (i + 1) cap) (i + 1) (fmR hs ++ [.int .i64 g.t.e, .int .i64 g.t.l, .int .i64 g.t.i, .int .i64 g.t.c, .int .i64 g.s, y.v])) (hk : Kept w6 w7 (fun j => v.ownBlock = some j)) :
  FL1 w (w7.setCell ⟨w.heap.size, 2, none⟩ (.slice (some ⟨gg, 0, none⟩) (i + 1) cap)) la n lc mk gs (i + 1) (.slice (some ⟨gg, 0, none⟩) (i + 1) cap) (hs ++ [⟨g.t, g.s, y⟩]) := by
 have h6 := h.still hb
 have hvt : ∀ {j t : Nat} {C : Array Value}, w6.heap[j]? = some (.cells C t (0, 0)) -> t ≠ 55 -> ¬ v.ownBlock = some j := fun hj ht e => by
  obtain ⟨C', hC'⟩ := own_ty h6.row e
  exact blk_ne hC' hj (fun e2 => ht e2.symm) rfl
 have hb7 : w7.heap[w.heap.size]? = some (.cells #[.slice la n lc, .slice none 0 0, v, .int .i64 mk, .bool false] 48 (0, 0)) := hk.obj h6.blk (hvt h6.blk (by decide))
 have k1 : Kept w7 (w7.setCell ⟨w.heap.size, 2, none⟩ (.slice (some ⟨gg, 0, none⟩) (i + 1) cap)) (fun j => j = w.heap.size) := kset (P := fun j => j = w.heap.size) _ _ _ _ rfl
 have hbn : ∀ {z : Bn} {B' : Nat}, z.Ok w6 B' -> z.Ok (w7.setCell ⟨w.heap.size, 2, none⟩ (.slice (some ⟨gg, 0, none⟩) (i + 1) cap)) B' := fun {z} {B'} hz => by
  obtain ⟨C, hC, _⟩ := hz.blk
  have h7 := hz.keep hk (hvt hC (by decide))
  obtain ⟨C', hC', _⟩ := h7.blk
  exact h7.keep k1 (blk_ne hC' hb7 (by decide))
 refine ⟨blk_set hb7 rfl, ?_, fun z hz => ?_, ?_, ?_⟩
 ·rw [fmR_snoc]
  refine k1.owns ho fun j hj e => ?_
  obtain ⟨C, hC⟩ := own_ty ho hj
  exact blk_ne hC hb7 (by decide) e
 ·rcases List.mem_append.1 hz with hz | hz
  ·exact hbn (h6.ok z hz)
  ·simp at hz
   subst hz
   have := hbn hy
   exact { this with lo := Nat.le_trans h.bel.size this.lo }
 ·rw [List.map_append, h.eq, List.take_add_one, hg, List.map_append]
  congr 1
  simp [fmS, hyb]
 ·have kk : Kept w6 (w7.setCell ⟨w.heap.size, 2, none⟩ (.slice (some ⟨gg, 0, none⟩) (i + 1) cap)) (fun j => v.ownBlock = some j ∨ j = w.heap.size) := (hk.mono fun j _ e => .inl e).trans (k1.mono fun j _ e => .inr e)
  refine h6.bel.trans (kk.below h6.bel.size fun j hj e => ?_)
  rcases e with e | e
  ·have := (World.ownsRow.lt h6.row j e).1; omega
  ·omega
structure FL2 (w wz wr : World) (B T : Nat) (Y : Pl) (L : Value) (fs : List Fm) (tch : Prop) (i : Nat) (Yi : Pl) : Prop where
 ok : PlOk Yi wr B T
 b : Yi.b = Y.b
 M : Yi.M = Y.M
 ks : Yi.ks = Y.ks
 kv : Yi.kv = Y.kv
 os : Yi.os = Y.os
 ov : Yi.ov = Y.ov
 tn : Yi.tn = Y.tn
 pf : ∀ j, Yi.pf j -> Y.pf j ∨ (∃ f ∈ fs.take i, j = f.y.k) ∨ w.heap.size ≤ j
 kept : Kept wz wr (fun j => j = Y.b ∨ tyP B wz j ∨ (tch /\ ∃ f ∈ fs.take i, j = f.y.k))
theorem nd_take {fs : List Fm} {i : Nat} {f : Fm} (h : (fs.map fun f => f.y.k).Nodup) (hf : fs[i]? = some f) : ¬ ∃ g ∈ fs.take i, f.y.k = g.y.k := by
 rintro ⟨g, hg, e⟩
 obtain ⟨j, hj⟩ := List.mem_iff_getElem?.1 hg
 have hji : j < i := by
  have := (List.getElem?_eq_some_iff.1 hj).1
  simp at this
  omega
 rw [List.getElem?_take, if_pos hji] at hj
 have h1 : (fs.map fun f => f.y.k)[j]? = some g.y.k := by rw [List.getElem?_map, hj]; rfl
 have h2 : (fs.map fun f => f.y.k)[i]? = some f.y.k := by rw [List.getElem?_map, hf]; rfl
 have := (List.getElem?_inj (by have := (List.getElem?_eq_some_iff.1 h1).1; exact this) h).1 (h1.trans (by rw [<- e]; exact h2.symm))
 omega
theorem FL2.take {fs : List Fm} {i : Nat} {f : Fm} (hf : fs[i]? = some f) {j : Nat} : (∃ g ∈ fs.take (i + 1), j = g.y.k) ↔ (∃ g ∈ fs.take i, j = g.y.k) ∨ j = f.y.k := by
 rw [List.take_add_one, hf]
 constructor
 ·rintro ⟨g, hg, e⟩
  rcases List.mem_append.1 hg with hg | hg
  ·exact .inl ⟨g, hg, e⟩
  ·simp at hg; subst hg; exact .inr e
 ·rintro (⟨g, hg, e⟩ | e)
  ·exact ⟨g, List.mem_append_left _ hg, e⟩
  ·exact ⟨f, List.mem_append_right _ (by simp), e⟩
theorem FL2.body {wz wr : World} {la wa : Option Addr} {n lc i : Nat} {fs gs : List Fm} {f : Fm} {tch : Prop} {Yi : Pl} (h : FL2 w wz wr B T Y (.slice la n lc) fs tch i Yi) (hI : FrIn w B Y la n lc fs wa gs) (hPl : PlOk Y w B T) (hz : Below w.heap.size w wz) (hf : fs[i]? = some f) : Body wr B ⟨f.y.k, f.y.bs⟩ /\ ¬ Yi.mo f.y.k /\ ¬ Yi.kf f.y.k /\ ¬ Yi.of f.y.k /\ ¬ Yi.pf f.y.k := by
 have hm : f ∈ fs := List.mem_of_getElem? hf
 have hb := ((hI.bod f hm).1.still hz)
 have hfr := hI.free f.y.k (.inr ⟨f, hm, rfl⟩)
 have hlt : f.y.k < w.heap.size := (hI.lt (.inr ⟨f, hm, rfl⟩)).2
 have hnd := nd_take hI.nd hf
 refine ⟨hb.keep h.kept fun e => ?_, ?_, ?_, ?_, fun e => ?_⟩
 ·rcases e with e | ⟨C, hC⟩ | ⟨_, e⟩
  ·have e' : f.y.k = Y.b := e
   have := blk_up hz hPl.bk.k
   rw [<- e'] at this
   exact blk_ne hb.bk this (by decide) rfl
  ·exact blk_ne hb.bk hC (by decide) rfl
  ·exact hnd e
 ·rintro ⟨k, M, R, hk, hY, ho⟩; exact hfr.1 ⟨k, M, R, hk, by rw [<- h.M]; exact hY, ho⟩
 ·rintro ⟨p, hp, ho⟩; exact hfr.2.1 ⟨p, by rw [<- h.ks]; exact hp, ho⟩
 ·rintro ⟨p, hp, ho⟩; exact hfr.2.2.1 ⟨p, by rw [<- h.os]; exact hp, ho⟩
 ·rcases h.pf _ e with e | e | e
  ·exact hfr.2.2.2 e
  ·exact hnd e
  ·omega
theorem FL2.next {wz wr w2 : World} {la : Option Addr} {n lc i : Nat} {fs : List Fm} {f : Fm} {tch wrt : Prop} {Yi : Pl} (h : FL2 w wz wr B T Y (.slice la n lc) fs tch i Yi) (hz : Below w.heap.size w wz) (hf : fs[i]? = some f) (hw : wrt -> tch) (ho : PgO wr w2 B T Yi f.y.k wrt) : ∃ Y', FL2 w wz w2 B T Y (.slice la n lc) fs tch (i + 1) Y' := by
 obtain ⟨Y', h1, h2, h3, h4, h5, h6, h7, h8, h9, h10⟩ := ho.out
 have hsz : w.heap.size ≤ wr.heap.size := Nat.le_trans hz.size h.kept.size
 refine ⟨Y', h1, h2.trans h.b, h3.trans h.M, h4.trans h.ks, h5.trans h.kv, h6.trans h.os, h7.trans h.ov, h8.trans h.tn, fun j hj => ?_, ?_⟩
 ·rcases h9 j hj with e | e | e
  ·rcases h.pf j e with e | e | e
   ·exact .inl e
   ·exact .inr (.inl ((FL2.take hf).2 (.inl e)))
   ·exact .inr (.inr e)
  ·exact .inr (.inl ((FL2.take hf).2 (.inr e)))
  ·exact .inr (.inr (by omega))
 ·refine (h.kept.mono fun j _ e => e.imp id fun e => e.imp id fun e => ⟨e.1, (FL2.take hf).2 (.inl e.2)⟩).step h10 fun j hj => ?_
  by_cases hjz : j < wz.heap.size
  ·left
   rcases hj with e | ⟨C, hC⟩ | ⟨e, e2⟩
   ·exact .inl (e.trans h.b)
   ·by_cases c : j = Y.b ∨ tyP B wz j ∨ (tch /\ ∃ f ∈ fs.take i, j = f.y.k)
    ·exact c.imp id fun e => e.imp id fun e => ⟨e.1, (FL2.take hf).2 (.inl e.2)⟩
    ·have := h.kept.block j hjz c
     exact .inr (.inl ⟨C, by rw [<- this]; exact hC⟩)
   ·exact .inr (.inr ⟨hw e, (FL2.take hf).2 (.inr e2)⟩)
  ·exact .inr (by omega)
end
section
variable {w w' W : World} {B T : Nat} {Y Yi : Pl}
structure FrOut (w w' : World) (B T : Nat) (Y : Pl) (L : Value) (fs : List Fm) (tch : Prop) : Prop where
 out : ∃ Y', PlOk Y' w' B T /\ Y'.b = Y.b /\ Y'.M = Y.M /\ Y'.os = Y.os /\ Y'.ov = Y.ov /\ Y'.tn = Y.tn /\ (∀ j, Y'.kf j ∨ Y'.pf j -> Y.kf j ∨ Y.pf j ∨ Lset L fs j ∨ w.heap.size ≤ j) /\ Kept w w' (fun j => j = Y.b ∨ tyP B w j ∨ tyK B w j ∨ (tch /\ Lset L fs j))
theorem FL2.still {wz wr w2 : World} {L : Value} {fs : List Fm} {tch : Prop} {i : Nat} (h : FL2 w wz wr B T Y L fs tch i Yi) (hb : Below wr.heap.size wr w2) : FL2 w wz w2 B T Y L fs tch i Yi :=
 { h with ok := h.ok.still hb, kept := h.kept.trans (Kept.ofBelow hb _) }
theorem FL2.first {wz : World} {L : Value} {fs : List Fm} {tch : Prop} (h : PlOk Y wz B T) : FL2 w wz wz B T Y L fs tch 0 Y :=
 ⟨h, rfl, rfl, rfl, rfl, rfl, rfl, rfl, fun j hj => .inl hj, Kept.refl _ _⟩
theorem tyP_up (hz : Below w.heap.size w w') {j : Nat} (hj : j < w.heap.size) (h : tyP B w' j) : tyP B w j := by
 obtain ⟨C, hC⟩ := h
 exact ⟨C, by rw [<- hz.block j hj]; exact hC⟩
theorem FL2.lift {wz wr : World} {la wa : Option Addr} {n lc i : Nat} {fs gs : List Fm} {tch : Prop} (h : FL2 w wz wr B T Y (.slice la n lc) fs tch i Yi) (hPl : PlOk Y w B T) (hI : FrIn w B Y la n lc fs wa gs) (hz : Below w.heap.size w wz) : wr.ownsRow B 55 6 (.slice la n lc) n (fmR fs) := by
 refine h.kept.owns (own_still hI.row hz) fun j hj e => ?_
 obtain ⟨C, hC⟩ := own_ty (own_still hI.row hz) hj
 rcases e with e | ⟨C', hC'⟩ | ⟨_, f, hf, e⟩
 ·have := blk_up hz hPl.bk.k
  rw [<- e] at this
  exact blk_ne hC this (by decide) rfl
 ·exact blk_ne hC hC' (by decide) rfl
 ·have hb := ((hI.bod f (List.mem_of_mem_take hf)).1.still hz).bk
  rw [e] at hC
  exact blk_ne hC hb (by decide) rfl
theorem FL2.up {wz wr : World} {L : Value} {fs : List Fm} {tch : Prop} {i j : Nat} (h : FL2 w wz wr B T Y L fs tch i Yi) (hPl : PlOk Y w B T) (hI : ∀ f ∈ fs, Body w B ⟨f.y.k, f.y.bs⟩) (hz : Below w.heap.size w wz) {C : Array Value} {t : Nat} (hj : wz.heap[j]? = some (.cells C t (0, 0))) (h1 : t ≠ 37) (h2 : t ≠ 89) (h3 : w.heap.size ≤ j ∨ t ≠ 5) : wr.heap[j]? = some (.cells C t (0, 0)) := by
 refine h.kept.obj hj fun e => ?_
 rcases e with e | ⟨C', hC'⟩ | ⟨_, f, hf, e⟩
 ·have := blk_up hz hPl.bk.k
  rw [<- e] at this
  exact blk_ne hj this h1 rfl
 ·exact blk_ne hj hC' h2 rfl
 ·have hb := (hI f (List.mem_of_mem_take hf))
  rcases h3 with h3 | h3
  ·have := hb.bk.lt; have e' : j = f.y.k := e; have : f.y.k < w.heap.size := this; omega
  ·rw [e] at hj; exact blk_ne hj (hb.still hz).bk h3 rfl
theorem fr_fin {wz wr D w7 : World} {la wa : Option Addr} {n lc gg cap : Nat} {fs gs : List Fm} {tch : Prop} {p : Kr} (hPl : PlOk Y w B T) (hI : FrIn w B Y la n lc fs wa gs) (hz : Below w.heap.size w wz) (h2 : FL2 w wz wr B T Y (.slice la n lc) fs tch n Yi) (hq : PlOk Yi D B T) (hkD : Kept wr D (fun j => w.heap.size ≤ j ∨ (tch /\ (Value.slice la n lc).ownBlock = some j))) (hp : KrOK 55 6 30 (-1000000) 0 D B p) (hpL : p.L = .slice la n lc) (hpF : ∀ j, p.F j -> Lset (.slice la n lc) fs j ∨ w.heap.size ≤ j) (hd : p.dn = true -> ∀ j, p.F j -> ¬ Yi.pf j) (hc : Y.ks.length < 24)
  (ho : w7.ownsRow B 48 5 (.slice (some ⟨gg, 0, none⟩) (Y.ks.length + 1) cap) (Y.ks.length + 1) (Y.ks.flatMap Kr.cs ++ p.cs)) (hk : Kept D w7 (fun j => Y.kv.ownBlock = some j)) : FrOut w (w7.setCell ⟨Y.b, 9, none⟩ (.slice (some ⟨gg, 0, none⟩) (Y.ks.length + 1) cap)) B T Y (.slice la n lc) fs tch := by
 have hmo : ∀ j, Yi.mo j ↔ Y.mo j := fun j => by unfold Pl.mo; rw [h2.M]
 have hkf : ∀ j, Yi.kf j ↔ Y.kf j := fun j => by unfold Pl.kf; rw [h2.ks]
 have hfree : ∀ j, Lset (.slice la n lc) fs j ∨ w.heap.size ≤ j -> ¬ Y.mo j /\ ¬ Y.kf j := fun j hj => by
  rcases hj with hj | hj
  ·exact ⟨(hI.free j hj).1, (hI.free j hj).2.1⟩
  ·exact ⟨fun e => by have := (hPl.mo_lt e).2; omega, fun e => by have := (hPl.kf_lt e).2; omega⟩
 have hA := PlOk.addk (w2 := w7) (g := gg) (cap := cap) hq hp (fun j hj e => (hfree j (hpF j hj)).1 ((hmo j).1 e)) (fun q hq2 k hk2 e => (hfree k (hpF k (hp.fl k hk2))).2 ⟨q, by rw [<- h2.ks]; exact hq2, e⟩) (fun q hq2 k hk2 e => (hfree k (hpF k e)).2 ⟨q, by rw [<- h2.ks]; exact hq2, (hq.kok q hq2).fl k hk2⟩) hd (by rw [h2.ks]; exact hc) (by rw [h2.ks]; exact ho) (by rw [h2.kv]; exact hk)
 rw [h2.ks, h2.b] at hA
 refine ⟨_, hA, rfl, h2.M, h2.os, h2.ov, h2.tn, fun j hj => ?_, ?_⟩
 ·rcases hj with ⟨q, hq2, hj⟩ | ⟨g', hg', hj⟩
  ·rcases List.mem_append.1 hq2 with hq2 | hq2
   ·exact .inl ⟨q, hq2, hj⟩
   ·simp at hq2; subst hq2; exact .inr (.inr (hpF j hj))
  ·rcases h2.pf j ⟨g', hg', hj⟩ with e | ⟨f, hf, e⟩ | e
   ·exact .inr (.inl e)
   ·exact .inr (.inr (.inl (.inr ⟨f, List.mem_of_mem_take hf, e⟩)))
   ·exact .inr (.inr (.inr e))
 ·have k0 : Kept w wr (fun j => j = Y.b ∨ tyP B w j ∨ tyK B w j ∨ (tch /\ Lset (.slice la n lc) fs j)) := (Kept.ofBelow hz _).step h2.kept fun j hj => by
   by_cases hjw : j < w.heap.size
   ·left
    rcases hj with e | e | ⟨e1, f, hf, e2⟩
    ·exact .inl e
    ·exact .inr (.inl (tyP_up hz hjw e))
    ·exact .inr (.inr (.inr ⟨e1, .inr ⟨f, List.mem_of_mem_take hf, e2⟩⟩))
   ·exact .inr (by omega)
  have k1 := k0.step hkD fun j hj => by
   rcases hj with e | ⟨e1, e2⟩
   ·exact .inr e
   ·exact .inl (.inr (.inr (.inr ⟨e1, .inl e2⟩)))
  have k2 := k1.step hk fun j hj => .inl (.inr (.inr (.inl (hPl.tyK_of hj))))
  exact k2.trans (kset (P := fun j => j = Y.b ∨ tyP B w j ∨ tyK B w j ∨ (tch /\ Lset (.slice la n lc) fs j)) _ _ _ _ (.inl rfl))
theorem fr_fin0 {wz wr D w7 : World} {la wa : Option Addr} {n lc gg cap : Nat} {mk : Int} {fs gs hs : List Fm} {v : Value} (hPl : PlOk Y w B T) (hB : B ≤ w.heap.size) (hI : FrIn w B Y la n lc fs wa gs) (h1 : FL1 w wz la n lc mk gs n v hs) (h2 : FL2 w wz wr B T Y (.slice la n lc) fs False n Yi) (hm : -1000000 ≤ mk /\ mk ≤ 0) (hc : Y.ks.length < 24) (hD : Below wr.heap.size wr D)
  (ho : w7.ownsRow B 48 5 (.slice (some ⟨gg, 0, none⟩) (Y.ks.length + 1) cap) (Y.ks.length + 1) (Y.ks.flatMap Kr.cs ++ [.slice la n lc, .slice none 0 0, v, .int .i64 mk, .bool false])) (hk : Kept D w7 (fun j => Y.kv.ownBlock = some j)) : FrOut w (w7.setCell ⟨Y.b, 9, none⟩ (.slice (some ⟨gg, 0, none⟩) (Y.ks.length + 1) cap)) B T Y (.slice la n lc) fs False := by
 obtain ⟨va, vc, rfl⟩ := row_shape' h1.row
 have hbo : ∀ f ∈ fs, Body w B ⟨f.y.k, f.y.bs⟩ := fun f hf => (hI.bod f hf).1
 have hL := own_still (h2.lift hPl hI h1.bel) hD
 have hV : D.ownsRow B 55 6 (.slice va n vc) n (fmR hs) := own_lower (own_still (h2.kept.owns h1.row fun j hj e => by
  obtain ⟨C, hC⟩ := own_ty h1.row hj
  rcases e with e | ⟨C', hC'⟩ | ⟨e, _⟩
  ·have := blk_up h1.bel hPl.bk.k
   rw [<- e] at this
   exact blk_ne hC this (by decide) rfl
  ·exact blk_ne hC hC' (by decide) rfl
  ·exact e) hD) hB
 have hlo : ∀ j, (Value.slice va n vc).ownBlock = some j -> w.heap.size ≤ j := fun j hj => (World.ownsRow.lt h1.row j hj).1
 have hgl : gs.length = n := hI.len.2
 have heq : fs.map fmS = hs.map fmS := by rw [h1.eq, List.take_of_length_le (by omega)]; exact hI.eq
 have hfk : ∀ f ∈ fs, f.y.Ok D B := fun f hf => by
  have hb := hI.bod f hf
  have h3 : D.heap[f.y.k]? = _ := blk_up hD (h2.kept.obj (blk_up h1.bel hb.1.bk) fun e => by
   have hbz := blk_up h1.bel hb.1.bk
   rcases e with e | ⟨C', hC'⟩ | ⟨e, _⟩
   ·have := blk_up h1.bel hPl.bk.k
    have e' : f.y.k = Y.b := e
    rw [<- e'] at this
    exact blk_ne hbz this (by decide) rfl
   ·exact blk_ne hbz hC' (by decide) rfl
   ·exact e)
  have h4 : Body D B ⟨f.y.k, f.y.bs⟩ := ⟨h3, hb.1.by_, hb.1.pos, hb.1.le, hb.1.lo⟩
  have e3 : (⟨f.y.k, f.y.bs.length, f.y.bs⟩ : Bn) = f.y := by rw [<- hb.2]
  rw [<- e3]
  exact h4.bn
 have hhk : ∀ g ∈ hs, g.y.Ok D B := fun g hg => by
  have h3 := h1.ok g hg
  have h4 := (h3.keep h2.kept fun e => by
   obtain ⟨C, hC, _⟩ := h3.blk
   rcases e with e | ⟨C', hC'⟩ | ⟨e, _⟩
   ·have := blk_up h1.bel hPl.bk.k
    have e' : g.y.k = Y.b := e
    rw [<- e'] at this
    exact blk_ne hC this (by decide) rfl
   ·exact blk_ne hC hC' (by decide) rfl
   ·exact e).still hD
  exact { h4 with lo := Nat.le_trans hB h4.lo }
 refine fr_fin hPl hI h1.bel h2 (h2.ok.still hD) (Kept.ofBelow hD _) (kr_fresh hL hV hfk hhk heq (by have := hI.n1; omega) hm) rfl (fun j hj => ?_) (fun e => by cases e) hc ho hk
 rcases hj with hj | hj | ⟨f, hf, e⟩ | ⟨g, hg, e⟩
 ·exact .inl (.inl hj)
 ·exact .inr (hlo j hj)
 ·exact .inl (.inr ⟨f, hf, e⟩)
 ·rw [e]; exact .inr (h1.ok g hg).lo
theorem PlOk.pf_ty (h : PlOk Y w B T) {j : Nat} (hj : Y.pf j) : ∃ C, w.heap[j]? = some (.cells C 5 (0, 0)) := by
 obtain ⟨g, hg, hh⟩ := hj
 exact Bk.holds_type (h.bk.ok g hg) hh
theorem fr_keep1 {wz wr wr2 : World} {la wa : Option Addr} {n lc : Nat} {mk : Int} {fs gs hs : List Fm} {v : Value} {cur : Array Value} (hPl : PlOk Y w B T) (hI : FrIn w B Y la n lc fs wa gs) (h1 : FL1 w wz la n lc mk gs n v hs) (h2 : FL2 w wz wr B T Y (.slice la n lc) fs True n Yi) (hb : wr.heap[w.heap.size]? = some (.cells cur 48 (0, 0))) (k : Kept wr wr2 (fun j => j = w.heap.size ∨ (Value.slice la n lc).ownBlock = some j)) : PlOk Yi wr2 B T := by
 have hL := h2.lift hPl hI h1.bel
 refine h2.ok.keep k fun j hj => ?_
 rcases hj with rfl | hj
 ·refine ⟨fun e => ?_, fun e => ?_, fun e => ?_, fun e => ?_, fun e => ?_, fun e => ?_, fun e => ?_, fun e => ?_⟩
  ·have := h2.ok.bk.k; rw [<- e] at this; exact blk_ne hb this (by decide) rfl
  ·obtain ⟨C, hC⟩ := h2.ok.rowp_ne e; exact blk_ne hb hC (by decide) rfl
  ·rw [h2.kv] at e; have := (World.ownsRow.lt hPl.rk _ e).2; omega
  ·obtain ⟨C, hC⟩ := h2.ok.rowo_ne e; exact blk_ne hb hC (by decide) rfl
  ·have : Y.mo w.heap.size := by unfold Pl.mo at e ⊢; rw [h2.M] at e; exact e
   have := (hPl.mo_lt this).2; omega
  ·have : Y.kf w.heap.size := by unfold Pl.kf at e ⊢; rw [h2.ks] at e; exact e
   have := (hPl.kf_lt this).2; omega
  ·have : Y.of w.heap.size := by unfold Pl.of at e ⊢; rw [h2.os] at e; exact e
   have := (hPl.of_lt this).2; omega
  ·obtain ⟨C, hC⟩ := h2.ok.pf_ty e; exact blk_ne hb hC (by decide) rfl
 ·obtain ⟨CL, hCL⟩ := own_ty hL hj
  have hfr := hI.free j (.inl hj)
  refine ⟨fun e => ?_, fun e => ?_, fun e => ?_, fun e => ?_, fun e => ?_, fun e => ?_, fun e => ?_, fun e => ?_⟩
  ·have := h2.ok.bk.k; rw [<- e] at this; exact blk_ne hCL this (by decide) rfl
  ·obtain ⟨C, hC⟩ := h2.ok.rowp_ne e; exact blk_ne hCL hC (by decide) rfl
  ·obtain ⟨C, hC⟩ := h2.ok.rowk_ne e; exact blk_ne hCL hC (by decide) rfl
  ·obtain ⟨C, hC⟩ := h2.ok.rowo_ne e; exact blk_ne hCL hC (by decide) rfl
  ·exact hfr.1 (by unfold Pl.mo at e ⊢; rw [h2.M] at e; exact e)
  ·exact hfr.2.1 (by unfold Pl.kf at e ⊢; rw [h2.ks] at e; exact e)
  ·exact hfr.2.2.1 (by unfold Pl.of at e ⊢; rw [h2.os] at e; exact e)
  ·obtain ⟨C, hC⟩ := h2.ok.pf_ty e; exact blk_ne hCL hC (by decide) rfl
theorem fr_fin1 {wz wr wr2 D w7 : World} {la wa ga : Option Addr} {n lc gc gg cap : Nat} {mk : Int} {fs gs hs : List Fm} {v : Value} {cur : Array Value} {xs ys : List Value} (hPl : PlOk Y w B T) (hI : FrIn w B Y la n lc fs wa gs) (h1 : FL1 w wz la n lc mk gs n v hs) (h2 : FL2 w wz wr B T Y (.slice la n lc) fs True n Yi) (hb : wr.heap[w.heap.size]? = some (.cells cur 48 (0, 0))) (k : Kept wr wr2 (fun j => j = w.heap.size ∨ (Value.slice la n lc).ownBlock = some j)) (hdn : DnF wr2 la ga n mk) (hx : wr2.ownsRow B 55 6 (.slice la n lc) n xs) (hy : wr2.ownsRow B 55 6 (.slice ga (n + 64) gc) (n + 64) ys) (hg : ∀ g, (Value.slice ga (n + 64) gc).ownBlock = some g -> (Value.slice la n lc).ownBlock = some g ∨ wr.heap.size ≤ g) (hm : -1000000 ≤ mk /\ mk ≤ 0) (hc : Y.ks.length < 24) (hD : Below wr2.heap.size wr2 D)
  (ho : w7.ownsRow B 48 5 (.slice (some ⟨gg, 0, none⟩) (Y.ks.length + 1) cap) (Y.ks.length + 1) (Y.ks.flatMap Kr.cs ++ [.slice la n lc, .slice ga (n + 64) gc, v, .int .i64 mk, .bool true])) (hk : Kept D w7 (fun j => Y.kv.ownBlock = some j)) : FrOut w (w7.setCell ⟨Y.b, 9, none⟩ (.slice (some ⟨gg, 0, none⟩) (Y.ks.length + 1) cap)) B T Y (.slice la n lc) fs True := by
 obtain ⟨va, vc, rfl⟩ := row_shape' h1.row
 have hq := (fr_keep1 hPl hI h1 h2 hb k).still hD
 have hsz : w.heap.size ≤ wr.heap.size := Nat.le_trans h1.bel.size h2.kept.size
 have hKr := kr_done (va := va) (vn := n) (vc := vc) hdn hx hy (by have := hI.n1; omega) hm
 have hKD := hKr.keep (Kept.ofBelow hD (fun _ => False)) fun _ _ => id
 refine fr_fin hPl hI h1.bel h2 hq ((k.mono fun j _ e => e.imp (fun e => by omega) fun e => ⟨trivial, e⟩).trans (Kept.ofBelow hD _)) hKD rfl (fun j hj => ?_) (fun _ j hj e => ?_) hc ho hk
 ·rcases hj with hj | hj
  ·exact .inl (.inl hj)
  ·exact (hg j hj).elim (fun h => .inl (.inl h)) fun h => .inr (by omega)
 ·obtain ⟨C, hC⟩ := hq.pf_ty e
  rcases hj with hj | hj
  ·obtain ⟨C', hC'⟩ := own_ty (own_still hx hD) hj; exact blk_ne hC' hC (by decide) rfl
  ·obtain ⟨C', hC'⟩ := own_ty (own_still hy hD) hj; exact blk_ne hC' hC (by decide) rfl
theorem fr_full {wz : World} {la wa : Option Addr} {n lc : Nat} {fs gs : List Fm} {tch : Prop} (hPl : PlOk Y w B T) (hz : Below w.heap.size w wz) : FrOut w wz B T Y (.slice la n lc) fs tch :=
 ⟨Y, hPl.still hz, rfl, rfl, rfl, rfl, rfl, fun j hj => hj.elim .inl fun h => .inr (.inl h), Kept.ofBelow hz _⟩
theorem kept_info : ∃ i : TypeInfo, Try.prog.info? 48 = some i /\ i.zero = some (.agg #[.slice none 0 0, .slice none 0 0, .slice none 0 0, .int .i64 0, .bool false]) /\ i.size = 5 /\ i.bytes = 88 := by
 have h : (Try.prog.info? 48).map (fun i => (i.zero, i.size, i.bytes)) = some (some (.agg #[.slice none 0 0, .slice none 0 0, .slice none 0 0, .int .i64 0, .bool false]), 5, 88) := by kernel_rfl
 cases hq : Try.prog.info? 48 with
 | none => rw [hq] at h; cases h
 | some i => rw [hq] at h; simp at h; exact ⟨i, rfl, h.1, h.2.1, h.2.2⟩
theorem step_pushK {ops : Array Oper} {o : Oper} {a : Act} {K : Act -> World -> Prop} {Q : Exit -> Act -> World -> Prop} {E : Prop} (hgd : o.guard = none) (s x : Operand)
  (ho : o.op = .call { callee := .builtin .append, args := #[s, x], argTypes := #[34, 34] })
  (w0 : World) (v : Value) (vals : List Value) (L : List Value) (hL : L.length = 5) (hL1 : ∀ u ∈ L, u.oneCell' = true) (hs : a.eval s = v) (n : Nat) (hown : w0.ownsRow B 48 5 v n vals) (hw : w = w0.alloc (.cells L.toArray 48)) (hx : a.eval x = .slice (some ⟨w0.heap.size, 0, none⟩) 1 1)
  (hn : n + 1 ≤ 1000000) (hbase : B ≤ w0.heap.size)
  (h : ∀ g cap w', w'.ownsRow B 48 5 (.slice (some ⟨g, 0, none⟩) (n + 1) cap) (n + 1) (vals ++ L) -> Kept w0 w' (fun k => v.ownBlock = some k) -> (v.ownBlock = some g ∨ w0.heap.size ≤ g) -> g < w'.heap.size -> K (a.put o.dst (.slice (some ⟨g, 0, none⟩) (n + 1) cap)) w') : if Region.wanted o (yielded ops a.tmps) = true then Oper.wp Try.prog o a w K Q else E := by
 obtain ⟨i0, hi, hz0, hz1, hz2⟩ := kept_info
 subst hw
 refine step_append_lies _ hgd s x 34 ho B 48 i0 (.agg #[.slice none 0 0, .slice none 0 0, .slice none 0 0, .int .i64 0, .bool false]) 5 88 Try.underlying34 hi hz0 hz1 hz2 rfl (by decide) v n vals hs (World.ownsRow.alloc hown _) ⟨w0.heap.size, 0, none⟩ 1 1 L hx (by rw [hL]) (fun j y hy => by rw [Addr.add_mid, Nat.zero_add, bC (heap_alloc_new _ _), List.getElem?_toArray, hy]) hL1 (by omega) (by unfold maxLen; omega) (by omega) (by simp; omega) _ rfl fun g cap w' h2 h3 h4 h5 => h g cap w' h2 ?_ ?_ h5
 ·exact (Kept.ofBelow ((Below.refl _ w0).alloc (Nat.le_refl _) (.cells L.toArray 48)) _).step (Kept.ofGrown h3) (fun j hj => .inl hj.symm)
 ·rcases h4 with h4 | h4
  ·exact .inl h4
  ·right; rw [h4]; simp
theorem kr_one (a1 a2 a3 : Option Addr) (n1 n2 n3 c1 c2 c3 : Nat) (m : Int) (b : Bool) : ∀ u ∈ ([.slice a1 n1 c1, .slice a2 n2 c2, .slice a3 n3 c3, .int .i64 m, .bool b] : List Value), u.oneCell' = true := by
 intro u hu
 simp only [List.mem_cons, List.not_mem_nil, or_false] at hu
 rcases hu with rfl | rfl | rfl | rfl | rfl <;> rfl
end
section
variable {w w' W : World} {B : Nat}
structure RdL (w : World) (v : Value) (l : List Bn) : Prop where
 sh : ∃ a c, v = .slice a l.length c
 at_ : 0 < l.length -> ∃ g c, v = .slice (some ⟨g, 0, none⟩) l.length c /\ ∀ i y, l[i]? = some y -> w.cell? ⟨g, i, none⟩ = some y.v
 ok : ∀ y ∈ l, y.Ok w 0
theorem RdL.of {v : Value} {l : List Bn} (h : w.ownsRow B 40 1 v l.length (l.map Bn.v)) (hk : ∀ y ∈ l, y.Ok w B) : RdL w v l := by
 refine ⟨row_shape' h, fun hp => ?_, fun y hy => { hk y hy with lo := Nat.zero_le _ }⟩
 rcases h.2 with ⟨h1, h2⟩ | ⟨g, cap, cur, hv, _⟩
 ·omega
 ·refine ⟨g, cap, hv, fun i y hy => ?_⟩
  rw [hv] at h
  have hi : i < l.length := by
   rcases Nat.lt_or_ge i l.length with hi | hi
   ·exact hi
   ·rw [List.getElem?_eq_none hi] at hy; cases hy
  rw [World.ownsRow.cellAt h i (by omega), List.getElem?_map, hy]
  rfl
theorem lists_yes {v1 v2 : Value} {l1 l2 : List Bn} (h1 : RdL w v1 l1) (h2 : RdL w v2 l2) (he : l1.map Bn.bs = l2.map Bn.bs) (hn : l1.length ≤ 1000000) : Calls Try.prog 80 #[v1, v2] w fun e w' => e = .returned (.bool true) /\ Below w.heap.size w w' := by
 obtain ⟨n, hl1⟩ : ∃ n, l1.length = n := ⟨_, rfl⟩
 have hl2 : l2.length = n := by have := congrArg List.length he; rw [List.length_map, List.length_map] at this; omega
 by_cases hz : n = 0
 ·obtain ⟨a1, c1, rfl⟩ := h1.sh
  obtain ⟨a2, c2, rfl⟩ := h2.sh
  rw [hl1, hl2, hz]
  clear hl1 hl2 hz h1 h2 he hn
  go_enter Try.func80, Try.ntmps80
  go_wp2
  go_loopw [5] (fun v5 wr => v5 = .int .i64 0 /\ wr = w) (fun v5 _ => 0)
  case atStart => exact ⟨rfl, rfl⟩
  case round =>
   obtain ⟨rfl, rfl⟩ := hrel
   go_wp2
   go_ret
   exact ⟨rfl, Below.refl _ _⟩
 obtain ⟨g1, c1, rfl, hc1⟩ := h1.at_ (by omega)
 obtain ⟨g2, c2, rfl, hc2⟩ := h2.at_ (by omega)
 rw [hl1, hl2]
 have hn' : n ≤ 1000000 := by omega
 have HEl : Hid (∀ i, i < n -> ∃ y1 y2, l1[i]? = some y1 /\ l2[i]? = some y2 /\ y1.bs = y2.bs) := fun i hi => (show ∃ y1 y2, _ from by
  have a1 := List.getElem?_eq_getElem (l := l1) (i := i) (by omega)
  have a2 := List.getElem?_eq_getElem (l := l2) (i := i) (by omega)
  refine ⟨_, _, a1, a2, ?_⟩
  have h3 := congrArg (fun l => l[i]?) he
  simp only [List.getElem?_map, a1, a2, Option.map_some, Option.some.injEq] at h3
  exact h3)
 have HC1 : Hid (∀ i y, l1[i]? = some y -> w.cell? ⟨g1, i, none⟩ = some y.v) := hc1
 have HC2 : Hid (∀ i y, l2[i]? = some y -> w.cell? ⟨g2, i, none⟩ = some y.v) := hc2
 have HO1 : Hid (∀ y ∈ l1, y.Ok w 0) := h1.ok
 have HO2 : Hid (∀ y ∈ l2, y.Ok w 0) := h2.ok
 clear hc1 hc2 h1 h2 he hl1 hl2 hn
 go_enter Try.func80, Try.ntmps80
 go_wp2
 go_loopw [5] (fun v5 wr => ∃ i : Nat, i ≤ n /\ v5 = .int .i64 (i : Int) /\ Hid (Below w.heap.size w wr)) (fun v5 _ => n - (intOf v5).toNat)
 case atStart => exact ⟨0, by omega, rfl, Below.refl _ _⟩
 case round =>
  obtain ⟨i, hi1, rfl, hb⟩ := hrel
  by_cases hlt : i < n
  ·have i1 : (0 : Int) ≤ (i : Int) := Int.natCast_nonneg _
   have i2 : (i : Int) < (n : Int) := by omega
   obtain ⟨y1, y2, e1', e2', hbs⟩ := HEl.out i hlt
   have o1 := (HO1.out y1 (List.mem_of_getElem? e1')).still hb.out
   have o2 := (HO2.out y2 (List.mem_of_getElem? e2')).still hb.out
   obtain ⟨k1, hk1⟩ : ∃ k, y1.k = k := ⟨_, rfl⟩
   obtain ⟨k2, hk2⟩ : ∃ k, y2.k = k := ⟨_, rfl⟩
   obtain ⟨e1, he1⟩ : ∃ k, y1.c = k := ⟨_, rfl⟩
   obtain ⟨e2, he2⟩ : ∃ k, y2.c = k := ⟨_, rfl⟩
   obtain ⟨m, hm⟩ : ∃ k, y1.bs.length = k := ⟨_, rfl⟩
   have q1 : wr.cell? ⟨g1, i, none⟩ = some (.slice (some ⟨k1, 0, none⟩) m e1) := by have := bA hb.out (HC1.out i y1 e1'); unfold Bn.v at this; rw [hk1, hm, he1] at this; exact this
   have q2 : wr.cell? ⟨g2, i, none⟩ = some (.slice (some ⟨k2, 0, none⟩) m e2) := by have := bA hb.out (HC2.out i y2 e2'); unfold Bn.v at this; rw [hk2, <- hbs, hm, he2] at this; exact this
   have HSm : Hid (∀ D, Below wr.heap.size wr D -> Calls Try.prog 27 #[.slice (some ⟨k1, 0, none⟩) m e1, .slice (some ⟨k2, 0, none⟩) m e2] D fun e w' => e = .returned (.bool true) /\ Below D.heap.size D w') := fun D hb => (show Calls _ _ _ _ _ from by
    have r1 := (o1.still hb).rd
    have r2 := (o2.still hb).rd
    rw [hk1, he1, hm] at r1
    rw [hk2, he2, <- hbs, hm] at r2
    exact same_eq r1 r2 (by have := o1.le; omega))
   have HB : Hid (Below w.heap.size w wr) := hb
   clear o1 o2 hk1 hk2 he1 he2 hm hbs e1' e2' hb
   go_wp2
   refine wp_region_held_drew (S := (fun w' => w'.cell? ⟨g1, i, none⟩ = some (.slice (some ⟨k1, 0, none⟩) m e1) /\ w'.cell? ⟨g2, i, none⟩ = some (.slice (some ⟨k2, 0, none⟩) m e2))) (by kernel_rfl) ⟨bA (dB _) q1, bA (dB _) q2⟩ (fun hH => ?_)
   simp only [Act.put, lA, lC, lN, zA]
   refine wG 0 (.slice (some ⟨g1, 0, none⟩) n c1) rfl hH ?_
   simp only [aP, gA, gZ, gC, sA, sZ, sC]
   refine wG 1 (.int .i64 (i : Int)) rfl hH ?_
   simp only [aP, gA, gZ, gC, sA, sZ, sC]
   refine wG 2 (.pointer (some ⟨g1, i, none⟩)) rfl hH ?_
   simp only [aP, gA, gZ, gC, sA, sZ, sC]
   refine wL 3 (.slice (some ⟨k1, 0, none⟩) m e1) rfl hH ?_
   simp only [aP, gA, gZ, gC, sA, sZ, sC]
   refine wG 4 (.slice (some ⟨g2, 0, none⟩) n c2) rfl hH ?_
   simp only [aP, gA, gZ, gC, sA, sZ, sC]
   refine wG 5 (.int .i64 (i : Int)) rfl hH ?_
   simp only [aP, gA, gZ, gC, sA, sZ, sC]
   refine wG 6 (.pointer (some ⟨g2, i, none⟩)) rfl hH ?_
   simp only [aP, gA, gZ, gC, sA, sZ, sC]
   refine wL 7 (.slice (some ⟨k2, 0, none⟩) m e2) rfl hH ?_
   simp only [aP, gA, gZ, gC, sA, sZ, sC]
   have hbD : Below wr.heap.size wr wr.drew := dB _
   have p1 := bA hbD q1
   have p2 := bA hbD q2
   generalize wr.drew = D0 at *
   refine rY 8 rfl fun K hK => ?_
   go_simp
   refine (HSm.out D0 hbD).mono ?_
   rintro e w2 ⟨rfl, hb2⟩
   refine hK.out _ _ ⟨bA hb2 p1, bA hb2 p2⟩ (fun hH => ?_)
   clear hK K
   refine wG 9 (.bool false) rfl hH ?_
   simp only [aP, gA, gZ, gC, sA, sZ, sC]
   refine wpAnyH_done (by kernel_rfl) ?_ _
   clear hH
   have HBn : Hid (Below w.heap.size w w2) := (show Below _ _ _ from bstep (bstep HB.out hbD) hb2)
   clear hb2 hbD p1 p2 q1 q2 HSm
   go_wp2
   exact ⟨⟨i + 1, by omega, by go_num, HBn⟩, by simp [intOf]; omega⟩
  ·have i2 : ¬ (i : Int) < (n : Int) := by omega
   have HB : Hid (Below w.heap.size w wr) := hb
   clear hb
   go_wp2
   go_ret
   exact ⟨rfl, HB.out⟩
end
section
variable {w w' W : World} {B T : Nat} {Y Yi : Pl}
def tyO (B : Nat) (w : World) (j : Nat) : Prop := ∃ C : { C : Array Value // B ≤ j }, w.heap[j]? = some (.cells C.1 51 (0, 0))
theorem PlOk.tyO_of (h : PlOk Y w B T) {j : Nat} (hj : Y.ov.ownBlock = some j) : tyO B w j := by
 obtain ⟨C, hC⟩ := h.rowo_ne hj
 exact ⟨⟨C, (World.ownsRow.lt h.ro j hj).1⟩, hC⟩
def OLset (L : Value) (ys : List Bn) (j : Nat) : Prop := L.ownBlock = some j ∨ ∃ y ∈ ys, j = y.k
structure BIn (w : World) (B : Nat) (Y : Pl) (la : Option Addr) (n lc : Nat) (ys : List Bn) (wa : Option Addr) (os : List Bn) : Prop where
 row : w.ownsRow B 40 1 (.slice la n lc) n (ys.map Bn.v)
 bod : ∀ y ∈ ys, Body w B ⟨y.k, y.bs⟩ /\ y.c = y.bs.length
 nd : (ys.map Bn.k).Nodup
 free : ∀ j, OLset (.slice la n lc) ys j -> ¬ Y.mo j /\ ¬ Y.kf j /\ ¬ Y.of j /\ ¬ Y.pf j
 wrow : ∃ Bw wc, w.ownsRow Bw 40 1 (.slice wa n wc) n (os.map Bn.v)
 wok : ∀ z ∈ os, z.Ok w B
 wfr : ∀ z ∈ os, ∀ y ∈ ys, z.k ≠ y.k
 eq : ys.map Bn.bs = os.map Bn.bs
 n1 : n ≤ 1000
theorem BIn.len {la wa : Option Addr} {n lc : Nat} {ys os : List Bn} (h : BIn w B Y la n lc ys wa os) : ys.length = n /\ os.length = n := by
 have h1 := congrArg List.length h.eq
 rw [List.length_map, List.length_map] at h1
 obtain ⟨Bw, wc, h3⟩ := h.wrow
 have h2 := h3.1
 rw [List.length_map] at h2
 omega
theorem BIn.lt {la wa : Option Addr} {n lc : Nat} {ys os : List Bn} (h : BIn w B Y la n lc ys wa os) {j : Nat} (hj : OLset (.slice la n lc) ys j) : B ≤ j /\ j < w.heap.size := by
 rcases hj with hj | ⟨f, hf, rfl⟩
 ·exact World.ownsRow.lt h.row j hj
 ·exact ⟨(h.bod f hf).1.lo, (h.bod f hf).1.bk.lt⟩
theorem BIn.keep {la wa : Option Addr} {n lc : Nat} {ys os : List Bn} {P : Nat -> Prop} {Y' : Pl} (h : BIn w B Y la n lc ys wa os) (k : Kept w w' P) (h1 : ∀ {j t : Nat} {C : Array Value}, w.heap[j]? = some (.cells C t (0, 0)) -> t = 40 ∨ t = 5 -> ¬ P j) (hM : Y'.M = Y.M) (hk : Y'.ks = Y.ks) (ho : Y'.os = Y.os) (hp : Y'.ps = Y.ps) : BIn w' B Y' la n lc ys wa os := by
 obtain ⟨Bw, wc, h3⟩ := h.wrow
 refine { h with row := k.owns h.row fun j hj => ?_, bod := fun y hy => ⟨(h.bod y hy).1.keep k (h1 (h.bod y hy).1.bk (.inr rfl)), (h.bod y hy).2⟩, free := fun j hj => ?_, wrow := ⟨Bw, wc, k.owns h3 fun j hj => ?_⟩, wok := fun z hz => (h.wok z hz).keep k ?_ }
 ·obtain ⟨C, hC⟩ := own_ty h.row hj; exact h1 hC (.inl rfl)
 ·have := h.free j hj
  unfold Pl.mo Pl.kf Pl.of Pl.pf at this ⊢
  rw [hM, hk, ho, hp]
  exact this
 ·obtain ⟨C, hC⟩ := own_ty h3 hj; exact h1 hC (.inl rfl)
 ·obtain ⟨C, hC, _⟩ := (h.wok z hz).blk; exact h1 hC (.inr rfl)
structure BL (w wr : World) (B T : Nat) (Y : Pl) (L : Value) (mk : Int) (ys os : List Bn) (tch : Prop) (a i : Nat) (v : Value) (zs : List Bn) (Yi : Pl) : Prop where
 blk : wr.heap[w.heap.size]? = some (.cells #[L, .slice none 0 0, v, .int .i64 mk, .bool false] 51 (0, 0))
 row : wr.ownsRow w.heap.size 40 1 v a (zs.map Bn.v)
 zok : ∀ z ∈ zs, z.Ok wr w.heap.size
 eq : zs.map Bn.bs = (os.take a).map Bn.bs
 ok : PlOk Yi wr B T
 b : Yi.b = Y.b
 M : Yi.M = Y.M
 ks : Yi.ks = Y.ks
 kv : Yi.kv = Y.kv
 os : Yi.os = Y.os
 ov : Yi.ov = Y.ov
 tn : Yi.tn = Y.tn
 pf : ∀ j, Yi.pf j -> Y.pf j ∨ (∃ y ∈ ys.take i, j = y.k) ∨ w.heap.size ≤ j
 kept : Kept w wr (fun j => j = Y.b ∨ tyP B w j ∨ (tch /\ ∃ y ∈ ys.take i, j = y.k))
theorem BL.first {L : Value} {mk : Int} {ys os : List Bn} {tch : Prop} (h : PlOk Y w B T) : BL w (w.alloc (.cells #[L, .slice none 0 0, .slice none 0 0, .int .i64 mk, .bool false] 51)) B T Y L mk ys os tch 0 0 (.slice none 0 0) [] Y :=
 ⟨heap_alloc_new _ _, nil_row, fun g hg => (by cases hg), rfl, h.still (balloc (Below.refl _ _)), rfl, rfl, rfl, rfl, rfl, rfl, rfl, fun j hj => .inl hj, Kept.ofBelow (balloc (Below.refl _ _)) _⟩
theorem BL.still {wr w2 : World} {L v : Value} {mk : Int} {ys os zs : List Bn} {tch : Prop} {a i : Nat} (h : BL w wr B T Y L mk ys os tch a i v zs Yi) (hb : Below wr.heap.size wr w2) : BL w w2 B T Y L mk ys os tch a i v zs Yi :=
 { h with blk := blk_up hb h.blk, row := own_still h.row hb, zok := fun g hg => (h.zok g hg).still hb, ok := h.ok.still hb, kept := h.kept.trans (Kept.ofBelow hb _) }
theorem BL.app {wr w6 w7 : World} {L v : Value} {mk : Int} {ys os zs : List Bn} {tch : Prop} {i gg cap : Nat} {o y : Bn} (h : BL w wr B T Y L mk ys os tch i i v zs Yi) (hPl : PlOk Y w B T) (ho : os[i]? = some o) (hb : Below wr.heap.size wr w6) (hy : y.Ok w6 wr.heap.size) (hyb : y.bs = o.bs) (hro : w7.ownsRow w.heap.size 40 1 (.slice (some ⟨gg, 0, none⟩) (i + 1) cap) (i + 1) (zs.map Bn.v ++ [y.v])) (hk : Kept w6 w7 (fun j => v.ownBlock = some j)) :
  BL w (w7.setCell ⟨w.heap.size, 2, none⟩ (.slice (some ⟨gg, 0, none⟩) (i + 1) cap)) B T Y L mk ys os tch (i + 1) i (.slice (some ⟨gg, 0, none⟩) (i + 1) cap) (zs ++ [y]) Yi := by
 have h6 := h.still hb
 have hsz := h6.kept.size
 have hvt : ∀ {j t : Nat} {C : Array Value}, w6.heap[j]? = some (.cells C t (0, 0)) -> t ≠ 40 -> ¬ v.ownBlock = some j := fun hj ht e => by
  obtain ⟨C', hC'⟩ := own_ty h6.row e
  exact blk_ne hC' hj (fun e2 => ht e2.symm) rfl
 have hb7 : w7.heap[w.heap.size]? = some (.cells #[L, .slice none 0 0, v, .int .i64 mk, .bool false] 51 (0, 0)) := hk.obj h6.blk (hvt h6.blk (by decide))
 have k1 : Kept w7 (w7.setCell ⟨w.heap.size, 2, none⟩ (.slice (some ⟨gg, 0, none⟩) (i + 1) cap)) (fun j => j = w.heap.size) := kset (P := fun j => j = w.heap.size) _ _ _ _ rfl
 have kk : Kept w6 (w7.setCell ⟨w.heap.size, 2, none⟩ (.slice (some ⟨gg, 0, none⟩) (i + 1) cap)) (fun j => v.ownBlock = some j ∨ j = w.heap.size) := (hk.mono fun j _ e => .inl e).trans (k1.mono fun j _ e => .inr e)
 have hlo : ∀ j, (v.ownBlock = some j ∨ j = w.heap.size) -> w.heap.size ≤ j := fun j hj => hj.elim (fun e => (World.ownsRow.lt h6.row j e).1) (fun e => by omega)
 have hbn : ∀ {z : Bn} {B' : Nat}, z.Ok w6 B' -> z.Ok (w7.setCell ⟨w.heap.size, 2, none⟩ (.slice (some ⟨gg, 0, none⟩) (i + 1) cap)) B' := fun {z} {B'} hz => by
  obtain ⟨C, hC, _⟩ := hz.blk
  exact hz.keep kk fun e => e.elim (hvt hC (by decide)) fun e => blk_ne hC h6.blk (by decide) e
 refine { h6 with blk := blk_set hb7 rfl, row := ?_, zok := fun z hz => ?_, eq := ?_, ok := h6.ok.keep kk fun j hj => ?_, kept := h6.kept.step kk fun j hj => .inr (hlo j hj) }
 ·rw [List.map_append]
  refine k1.owns hro fun j hj e => ?_
  obtain ⟨C, hC⟩ := own_ty hro hj
  exact blk_ne hC hb7 (by decide) e
 ·rcases List.mem_append.1 hz with hz | hz
  ·exact hbn (h6.zok z hz)
  ·simp at hz
   subst hz
   have := hbn hy
   exact { this with lo := Nat.le_trans h.kept.size this.lo }
 ·rw [List.map_append, h.eq, List.take_add_one, ho, List.map_append]
  congr 1
  simp [hyb]
 ·have h1 := hlo j hj
  have hty : ∃ C t, w6.heap[j]? = some (.cells C t (0, 0)) /\ (t = 40 ∨ t = 51) := by
   rcases hj with hj | rfl
   ·obtain ⟨C, hC⟩ := own_ty h6.row hj; exact ⟨C, _, hC, .inl rfl⟩
   ·exact ⟨_, _, h6.blk, .inr rfl⟩
  obtain ⟨C, t, hC, ht⟩ := hty
  refine ⟨fun e => ?_, fun e => ?_, fun e => ?_, fun e => ?_, fun e => ?_, fun e => ?_, fun e => ?_, fun e => ?_⟩
  ·have := h6.ok.bk.k; rw [<- e] at this; exact blk_ne hC this (by rcases ht with rfl | rfl <;> decide) rfl
  ·obtain ⟨C', hC'⟩ := h6.ok.rowp_ne e; exact blk_ne hC hC' (by rcases ht with rfl | rfl <;> decide) rfl
  ·obtain ⟨C', hC'⟩ := h6.ok.rowk_ne e; exact blk_ne hC hC' (by rcases ht with rfl | rfl <;> decide) rfl
  ·rw [h6.ov] at e; have := (World.ownsRow.lt hPl.ro _ e).2; omega
  ·have : Y.mo j := by unfold Pl.mo at e ⊢; rw [h6.M] at e; exact e
   have := (hPl.mo_lt this).2; omega
  ·have : Y.kf j := by unfold Pl.kf at e ⊢; rw [h6.ks] at e; exact e
   have := (hPl.kf_lt this).2; omega
  ·have : Y.of j := by unfold Pl.of at e ⊢; rw [h6.os] at e; exact e
   have := (hPl.of_lt this).2; omega
  ·obtain ⟨C', hC'⟩ := h6.ok.pf_ty e; exact blk_ne hC hC' (by rcases ht with rfl | rfl <;> decide) rfl
theorem ndb_take {ys : List Bn} {i : Nat} {y : Bn} (h : (ys.map Bn.k).Nodup) (hf : ys[i]? = some y) : ¬ ∃ g ∈ ys.take i, y.k = g.k := by
 rintro ⟨g, hg, e⟩
 obtain ⟨j, hj⟩ := List.mem_iff_getElem?.1 hg
 have hji : j < i := by
  have := (List.getElem?_eq_some_iff.1 hj).1
  simp at this
  omega
 rw [List.getElem?_take, if_pos hji] at hj
 have h1 : (ys.map Bn.k)[j]? = some g.k := by rw [List.getElem?_map, hj]; rfl
 have h2 : (ys.map Bn.k)[i]? = some y.k := by rw [List.getElem?_map, hf]; rfl
 have := (List.getElem?_inj (by have := (List.getElem?_eq_some_iff.1 h1).1; exact this) h).1 (h1.trans (by rw [<- e]; exact h2.symm))
 omega
theorem BL.take {ys : List Bn} {i : Nat} {f : Bn} (hf : ys[i]? = some f) {j : Nat} : (∃ g ∈ ys.take (i + 1), j = g.k) ↔ (∃ g ∈ ys.take i, j = g.k) ∨ j = f.k := by
 rw [List.take_add_one, hf]
 constructor
 ·rintro ⟨g, hg, e⟩
  rcases List.mem_append.1 hg with hg | hg
  ·exact .inl ⟨g, hg, e⟩
  ·simp at hg; subst hg; exact .inr e
 ·rintro (⟨g, hg, e⟩ | e)
  ·exact ⟨g, List.mem_append_left _ hg, e⟩
  ·exact ⟨f, List.mem_append_right _ (by simp), e⟩
theorem BL.body {wr : World} {la wa : Option Addr} {n lc i a : Nat} {v : Value} {mk : Int} {ys os zs : List Bn} {f : Bn} {tch : Prop} (h : BL w wr B T Y (.slice la n lc) mk ys os tch a i v zs Yi) (hI : BIn w B Y la n lc ys wa os) (hPl : PlOk Y w B T) (hf : ys[i]? = some f) : Body wr B ⟨f.k, f.bs⟩ /\ ¬ Yi.mo f.k /\ ¬ Yi.kf f.k /\ ¬ Yi.of f.k /\ ¬ Yi.pf f.k := by
 have hm : f ∈ ys := List.mem_of_getElem? hf
 have hb := (hI.bod f hm).1
 have hfr := hI.free f.k (.inr ⟨f, hm, rfl⟩)
 have hlt : f.k < w.heap.size := (hI.lt (.inr ⟨f, hm, rfl⟩)).2
 have hnd := ndb_take hI.nd hf
 refine ⟨hb.keep h.kept fun e => ?_, ?_, ?_, ?_, fun e => ?_⟩
 ·rcases e with e | ⟨C, hC⟩ | ⟨_, e⟩
  ·have e' : f.k = Y.b := e
   have := hPl.bk.k
   rw [<- e'] at this
   exact blk_ne hb.bk this (by decide) rfl
  ·exact blk_ne hb.bk hC (by decide) rfl
  ·exact hnd e
 ·rintro ⟨k, M, R, hk, hY, ho⟩; exact hfr.1 ⟨k, M, R, hk, by rw [<- h.M]; exact hY, ho⟩
 ·rintro ⟨p, hp, ho⟩; exact hfr.2.1 ⟨p, by rw [<- h.ks]; exact hp, ho⟩
 ·rintro ⟨p, hp, ho⟩; exact hfr.2.2.1 ⟨p, by rw [<- h.os]; exact hp, ho⟩
 ·rcases h.pf _ e with e | e | e
  ·exact hfr.2.2.2 e
  ·exact hnd e
  ·omega
theorem BL.page {wr w2 : World} {la wa : Option Addr} {n lc i : Nat} {v : Value} {mk : Int} {ys os zs : List Bn} {f : Bn} {tch wrt : Prop} (h : BL w wr B T Y (.slice la n lc) mk ys os tch (i + 1) i v zs Yi) (hI : BIn w B Y la n lc ys wa os) (hPl : PlOk Y w B T) (hf : ys[i]? = some f) (hw : wrt -> tch) (ho : PgO wr w2 B T Yi f.k wrt) : ∃ Y', BL w w2 B T Y (.slice la n lc) mk ys os tch (i + 1) (i + 1) v zs Y' := by
 obtain ⟨Y', h1, h2, h3, h4, h5, h6, h7, h8, h9, h10⟩ := ho.out
 have hsz : w.heap.size ≤ wr.heap.size := h.kept.size
 have hlt : f.k < w.heap.size := (hI.lt (.inr ⟨f, List.mem_of_getElem? hf, rfl⟩)).2
 have hne : ∀ {j t : Nat} {C : Array Value}, wr.heap[j]? = some (.cells C t (0, 0)) -> t ≠ 37 -> t ≠ 89 -> w.heap.size ≤ j -> ¬ (j = Yi.b ∨ tyP B wr j ∨ (wrt /\ j = f.k)) := fun hj t1 t2 hl e => by
  rcases e with e | ⟨C', hC'⟩ | ⟨_, e⟩
  ·have := h.ok.bk.k; rw [<- e] at this; exact blk_ne hj this t1 rfl
  ·exact blk_ne hj hC' t2 rfl
  ·omega
 refine ⟨Y', h10.obj h.blk (hne h.blk (by decide) (by decide) (Nat.le_refl _)), h10.owns h.row fun j hj => ?_, fun z hz => (h.zok z hz).keep h10 ?_, h.eq, h1, h2.trans h.b, h3.trans h.M, h4.trans h.ks, h5.trans h.kv, h6.trans h.os, h7.trans h.ov, h8.trans h.tn, fun j hj => ?_, ?_⟩
 ·obtain ⟨C, hC⟩ := own_ty h.row hj
  exact hne hC (by decide) (by decide) (World.ownsRow.lt h.row j hj).1
 ·obtain ⟨C, hC, _⟩ := (h.zok z hz).blk
  exact hne hC (by decide) (by decide) (h.zok z hz).lo
 ·rcases h9 j hj with e | e | e
  ·rcases h.pf j e with e | e | e
   ·exact .inl e
   ·exact .inr (.inl ((BL.take hf).2 (.inl e)))
   ·exact .inr (.inr e)
  ·exact .inr (.inl ((BL.take hf).2 (.inr e)))
  ·exact .inr (.inr (by omega))
 ·refine (h.kept.mono fun j _ e => e.imp id fun e => e.imp id fun e => ⟨e.1, (BL.take hf).2 (.inl e.2)⟩).step h10 fun j hj => ?_
  by_cases hjz : j < w.heap.size
  ·left
   rcases hj with e | ⟨C, hC⟩ | ⟨e, e2⟩
   ·exact .inl (e.trans h.b)
   ·by_cases c : j = Y.b ∨ tyP B w j ∨ (tch /\ ∃ y ∈ ys.take i, j = y.k)
    ·exact c.imp id fun e => e.imp id fun e => ⟨e.1, (BL.take hf).2 (.inl e.2)⟩
    ·have := h.kept.block j hjz c
     exact .inr (.inl ⟨C, by rw [<- this]; exact hC⟩)
   ·exact .inr (.inr ⟨hw e, (BL.take hf).2 (.inr e2)⟩)
  ·exact .inr (by omega)
theorem BL.lift {wr : World} {la wa : Option Addr} {n lc i a : Nat} {v : Value} {mk : Int} {ys os zs : List Bn} {tch : Prop} (h : BL w wr B T Y (.slice la n lc) mk ys os tch a i v zs Yi) (hPl : PlOk Y w B T) (hI : BIn w B Y la n lc ys wa os) : wr.ownsRow B 40 1 (.slice la n lc) n (ys.map Bn.v) := by
 refine h.kept.owns hI.row fun j hj e => ?_
 obtain ⟨C, hC⟩ := own_ty hI.row hj
 rcases e with e | ⟨C', hC'⟩ | ⟨_, f, hf, e⟩
 ·have := hPl.bk.k
  rw [<- e] at this
  exact blk_ne hC this (by decide) rfl
 ·exact blk_ne hC hC' (by decide) rfl
 ·have hb := (hI.bod f (List.mem_of_mem_take hf)).1.bk
  rw [e] at hC
  exact blk_ne hC hb (by decide) rfl
theorem BL.want {wr : World} {la wa : Option Addr} {n lc i a : Nat} {v : Value} {mk : Int} {ys os zs : List Bn} {tch : Prop} (h : BL w wr B T Y (.slice la n lc) mk ys os tch a i v zs Yi) (hPl : PlOk Y w B T) (hI : BIn w B Y la n lc ys wa os) : (∃ Bw wc, wr.ownsRow Bw 40 1 (.slice wa n wc) n (os.map Bn.v)) /\ ∀ z ∈ os, z.Ok wr B := by
 obtain ⟨Bw, wc, h3⟩ := hI.wrow
 refine ⟨⟨Bw, wc, h.kept.owns h3 fun j hj e => ?_⟩, fun z hz => (hI.wok z hz).keep h.kept fun e => ?_⟩
 ·obtain ⟨C, hC⟩ := own_ty h3 hj
  rcases e with e | ⟨C', hC'⟩ | ⟨_, f, hf, e⟩
  ·have := hPl.bk.k
   rw [<- e] at this
   exact blk_ne hC this (by decide) rfl
  ·exact blk_ne hC hC' (by decide) rfl
  ·have hb := (hI.bod f (List.mem_of_mem_take hf)).1.bk
   rw [e] at hC
   exact blk_ne hC hb (by decide) rfl
 ·obtain ⟨C, hC, _⟩ := (hI.wok z hz).blk
  rcases e with e | ⟨C', hC'⟩ | ⟨_, f, hf, e⟩
  ·have := hPl.bk.k
   have e' : z.k = Y.b := e
   rw [<- e'] at this
   exact blk_ne hC this (by decide) rfl
  ·exact blk_ne hC hC' (by decide) rfl
  ·exact hI.wfr z hz f (List.mem_of_mem_take hf) e
end
end Go.Proofs.Ythanifbimndhaaa.Ln
