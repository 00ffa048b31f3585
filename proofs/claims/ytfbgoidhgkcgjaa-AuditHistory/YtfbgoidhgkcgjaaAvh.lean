import Derived.Test.YtfbgoidhgkcgjaaAvg
namespace Go.Proofs.Ytfbgoidhgkcgjaa.Lo
open Go.RowKit Go.Maps
set_option linter.unusedVariables false
set_option linter.unusedSimpArgs false
section
variable {w w' W : World} {B : Nat} {P : Nat → Prop}
theorem Fo.on {t s : Nat} {gs : Nat → Nat × Nat} {ln : Nat → Nat} {cs : Nat → List Value} {j : Nat} (h : Fo w B t s gs ln cs j) (hb : Below w.heap.size w w') : Fo w' B t s gs ln cs j := h.keep (Mb.Kept.ofBelow hb (fun _ => False)) (fun q hq => hq.elim)
theorem Lz.on {W wr : World} {B xb : Nat} {l : List Mk} {n0 n1 n2 n3 : Nat} {La : Option Addr} {Lc : Nat} {Ma : Option Addr} {Mc : Nat} {Ta : Option Addr} {Tc : Nat} {Ba : Option Addr} {Bc : Nat} {l' : List Mk} {gm gt gb : Nat → Nat × Nat} (h : Lz W wr B xb l n0 n1 n2 n3 La Lc Ma Mc Ta Tc Ba Bc l' gm gt gb) (hb : Below wr.heap.size wr w') : Lz W w' B xb l n0 n1 n2 n3 La Lc Ma Mc Ta Tc Ba Bc l' gm gt gb := h.keep (Mb.Kept.ofBelow hb (fun _ => False)) (fun q hq => hq.elim) (fun q hq => hq.elim)
theorem Lz.addM {W wr : World} {B xb : Nat} {l : List Mk} {n0 n2 n3 j : Nat} {La : Option Addr} {Lc : Nat} {Ma : Option Addr} {Mc : Nat} {Ta : Option Addr} {Tc : Nat} {Ba : Option Addr} {Bc : Nat} {l' : List Mk} {gm gt gb : Nat → Nat × Nat} (h : Lz W wr B xb l n0 j n2 n3 La Lc Ma Mc Ta Tc Ba Bc l' gm gt gb) {w1 Y : World} {g cc : Nat} {A2 : Option Addr} {C2 : Nat} (hj : n0 ≤ j) (hq : wr.ownsRow B 52 3 (.slice (some ⟨g, 0, none⟩) ((l.getD j mk0).mn + 64) cc) ((l.getD j mk0).mn + 64) (Mb.ints (pcQ (l.getD j mk0).ms 64)))
    (ho : w1.ownsRow B 44 1 (.slice A2 (j + 1) C2) (j + 1) (fl2 gm (fun i => (l.getD i mk0).mn) j ++ [.slice (some ⟨g, 0, none⟩) ((l.getD j mk0).mn + 64) cc])) (kk : Mb.Kept wr w1 (fun k => (Value.slice Ma j Mc).ownBlock = some k)) (hY : w1.setCell ⟨xb, 1, none⟩ (.slice A2 (j + 1) C2) = Y) : Lz W Y B xb l n0 (j + 1) n2 n3 La Lc A2 C2 Ta Tc Ba Bc l' (fun i => if i = j then (g, cc) else gm i) gt gb := by
  subst hY
  have hT := blk_app h.t h.m (by decide) kk
  have k8 : Mb.Kept w1 (w1.setCell ⟨xb, 1, none⟩ (.slice A2 (j + 1) C2)) (fun q => q = xb) := Mb.kset w1 xb _ _ rfl
  have ow : ∀ {t s n : Nat} {v : Value} {xs : List Value}, wr.ownsRow B t s v n xs → 44 ≠ t → 34 ≠ t → (w1.setCell ⟨xb, 1, none⟩ (.slice A2 (j + 1) C2)).ownsRow B t s v n xs := fun h1 h2 h3 => ow_ne (ow_app h1 h.m h2 kk) hT h3 k8
  have fo : ∀ {t s m : Nat} {gs : Nat → Nat × Nat} {ln : Nat → Nat} {cs : Nat → List Value}, Fo wr B t s gs ln cs m → 44 ≠ t → 34 ≠ t → Fo (w1.setCell ⟨xb, 1, none⟩ (.slice A2 (j + 1) C2)) B t s gs ln cs m := fun h1 h2 h3 => (h1.keep kk (fun q hq C u hC => by have := ow_type h.m hq hC; subst this; exact h2)).keep k8 (fun q hq C u hC => by have hq' : q = xb := hq; subst hq'; rw [hT] at hC; simp at hC; rw [← hC.2]; exact h3)
  have hr : w1.ownsRow B 44 1 (.slice A2 (j + 1) C2) (j + 1) (fl2 (fun i => if i = j then (g, cc) else gm i) (fun i => (l.getD i mk0).mn) (j + 1)) := by rw [fl2_succ]; exact ho
  have hb1 : Below B W w1 := h.b.trans (kk.below (hBs h) (fun k hk e => by have := (World.ownsRow.lt h.m k e).1; omega))
  refine ⟨Mb.blk_set hT rfl, (ow h.o (by decide) (by decide)), (ow_ne hr hT (by decide) k8), (ow h.r (by decide) (by decide)), (ow h.y (by decide) (by decide)), ((fo h.fm (by decide) (by decide)).add (ow hq (by decide) (by decide))), (fo h.ft (by decide) (by decide)), (fo h.fb (by decide) (by decide)), fun i hi => ?_, hb1.trans (kn k8 h.z (Nat.le_trans h.z (Nat.le_of_lt (Mb.lt_heap hT)))), h.z⟩
  rw [h.s i hi]
  simp only [if_neg (show ¬ i = j by omega)]
theorem Lz.addT {W wr : World} {B xb : Nat} {l : List Mk} {n0 n1 n3 j : Nat} {La : Option Addr} {Lc : Nat} {Ma : Option Addr} {Mc : Nat} {Ta : Option Addr} {Tc : Nat} {Ba : Option Addr} {Bc : Nat} {l' : List Mk} {gm gt gb : Nat → Nat × Nat} (h : Lz W wr B xb l n0 n1 j n3 La Lc Ma Mc Ta Tc Ba Bc l' gm gt gb) {w1 Y : World} {g cc : Nat} {A2 : Option Addr} {C2 : Nat} (hj : n0 ≤ j) (hq : wr.ownsRow B 3 1 (.slice (some ⟨g, 0, none⟩) ((l.getD j mk0).tn + 64) cc) ((l.getD j mk0).tn + 64) (Mb.ints (pcL (l.getD j mk0).ts 64)))
    (ho : w1.ownsRow B 23 1 (.slice A2 (j + 1) C2) (j + 1) (fl2 gt (fun i => (l.getD i mk0).tn) j ++ [.slice (some ⟨g, 0, none⟩) ((l.getD j mk0).tn + 64) cc])) (kk : Mb.Kept wr w1 (fun k => (Value.slice Ta j Tc).ownBlock = some k)) (hY : w1.setCell ⟨xb, 2, none⟩ (.slice A2 (j + 1) C2) = Y) : Lz W Y B xb l n0 n1 (j + 1) n3 La Lc Ma Mc A2 C2 Ba Bc l' gm (fun i => if i = j then (g, cc) else gt i) gb := by
  subst hY
  have hT := blk_app h.t h.r (by decide) kk
  have k8 : Mb.Kept w1 (w1.setCell ⟨xb, 2, none⟩ (.slice A2 (j + 1) C2)) (fun q => q = xb) := Mb.kset w1 xb _ _ rfl
  have ow : ∀ {t s n : Nat} {v : Value} {xs : List Value}, wr.ownsRow B t s v n xs → 23 ≠ t → 34 ≠ t → (w1.setCell ⟨xb, 2, none⟩ (.slice A2 (j + 1) C2)).ownsRow B t s v n xs := fun h1 h2 h3 => ow_ne (ow_app h1 h.r h2 kk) hT h3 k8
  have fo : ∀ {t s m : Nat} {gs : Nat → Nat × Nat} {ln : Nat → Nat} {cs : Nat → List Value}, Fo wr B t s gs ln cs m → 23 ≠ t → 34 ≠ t → Fo (w1.setCell ⟨xb, 2, none⟩ (.slice A2 (j + 1) C2)) B t s gs ln cs m := fun h1 h2 h3 => (h1.keep kk (fun q hq C u hC => by have := ow_type h.r hq hC; subst this; exact h2)).keep k8 (fun q hq C u hC => by have hq' : q = xb := hq; subst hq'; rw [hT] at hC; simp at hC; rw [← hC.2]; exact h3)
  have hr : w1.ownsRow B 23 1 (.slice A2 (j + 1) C2) (j + 1) (fl2 (fun i => if i = j then (g, cc) else gt i) (fun i => (l.getD i mk0).tn) (j + 1)) := by rw [fl2_succ]; exact ho
  have hb1 : Below B W w1 := h.b.trans (kk.below (hBs h) (fun k hk e => by have := (World.ownsRow.lt h.r k e).1; omega))
  refine ⟨Mb.blk_set hT rfl, (ow h.o (by decide) (by decide)), (ow h.m (by decide) (by decide)), (ow_ne hr hT (by decide) k8), (ow h.y (by decide) (by decide)), (fo h.fm (by decide) (by decide)), ((fo h.ft (by decide) (by decide)).add (ow hq (by decide) (by decide))), (fo h.fb (by decide) (by decide)), fun i hi => ?_, hb1.trans (kn k8 h.z (Nat.le_trans h.z (Nat.le_of_lt (Mb.lt_heap hT)))), h.z⟩
  rw [h.s i hi]
  simp only [if_neg (show ¬ i = j by omega)]
theorem Lz.addB {W wr : World} {B xb : Nat} {l : List Mk} {n0 n1 n2 j : Nat} {La : Option Addr} {Lc : Nat} {Ma : Option Addr} {Mc : Nat} {Ta : Option Addr} {Tc : Nat} {Ba : Option Addr} {Bc : Nat} {l' : List Mk} {gm gt gb : Nat → Nat × Nat} (h : Lz W wr B xb l n0 n1 n2 j La Lc Ma Mc Ta Tc Ba Bc l' gm gt gb) {w1 Y : World} {g cc : Nat} {A2 : Option Addr} {C2 : Nat} (hj : n0 ≤ j) (hq : wr.ownsRow B 5 1 (.slice (some ⟨g, 0, none⟩) ((l.getD j mk0).bn + 64) cc) ((l.getD j mk0).bn + 64) (Ln.byts (pcB (l.getD j mk0).bs 64)))
    (ho : w1.ownsRow B 45 1 (.slice A2 (j + 1) C2) (j + 1) (fl2 gb (fun i => (l.getD i mk0).bn) j ++ [.slice (some ⟨g, 0, none⟩) ((l.getD j mk0).bn + 64) cc])) (kk : Mb.Kept wr w1 (fun k => (Value.slice Ba j Bc).ownBlock = some k)) (hY : w1.setCell ⟨xb, 3, none⟩ (.slice A2 (j + 1) C2) = Y) : Lz W Y B xb l n0 n1 n2 (j + 1) La Lc Ma Mc Ta Tc A2 C2 l' gm gt (fun i => if i = j then (g, cc) else gb i) := by
  subst hY
  have hT := blk_app h.t h.y (by decide) kk
  have k8 : Mb.Kept w1 (w1.setCell ⟨xb, 3, none⟩ (.slice A2 (j + 1) C2)) (fun q => q = xb) := Mb.kset w1 xb _ _ rfl
  have ow : ∀ {t s n : Nat} {v : Value} {xs : List Value}, wr.ownsRow B t s v n xs → 45 ≠ t → 34 ≠ t → (w1.setCell ⟨xb, 3, none⟩ (.slice A2 (j + 1) C2)).ownsRow B t s v n xs := fun h1 h2 h3 => ow_ne (ow_app h1 h.y h2 kk) hT h3 k8
  have fo : ∀ {t s m : Nat} {gs : Nat → Nat × Nat} {ln : Nat → Nat} {cs : Nat → List Value}, Fo wr B t s gs ln cs m → 45 ≠ t → 34 ≠ t → Fo (w1.setCell ⟨xb, 3, none⟩ (.slice A2 (j + 1) C2)) B t s gs ln cs m := fun h1 h2 h3 => (h1.keep kk (fun q hq C u hC => by have := ow_type h.y hq hC; subst this; exact h2)).keep k8 (fun q hq C u hC => by have hq' : q = xb := hq; subst hq'; rw [hT] at hC; simp at hC; rw [← hC.2]; exact h3)
  have hr : w1.ownsRow B 45 1 (.slice A2 (j + 1) C2) (j + 1) (fl2 (fun i => if i = j then (g, cc) else gb i) (fun i => (l.getD i mk0).bn) (j + 1)) := by rw [fl2_succ]; exact ho
  have hb1 : Below B W w1 := h.b.trans (kk.below (hBs h) (fun k hk e => by have := (World.ownsRow.lt h.y k e).1; omega))
  refine ⟨Mb.blk_set hT rfl, (ow h.o (by decide) (by decide)), (ow h.m (by decide) (by decide)), (ow h.r (by decide) (by decide)), (ow_ne hr hT (by decide) k8), (fo h.fm (by decide) (by decide)), (fo h.ft (by decide) (by decide)), ((fo h.fb (by decide) (by decide)).add (ow hq (by decide) (by decide))), fun i hi => ?_, hb1.trans (kn k8 h.z (Nat.le_trans h.z (Nat.le_of_lt (Mb.lt_heap hT)))), h.z⟩
  rw [h.s i hi]
  simp only [if_neg (show ¬ i = j by omega)]
theorem getM_last (l : List Mk) (e : Mk) : (l ++ [e]).getD l.length mk0 = e := by
  rw [List.getD_eq_getElem?_getD, List.getElem?_append_right (Nat.le_refl _)]
  simp
theorem getM_app (l : List Mk) (e : Mk) {i : Nat} (h : i < l.length) : (l ++ [e]).getD i mk0 = l.getD i mk0 := by
  rw [List.getD_eq_getElem?_getD, List.getElem?_append_left h, List.getD_eq_getElem?_getD]
theorem Lz.addL {W wr : World} {B xb : Nat} {l : List Mk} {n1 n2 n3 j : Nat} {La : Option Addr} {Lc : Nat} {Ma : Option Addr} {Mc : Nat} {Ta : Option Addr} {Tc : Nat} {Ba : Option Addr} {Bc : Nat} {l' : List Mk} {gm gt gb : Nat → Nat × Nat} (h : Lz W wr B xb l j n1 n2 n3 La Lc Ma Mc Ta Tc Ba Bc l' gm gt gb) {w1 Y : World} {A2 : Option Addr} {C2 : Nat}
    (ho : OwM w1 B (.slice A2 (j + 1) C2) (l' ++ [lz (l.getD j mk0) (gm j) (gt j) (gb j)])) (kk : Mb.Kept wr w1 (fun k => (Value.slice La j Lc).ownBlock = some k)) (hY : w1.setCell ⟨xb, 0, none⟩ (.slice A2 (j + 1) C2) = Y) : Lz W Y B xb l (j + 1) n1 n2 n3 A2 C2 Ma Mc Ta Tc Ba Bc (l' ++ [lz (l.getD j mk0) (gm j) (gt j) (gb j)]) gm gt gb := by
  subst hY
  have hT := blk_app h.t h.o (by decide) kk
  have k8 : Mb.Kept w1 (w1.setCell ⟨xb, 0, none⟩ (.slice A2 (j + 1) C2)) (fun q => q = xb) := Mb.kset w1 xb _ _ rfl
  have ow : ∀ {t s n : Nat} {v : Value} {xs : List Value}, wr.ownsRow B t s v n xs → 50 ≠ t → 34 ≠ t → (w1.setCell ⟨xb, 0, none⟩ (.slice A2 (j + 1) C2)).ownsRow B t s v n xs := fun h1 h2 h3 => ow_ne (ow_app h1 h.o h2 kk) hT h3 k8
  have fo : ∀ {t s m : Nat} {gs : Nat → Nat × Nat} {ln : Nat → Nat} {cs : Nat → List Value}, Fo wr B t s gs ln cs m → 50 ≠ t → 34 ≠ t → Fo (w1.setCell ⟨xb, 0, none⟩ (.slice A2 (j + 1) C2)) B t s gs ln cs m := fun h1 h2 h3 => (h1.keep kk (fun q hq C u hC => by have := ow_type h.o hq hC; subst this; exact h2)).keep k8 (fun q hq C u hC => by have hq' : q = xb := hq; subst hq'; rw [hT] at hC; simp at hC; rw [← hC.2]; exact h3)
  have hb1 : Below B W w1 := h.b.trans (kk.below (hBs h) (fun k hk e => by have := (World.ownsRow.lt h.o k e).1; omega))
  have hl : l'.length = j := h.o.rd.len
  refine ⟨Mb.blk_set hT rfl, ow_ne ho hT (by decide) k8, (ow h.m (by decide) (by decide)), (ow h.r (by decide) (by decide)), (ow h.y (by decide) (by decide)), (fo h.fm (by decide) (by decide)), (fo h.ft (by decide) (by decide)), (fo h.fb (by decide) (by decide)), fun i hi => ?_, hb1.trans (kn k8 h.z (Nat.le_trans h.z (Nat.le_of_lt (Mb.lt_heap hT)))), h.z⟩
  by_cases e : i = j
  · subst e
    rw [← hl, getM_last, hl]
  · rw [getM_app _ _ (by omega)]
    exact h.s i (by omega)
structure MkF (w : World) (la : Option Addr) (n : Nat) (l : List Mk) : Prop where
  r : MkR w la n l
  m : ∀ i, i < n → RdM w (l.getD i mk0).ma (l.getD i mk0).mn (l.getD i mk0).mc (l.getD i mk0).ms ∧ (l.getD i mk0).mn * 24 ≤ 140737488351232
  t : ∀ i, i < n → Ri w (l.getD i mk0).ta (l.getD i mk0).tn (l.getD i mk0).tc (l.getD i mk0).ts ∧ (l.getD i mk0).tn * 8 ≤ 140737488351232
  b : ∀ i, i < n → Ln.Rd w (l.getD i mk0).ba (l.getD i mk0).bn (l.getD i mk0).bc (l.getD i mk0).bs ∧ ((l.getD i mk0).ba = none → (l.getD i mk0).bn = 0 ∧ (l.getD i mk0).bc = 0) ∧ (l.getD i mk0).bn ≤ 140737488351232
  z : n * 288 ≤ 140737488351232
theorem MkF.on {la : Option Addr} {n : Nat} {l : List Mk} (h : MkF w la n l) (hb : Below w.heap.size w w') : MkF w' la n l :=
  ⟨h.r.on hb, fun i hi => ⟨(h.m i hi).1.on hb, (h.m i hi).2⟩, fun i hi => ⟨(h.t i hi).1.below hb, (h.t i hi).2⟩, fun i hi => ⟨(h.b i hi).1.still hb, (h.b i hi).2⟩, h.z⟩
end
end Go.Proofs.Ytfbgoidhgkcgjaa.Lo
