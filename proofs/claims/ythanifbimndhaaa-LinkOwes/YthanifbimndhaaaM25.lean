import Derived.Test.YthanifbimndhaaaM24
namespace Go.Proofs.Ythanifbimndhaaa.Ln
set_option maxHeartbeats 40000000
open Go.RowKit Mb
set_option linter.unusedVariables false
set_option maxRecDepth 100000
set_option linter.unusedSimpArgs false
section
variable {w w' W : World} {B T : Nat} {Y Yi : Pl}
structure BdOut (w w' : World) (B T : Nat) (Y : Pl) (L : Value) (ys : List Bn) : Prop where
 out : ∃ Y', PlOk Y' w' B T /\ Y'.b = Y.b /\ Y'.M = Y.M /\ Y'.tn = Y.tn /\ Y'.os.length = Y.os.length + 1 /\ Y'.ks = Y.ks /\ (∀ j, Y'.of j ∨ Y'.pf j -> Y.of j ∨ Y.pf j ∨ OLset L ys j ∨ w.heap.size ≤ j) /\ Kept w w' (fun j => j = Y.b ∨ tyP B w j ∨ tyO B w j ∨ OLset L ys j)
theorem bd_fin {wr D w7 : World} {la wa : Option Addr} {n lc gg cap : Nat} {v : Value} {mk : Int} {ys os zs : List Bn} {tch : Prop} {p : Kr} (hPl : PlOk Y w B T) (hI : BIn w B Y la n lc ys wa os) (h2 : BL w wr B T Y (.slice la n lc) mk ys os tch n n v zs Yi) (hq : PlOk Yi D B T) (hkD : Kept wr D (fun j => w.heap.size ≤ j ∨ (Value.slice la n lc).ownBlock = some j)) (hp : KrOK 40 1 31 0 255 D B p) (hpF : ∀ j, p.F j -> OLset (.slice la n lc) ys j ∨ w.heap.size ≤ j) (hd : p.dn = true -> ∀ j, p.F j -> ¬ Yi.pf j) (hc : Y.os.length < 24)
  (ho : w7.ownsRow B 51 5 (.slice (some ⟨gg, 0, none⟩) (Y.os.length + 1) cap) (Y.os.length + 1) (Y.os.flatMap Kr.cs ++ p.cs)) (hk : Kept D w7 (fun j => Y.ov.ownBlock = some j)) : BdOut w (w7.setCell ⟨Y.b, 10, none⟩ (.slice (some ⟨gg, 0, none⟩) (Y.os.length + 1) cap)) B T Y (.slice la n lc) ys := by
 have hmo : ∀ j, Yi.mo j ↔ Y.mo j := fun j => by unfold Pl.mo; rw [h2.M]
 have hfree : ∀ j, OLset (.slice la n lc) ys j ∨ w.heap.size ≤ j -> ¬ Y.mo j /\ ¬ Y.of j := fun j hj => by
  rcases hj with hj | hj
  ·exact ⟨(hI.free j hj).1, (hI.free j hj).2.2.1⟩
  ·exact ⟨fun e => by have := (hPl.mo_lt e).2; omega, fun e => by have := (hPl.of_lt e).2; omega⟩
 have hA := PlOk.addo (w2 := w7) (g := gg) (cap := cap) hq hp (fun j hj e => (hfree j (hpF j hj)).1 ((hmo j).1 e)) (fun q hq2 k hk2 e => (hfree k (hpF k (hp.fl k hk2))).2 ⟨q, by rw [<- h2.os]; exact hq2, e⟩) (fun q hq2 k hk2 e => (hfree k (hpF k e)).2 ⟨q, by rw [<- h2.os]; exact hq2, (hq.ook q hq2).fl k hk2⟩) hd (by rw [h2.os]; exact hc) (by rw [h2.os]; exact ho) (by rw [h2.ov]; exact hk)
 rw [h2.os, h2.b] at hA
 refine ⟨_, hA, rfl, h2.M, h2.tn, by simp, h2.ks, fun j hj => ?_, ?_⟩
 ·rcases hj with ⟨q, hq2, hj⟩ | ⟨g', hg', hj⟩
  ·rcases List.mem_append.1 hq2 with hq2 | hq2
   ·exact .inl ⟨q, hq2, hj⟩
   ·simp at hq2; subst hq2; exact .inr (.inr (hpF j hj))
  ·rcases h2.pf j ⟨g', hg', hj⟩ with e | ⟨f, hf, e⟩ | e
   ·exact .inr (.inl e)
   ·exact .inr (.inr (.inl (.inr ⟨f, List.mem_of_mem_take hf, e⟩)))
   ·exact .inr (.inr (.inr e))
 have k0 : Kept w wr (fun j => j = Y.b ∨ tyP B w j ∨ tyO B w j ∨ OLset (.slice la n lc) ys j) := h2.kept.mono fun j _ e => by
  rcases e with e | e | ⟨_, f, hf, e2⟩
  ·exact .inl e
  ·exact .inr (.inl e)
  ·exact .inr (.inr (.inr (.inr ⟨f, List.mem_of_mem_take hf, e2⟩)))
 have k1 := k0.step hkD fun j hj => hj.elim .inr fun e => .inl (.inr (.inr (.inr (.inl e))))
 have k2 := k1.step hk fun j hj => .inl (.inr (.inr (.inl (hPl.tyO_of hj))))
 exact k2.trans (kset (P := fun j => j = Y.b ∨ tyP B w j ∨ tyO B w j ∨ OLset (.slice la n lc) ys j) _ _ _ _ (.inl rfl))
theorem bd_fin0 {wr D w7 : World} {la wa : Option Addr} {n lc gg cap : Nat} {v : Value} {mk : Int} {ys os zs : List Bn} (hPl : PlOk Y w B T) (hI : BIn w B Y la n lc ys wa os) (h2 : BL w wr B T Y (.slice la n lc) mk ys os False n n v zs Yi) (hm : 0 ≤ mk /\ mk ≤ 255) (hc : Y.os.length < 24) (hD : Below wr.heap.size wr D)
  (ho : w7.ownsRow B 51 5 (.slice (some ⟨gg, 0, none⟩) (Y.os.length + 1) cap) (Y.os.length + 1) (Y.os.flatMap Kr.cs ++ [.slice la n lc, .slice none 0 0, v, .int .i64 mk, .bool false])) (hk : Kept D w7 (fun j => Y.ov.ownBlock = some j)) : BdOut w (w7.setCell ⟨Y.b, 10, none⟩ (.slice (some ⟨gg, 0, none⟩) (Y.os.length + 1) cap)) B T Y (.slice la n lc) ys := by
 obtain ⟨va, vc, rfl⟩ := row_shape' h2.row
 have hB : B ≤ w.heap.size := hPl.bk.b
 have hL := own_still (h2.lift hPl hI) hD
 have hV : D.ownsRow B 40 1 (.slice va n vc) n (zs.map Bn.v) := own_lower (own_still h2.row hD) hB
 have hgl : os.length = n := hI.len.2
 have heq : ys.map Bn.bs = zs.map Bn.bs := by rw [h2.eq, List.take_of_length_le (by omega)]; exact hI.eq
 have hfk : ∀ f ∈ ys, f.Ok D B := fun f hf => by
  have hb := hI.bod f hf
  have h4 := (hb.1.keep h2.kept fun e => by
   rcases e with e | ⟨C', hC'⟩ | ⟨e, _⟩
   ·have := hPl.bk.k
    have e' : f.k = Y.b := e
    rw [<- e'] at this
    exact blk_ne hb.1.bk this (by decide) rfl
   ·exact blk_ne hb.1.bk hC' (by decide) rfl
   ·exact e).still hD
  have e3 : (⟨f.k, f.bs.length, f.bs⟩ : Bn) = f := by rw [<- hb.2]
  rw [<- e3]
  exact h4.bn
 have hhk : ∀ g ∈ zs, g.Ok D B := fun g hg => by
  have h4 := (h2.zok g hg).still hD
  exact { h4 with lo := Nat.le_trans hB h4.lo }
 refine bd_fin hPl hI h2 (h2.ok.still hD) (Kept.ofBelow hD _) (or_fresh hL hV hfk hhk heq (by have := hI.n1; omega) hm) (fun j hj => ?_) (fun e => by cases e) hc ho hk
 rcases hj with hj | hj | ⟨f, hf, e⟩ | ⟨g, hg, e⟩
 ·exact .inl (.inl hj)
 ·exact .inr (World.ownsRow.lt h2.row j hj).1
 ·exact .inl (.inr ⟨f, hf, e⟩)
 ·rw [e]; exact .inr (h2.zok g hg).lo
theorem bd_keep1 {wr wr2 : World} {la wa : Option Addr} {n lc : Nat} {v : Value} {mk : Int} {ys os zs : List Bn} {tch : Prop} (hPl : PlOk Y w B T) (hI : BIn w B Y la n lc ys wa os) (h2 : BL w wr B T Y (.slice la n lc) mk ys os tch n n v zs Yi) (k : Kept wr wr2 (fun j => j = w.heap.size ∨ (Value.slice la n lc).ownBlock = some j)) : PlOk Yi wr2 B T := by
 have hL := h2.lift hPl hI
 have hb := h2.blk
 refine h2.ok.keep k fun j hj => ?_
 rcases hj with rfl | hj
 ·refine ⟨fun e => ?_, fun e => ?_, fun e => ?_, fun e => ?_, fun e => ?_, fun e => ?_, fun e => ?_, fun e => ?_⟩
  ·have := h2.ok.bk.k; rw [<- e] at this; exact blk_ne hb this (by decide) rfl
  ·obtain ⟨C, hC⟩ := h2.ok.rowp_ne e; exact blk_ne hb hC (by decide) rfl
  ·obtain ⟨C, hC⟩ := h2.ok.rowk_ne e; exact blk_ne hb hC (by decide) rfl
  ·rw [h2.ov] at e; have := (World.ownsRow.lt hPl.ro _ e).2; omega
  ·have : Y.mo w.heap.size := by unfold Pl.mo at e ⊢; rw [h2.M] at e; exact e
   have := (hPl.mo_lt this).2; omega
  ·have : Y.kf w.heap.size := by unfold Pl.kf at e ⊢; rw [h2.ks] at e; exact e
   have := (hPl.kf_lt this).2; omega
  ·have : Y.of w.heap.size := by unfold Pl.of at e ⊢; rw [h2.os] at e; exact e
   have := (hPl.of_lt this).2; omega
  ·obtain ⟨C, hC⟩ := h2.ok.pf_ty e; exact blk_ne hb hC (by decide) rfl
 ·obtain ⟨CL, hCL⟩ := own_ty hL hj
  have hfr := hI.free j (.inl hj)
  refine ⟨fun e => ?_, fun e => ?_, fun e => ?_, fun e => ?_, fun e => ?_, fun e => ?_, fun e => ?_, fun e => ?_⟩
  ·have := h2.ok.bk.k; rw [<- e] at this; exact blk_ne hCL this (by decide) rfl
  ·obtain ⟨C, hC⟩ := h2.ok.rowp_ne e; exact blk_ne hCL hC (by decide) rfl
  ·obtain ⟨C, hC⟩ := h2.ok.rowk_ne e; exact blk_ne hCL hC (by decide) rfl
  ·obtain ⟨C, hC⟩ := h2.ok.rowo_ne e; exact blk_ne hCL hC (by decide) rfl
  ·exact hfr.1 (by unfold Pl.mo at e ⊢; rw [h2.M] at e; exact e)
  ·exact hfr.2.1 (by unfold Pl.kf at e ⊢; rw [h2.ks] at e; exact e)
  ·exact hfr.2.2.1 (by unfold Pl.of at e ⊢; rw [h2.os] at e; exact e)
  ·obtain ⟨C, hC⟩ := h2.ok.pf_ty e; exact blk_ne hCL hC (by decide) rfl
theorem DnO.lower {B' : Nat} {la ga : Option Addr} {n : Nat} {mk : Int} {P Z : Nat -> Bn} (h : DnO w B' la ga n mk P Z) (hB : B ≤ B') : DnO w B la ga n mk P Z :=
 { h with yo := fun i hi => ⟨{ (h.yo i hi).1 with lo := Nat.le_trans hB (h.yo i hi).1.lo }, (h.yo i hi).2⟩, zo := fun i hi => ⟨{ (h.zo i hi).1 with lo := Nat.le_trans hB (h.zo i hi).1.lo }, (h.zo i hi).2⟩ }
theorem bd_fin1 {wr wr2 D w7 : World} {la wa ga : Option Addr} {n lc gc gg cap : Nat} {v : Value} {mk : Int} {ys os zs : List Bn} {tch : Prop} {P Z : Nat -> Bn} {xs us : List Value} (hPl : PlOk Y w B T) (hI : BIn w B Y la n lc ys wa os) (h2 : BL w wr B T Y (.slice la n lc) mk ys os tch n n v zs Yi) (k : Kept wr wr2 (fun j => j = w.heap.size ∨ (Value.slice la n lc).ownBlock = some j)) (hdn : DnO wr2 wr.heap.size la ga n mk P Z) (hx : wr2.ownsRow B 40 1 (.slice la n lc) n xs) (hy : wr2.ownsRow B 40 1 (.slice ga (n + 64) gc) (n + 64) us) (hg : ∀ g, (Value.slice ga (n + 64) gc).ownBlock = some g -> (Value.slice la n lc).ownBlock = some g ∨ wr.heap.size ≤ g) (hm : 0 ≤ mk /\ mk ≤ 255) (hc : Y.os.length < 24) (hD : Below wr2.heap.size wr2 D)
  (ho : w7.ownsRow B 51 5 (.slice (some ⟨gg, 0, none⟩) (Y.os.length + 1) cap) (Y.os.length + 1) (Y.os.flatMap Kr.cs ++ [.slice la n lc, .slice ga (n + 64) gc, v, .int .i64 mk, .bool true])) (hk : Kept D w7 (fun j => Y.ov.ownBlock = some j)) : BdOut w (w7.setCell ⟨Y.b, 10, none⟩ (.slice (some ⟨gg, 0, none⟩) (Y.os.length + 1) cap)) B T Y (.slice la n lc) ys := by
 obtain ⟨va, vc, rfl⟩ := row_shape' h2.row
 have hq := (bd_keep1 hPl hI h2 k).still hD
 have hsz : w.heap.size ≤ wr.heap.size := h2.kept.size
 have hB : B ≤ w.heap.size := hPl.bk.b
 have hKr := or_done (va := va) (vn := n) (vc := vc) (hdn.lower (B := B) (by omega)) hx hy (by have := hI.n1; omega) hm
 have hKD := hKr.keep (Kept.ofBelow hD (fun _ => False)) fun _ _ => id
 have hlt : ∀ j, Yi.pf j -> j < wr.heap.size := fun j hj => (h2.ok.pf_lt hj).2
 refine bd_fin hPl hI h2 hq ((k.mono fun j _ e => e.imp (fun e => by omega) id).trans (Kept.ofBelow hD _)) hKD (fun j hj => ?_) (fun _ j hj e => ?_) hc ho hk
 ·rcases hj with hj | hj | ⟨i, hi, e⟩ | ⟨i, hi, e⟩
  ·exact .inl (.inl hj)
  ·exact (hg j hj).elim (fun h => .inl (.inl h)) fun h => .inr (by omega)
  ·right; have := (hdn.yo i hi).1.lo; omega
  ·right; have := (hdn.zo i hi).1.lo; omega
 ·have h9 := hlt j e
  obtain ⟨C, hC⟩ := hq.pf_ty e
  rcases hj with hj | hj | ⟨i, hi, e2⟩ | ⟨i, hi, e2⟩
  ·obtain ⟨C', hC'⟩ := own_ty (own_still hx hD) hj; exact blk_ne hC' hC (by decide) rfl
  ·obtain ⟨C', hC'⟩ := own_ty (own_still hy hD) hj; exact blk_ne hC' hC (by decide) rfl
  ·have := (hdn.yo i hi).1.lo; omega
  ·have := (hdn.zo i hi).1.lo; omega
theorem outer_info : ∃ i : TypeInfo, Try.prog.info? 51 = some i /\ i.zero = some (.agg #[.slice none 0 0, .slice none 0 0, .slice none 0 0, .int .i64 0, .bool false]) /\ i.size = 5 /\ i.bytes = 88 := by
 have h : (Try.prog.info? 51).map (fun i => (i.zero, i.size, i.bytes)) = some (some (.agg #[.slice none 0 0, .slice none 0 0, .slice none 0 0, .int .i64 0, .bool false]), 5, 88) := by kernel_rfl
 cases hq : Try.prog.info? 51 with
 | none => rw [hq] at h; cases h
 | some i => rw [hq] at h; simp at h; exact ⟨i, rfl, h.1, h.2.1, h.2.2⟩
theorem step_pushO {ops : Array Oper} {o : Oper} {a : Act} {K : Act -> World -> Prop} {Q : Exit -> Act -> World -> Prop} {E : Prop} (hgd : o.guard = none) (s x : Operand)
  (ho : o.op = .call { callee := .builtin .append, args := #[s, x], argTypes := #[35, 35] })
  (w0 : World) (v : Value) (vals : List Value) (L : List Value) (hL : L.length = 5) (hL1 : ∀ u ∈ L, u.oneCell' = true) (hs : a.eval s = v) (n : Nat) (hown : w0.ownsRow B 51 5 v n vals) (hw : w = w0.alloc (.cells L.toArray 51)) (hx : a.eval x = .slice (some ⟨w0.heap.size, 0, none⟩) 1 1)
  (hn : n + 1 ≤ 1000000) (hbase : B ≤ w0.heap.size)
  (h : ∀ g cap w', w'.ownsRow B 51 5 (.slice (some ⟨g, 0, none⟩) (n + 1) cap) (n + 1) (vals ++ L) -> Kept w0 w' (fun k => v.ownBlock = some k) -> (v.ownBlock = some g ∨ w0.heap.size ≤ g) -> g < w'.heap.size -> K (a.put o.dst (.slice (some ⟨g, 0, none⟩) (n + 1) cap)) w') : if Region.wanted o (yielded ops a.tmps) = true then Oper.wp Try.prog o a w K Q else E := by
 obtain ⟨i0, hi, hz0, hz1, hz2⟩ := outer_info
 subst hw
 refine step_append_lies _ hgd s x 35 ho B 51 i0 (.agg #[.slice none 0 0, .slice none 0 0, .slice none 0 0, .int .i64 0, .bool false]) 5 88 Try.underlying35 hi hz0 hz1 hz2 rfl (by decide) v n vals hs (World.ownsRow.alloc hown _) ⟨w0.heap.size, 0, none⟩ 1 1 L hx (by rw [hL]) (fun j y hy => by rw [Addr.add_mid, Nat.zero_add, bC (heap_alloc_new _ _), List.getElem?_toArray, hy]) hL1 (by omega) (by unfold maxLen; omega) (by omega) (by simp; omega) _ rfl fun g cap w' h2 h3 h4 h5 => h g cap w' h2 ?_ ?_ h5
 ·exact (Kept.ofBelow ((Below.refl _ w0).alloc (Nat.le_refl _) (.cells L.toArray 51)) _).step (Kept.ofGrown h3) (fun j hj => .inl hj.symm)
 ·rcases h4 with h4 | h4
  ·exact .inl h4
  ·right; rw [h4]; simp
theorem PlOk.turn (h : PlOk Y w B T) (ht : Y.tn ≤ (Y.os.length : Int)) : PlOk { Y with tn := Y.tn + 1 } (w.setCell ⟨Y.b, 11, none⟩ (.int .i64 (Y.tn + 1))) B T := by
 have k1 : Kept w (w.setCell ⟨Y.b, 11, none⟩ (.int .i64 (Y.tn + 1))) (fun j => j = Y.b) := kset (P := fun j => j = Y.b) _ _ _ _ rfl
 have hty : ∀ {t s : Nat} {v : Value} {n : Nat} {l : List Value}, w.ownsRow B t s v n l -> t ≠ 37 -> (w.setCell ⟨Y.b, 11, none⟩ (.int .i64 (Y.tn + 1))).ownsRow B t s v n l := fun hr t1 => k1.owns hr fun j hj e => by
  obtain ⟨C, hC⟩ := own_ty hr hj
  rw [e] at hC
  exact blk_ne hC h.bk.k t1 rfl
 have hKr : ∀ {t s f : Nat} {lo hi : Int} {q : Kr}, KrOK t s f lo hi w B q -> t ≠ 37 -> KrOK t s f lo hi (w.setCell ⟨Y.b, 11, none⟩ (.int .i64 (Y.tn + 1))) B q := fun hq t1 => hq.keep k1 fun j hj e => by
  rw [e] at hj
  exact hq.ne h.bk.k (fun e => t1 e.symm) (by decide) hj
 have hbk := h.bk
 refine { h with bk := ⟨blk_set hbk.k rfl, hty hbk.o (by decide), fun g' hg' => (hbk.ok g' hg').kept (kbk k1) fun j hj e => ?_, hbk.sep, by have := hbk.b; have := k1.size; omega, hbk.n0, hbk.n1, hbk.cnt⟩, rk := hty h.rk (by decide), ro := hty h.ro (by decide), kok := fun q hq => hKr (h.kok q hq) (by decide), ook := fun q hq => hKr (h.ook q hq) (by decide), duo := fun i M R hi hY => (h.duo i M R hi hY).keep k1 fun j hj e => ?_, tb := ⟨by have := h.tb.1; show 0 ≤ Y.tn + 1; omega, by show Y.tn + 1 ≤ (Y.os.length : Int) + 1; omega⟩ }
 ·obtain ⟨C, hC⟩ := Bk.holds_type (hbk.ok g' hg') hj
  rw [e] at hC
  exact blk_ne hC h.bk.k (by decide) rfl
 ·rw [e] at hj
  exact h.mo_ne h.bk.k (.inl rfl) ⟨i, M, R, hi, hY, hj⟩
end
section
variable {w w' W : World} {B T : Nat} {Y : Pl}
theorem cs_set {G : Value} : ∀ (ks : List Kr) (i : Nat) (p p' : Kr), ks[i]? = some p -> p'.cs = (p.cs.set 1 G).set 4 (.bool true) -> (ks.set i p').flatMap Kr.cs = ((ks.flatMap Kr.cs).set (i * 5 + 1) G).set (i * 5 + 4) (.bool true)
 | [], i, p, p', h, hc => by simp at h
 | k :: ks, 0, p, p', h, hc => by
  simp only [List.getElem?_cons_zero, Option.some.injEq] at h
  subst h
  simp only [List.set_cons_zero, List.flatMap_cons, hc]
  simp [Kr.cs]
 | k :: ks, i + 1, p, p', h, hc => by
  simp only [List.getElem?_cons_succ] at h
  have ih := cs_set ks i p p' h hc
  simp only [List.set_cons_succ, List.flatMap_cons, ih]
  rw [show (i + 1) * 5 + 1 = i * 5 + 1 + 5 by omega, show (i + 1) * 5 + 4 = i * 5 + 4 + 5 by omega]
  simp [Kr.cs]
theorem row_cur {t n g c : Nat} {ks : List Kr} (h : w.ownsRow B t 5 (.slice (some ⟨g, 0, none⟩) n c) n (ks.flatMap Kr.cs)) : ∃ cur, w.heap[g]? = some (.cells cur t (0, 0)) /\ ∀ i p j, ks[i]? = some p -> i < n -> j < 5 -> cur[i * 5 + j]? = p.cs[j]? := by
 rcases h.2 with ⟨h0, _⟩ | ⟨g', cap, cur, hv, hb, hg, hc, hm, hs, ht⟩
 ·simp at h0
 ·simp only [Value.slice.injEq, Option.some.injEq, Addr.mk.injEq, and_true, true_and] at hv
  obtain ⟨rfl, rfl⟩ := hv
  refine ⟨cur, hg, fun i p j hp hi hj => ?_⟩
  rw [<- flat_get Kr.cs 5 (fun _ => rfl) ks i p hp j hj, <- ht, List.getElem?_take, if_pos (by omega)]
  simp
theorem row_upd {t n g c i : Nat} {ks : List Kr} {p p' : Kr} {G : Value} {cur : Array Value} (h : w.ownsRow B t 5 (.slice (some ⟨g, 0, none⟩) n c) n (ks.flatMap Kr.cs)) (hw : w.heap[g]? = some (.cells cur t (0, 0))) (hw' : w'.heap[g]? = some (.cells ((cur.setIfInBounds (i * 5 + 1) G).setIfInBounds (i * 5 + 4) (.bool true)) t (0, 0))) (hp : ks[i]? = some p) (hc : p'.cs = (p.cs.set 1 G).set 4 (.bool true)) : w'.ownsRow B t 5 (.slice (some ⟨g, 0, none⟩) n c) n ((ks.set i p').flatMap Kr.cs) := by
 rcases h.2 with ⟨h0, _⟩ | ⟨g', cap, cur', hv, hb, hg, hcc, hm, hs, ht⟩
 ·simp at h0
 ·simp only [Value.slice.injEq, Option.some.injEq, Addr.mk.injEq, and_true, true_and] at hv
  obtain ⟨rfl, rfl⟩ := hv
  rw [hw] at hg
  simp only [Option.some.injEq, Obj.cells.injEq, and_true] at hg
  obtain rfl := hg
  rw [cs_set ks i p p' hp hc]
  refine ⟨by simp [h.1], .inr ⟨g, c, _, rfl, hb, hw', hcc, hm, by simp [hs], ?_⟩⟩
  rw [Array.toList_setIfInBounds, Array.toList_setIfInBounds, List.take_set, List.take_set, ht]
theorem set_get {ks : List Kr} {i j : Nat} {p' q : Kr} (h : (ks.set i p')[j]? = some q) : (j = i /\ q = p') ∨ (j ≠ i /\ ks[j]? = some q) := by
 by_cases c : i = j
 ·subst c
  rw [List.getElem?_set_self'] at h
  cases hk : ks[i]? with
  | none => simp [hk] at h
  | some x => simp [hk] at h; exact .inl ⟨rfl, h.symm⟩
 ·rw [List.getElem?_set_ne c] at h
  exact .inr ⟨fun e => c e.symm, h⟩
theorem set_mem {ks : List Kr} {i : Nat} {p' q : Kr} (h : q ∈ ks.set i p') : q = p' ∨ ∃ j, j ≠ i /\ ks[j]? = some q := by
 obtain ⟨j, hj⟩ := List.getElem?_of_mem h
 rcases set_get hj with ⟨_, e⟩ | ⟨e, e2⟩
 ·exact .inl e
 ·exact .inr ⟨j, e, e2⟩
theorem sepp_set {ks : List Kr} {i : Nat} {p p' : Kr} (h : Sepp ks) (hi : ks[i]? = some p) (hL : p'.L = p.L) (hF : ∀ j q, j ≠ i -> ks[j]? = some q -> ∀ k, q.L.ownBlock = some k -> ¬ p'.F k) : Sepp (ks.set i p') := by
 intro a b x y ha hb hne k hk
 rcases set_get ha with ⟨rfl, rfl⟩ | ⟨h1, h2⟩
 ·rcases set_get hb with ⟨rfl, rfl⟩ | ⟨h3, h4⟩
  ·exact (hne rfl).elim
  ·rw [hL] at hk
   exact h a b p y hi h4 hne k hk
 ·rcases set_get hb with ⟨rfl, rfl⟩ | ⟨h3, h4⟩
  ·exact hF a x h1 h2 k hk
  ·exact h a b x y h2 h4 hne k hk
theorem PlOk.wrk {i kb kc : Nat} {p p' : Kr} (h : PlOk Y w B T) (hi : Y.ks[i]? = some p) (hkv : Y.kv = .slice (some ⟨kb, 0, none⟩) Y.ks.length kc) (hp : KrOK 55 6 30 (-1000000) 0 w' B p') (hL : p'.L = p.L) (hF : ∀ j, p'.F j -> p.L.ownBlock = some j ∨ w.heap.size ≤ j)
  (hr : w'.ownsRow B 48 5 Y.kv Y.ks.length ((Y.ks.set i p').flatMap Kr.cs)) (k : Kept w w' (fun j => j = kb ∨ p.L.ownBlock = some j)) : PlOk { Y with ks := Y.ks.set i p' } w' B T := by
 have hpo := h.kok p (List.mem_of_getElem? hi)
 obtain ⟨xs0, hx0⟩ := hpo.row
 have hkb : ∃ C, w.heap[kb]? = some (.cells C 48 (0, 0)) := h.rowk_ne (by rw [hkv]; rfl)
 obtain ⟨Ck, hCk⟩ := hkb
 have hLt : ∀ {j}, p.L.ownBlock = some j -> ∃ C, w.heap[j]? = some (.cells C 55 (0, 0)) := fun hj => own_ty hx0 hj
 have hty : ∀ {t s : Nat} {v : Value} {n : Nat} {l : List Value}, w.ownsRow B t s v n l -> t ≠ 48 -> t ≠ 55 -> w'.ownsRow B t s v n l := fun hr t1 t2 => k.owns hr fun j hj e => by
  obtain ⟨C, hC⟩ := own_ty hr hj
  rcases e with rfl | e
  ·exact blk_ne hC hCk t1 rfl
  ·obtain ⟨C', hC'⟩ := hLt e; exact blk_ne hC hC' t2 rfl
 have hKr : ∀ {q : Kr}, KrOK 40 1 31 0 255 w B q -> KrOK 40 1 31 0 255 w' B q := fun hq => hq.keep k fun j hj e => by
  rcases e with rfl | e
  ·exact hq.ne hCk (by decide) (by decide) hj
  ·obtain ⟨C', hC'⟩ := hLt e; exact hq.ne hC' (by decide) (by decide) hj
 have hKo : ∀ j q, j ≠ i -> Y.ks[j]? = some q -> KrOK 55 6 30 (-1000000) 0 w' B q := fun j q hj hq => (h.kok q (List.mem_of_getElem? hq)).keep k fun b hb e => by
  rcases e with rfl | e
  ·exact (h.kok q (List.mem_of_getElem? hq)).ne hCk (by decide) (by decide) hb
  ·exact h.kk i j p q hi hq (fun e => hj e.symm) b e hb
 have hmX : ∀ j, Y.mo j -> ¬ (j = kb ∨ p.L.ownBlock = some j) := fun j hj e => by
  rcases e with rfl | e
  ·exact h.mo_ne hCk (.inr (.inl rfl)) hj
  ·obtain ⟨C', hC'⟩ := hLt e; exact h.mo_ne hC' (.inr (.inr (.inr (.inr rfl)))) hj
 have hbk := h.bk
 refine { bk := ⟨k.obj hbk.k fun e => ?_, hty hbk.o (by decide) (by decide), fun g' hg' => (hbk.ok g' hg').kept (kbk k) fun j hj e => ?_, hbk.sep, by have := hbk.b; have := k.size; omega, hbk.n0, hbk.n1, hbk.cnt⟩, gd := h.gd, nx := h.nx, lo := h.lo, rk := ?_, ro := hty h.ro (by decide) (by decide), kok := fun q hq => ?_, ook := fun q hq => hKr (h.ook q hq), duo := fun i M R hi hY => (h.duo i M R hi hY).keep k fun j hj => hmX j ⟨i, M, R, hi, hY, hj⟩, mm := h.mm, mq := fun j hj => ⟨?_, (h.mq j hj).2.1, (h.mq j hj).2.2⟩, kk := ?_, oo := h.oo, dk := fun q hq hd2 j hj => ?_, dO := h.dO, ck := by simp; exact h.ck, co := h.co, t1 := h.t1, tb := h.tb }
 ·rcases e with e | e
  ·rw [<- e] at hCk; exact blk_ne hCk hbk.k (by decide) rfl
  ·obtain ⟨C', hC'⟩ := hLt e; exact blk_ne hC' hbk.k (by decide) rfl
 ·obtain ⟨C, hC⟩ := Bk.holds_type (hbk.ok g' hg') hj
  rcases e with rfl | e
  ·exact blk_ne hC hCk (by decide) rfl
  ·obtain ⟨C', hC'⟩ := hLt e; exact blk_ne hC hC' (by decide) rfl
 ·simpa using hr
 ·rcases set_mem hq with rfl | ⟨j, hj, hq⟩
  ·exact hp
  ·exact hKo j q hj hq
 ·rintro ⟨q, hq, hj2⟩
  have hjm : Y.mo j := hj
  rcases set_mem hq with rfl | ⟨m, hm, hq⟩
  ·rcases hF j hj2 with e | e
   ·exact (h.mq j hjm).1 ⟨p, List.mem_of_getElem? hi, hpo.fl j e⟩
   ·have := (h.mo_lt hjm).2; omega
  ·exact (h.mq j hjm).1 ⟨q, List.mem_of_getElem? hq, hj2⟩
 ·refine sepp_set h.kk hi hL fun j q hj hq b hb hF2 => ?_
  rcases hF b hF2 with e | e
  ·exact h.kk i j p q hi hq (fun e => hj e.symm) b e ((h.kok q (List.mem_of_getElem? hq)).fl b hb)
  ·have := ((h.kok q (List.mem_of_getElem? hq)).lt ((h.kok q (List.mem_of_getElem? hq)).fl b hb)).2; omega
 ·rcases set_mem hq with rfl | ⟨m, hm, hq⟩
  ·rcases hF j hj with e | e
   ·intro hpf
    obtain ⟨C, hC⟩ := h.pf_ty hpf
    obtain ⟨C', hC'⟩ := hLt e
    exact blk_ne hC hC' (by decide) rfl
   ·intro hpf
    have := (h.pf_lt hpf).2; omega
  ·exact h.dk q (List.mem_of_getElem? hq) hd2 j hj
structure SkO (w w' : World) (B T : Nat) (Y : Pl) (i : Nat) : Prop where
 out : ∃ p', PlOk { Y with ks := Y.ks.set i p' } w' B T /\ p'.dn = true /\ Below B w w'
theorem kwrite_any {i kb kc : Nat} {p : Kr} (h : PlOk Y w B T) (hB : B ≤ w.heap.size) (hi : Y.ks[i]? = some p) (hkv : Y.kv = .slice (some ⟨kb, 0, none⟩) Y.ks.length kc) : Calls Try.prog 17 #[.pointer (some ⟨kb, i * 5, none⟩)] w fun e w' => e = .returned (.tuple #[]) /\ SkO w w' B T Y i := by
 have hpo := h.kok p (List.mem_of_getElem? hi)
 obtain ⟨xs, hx⟩ := hpo.row
 obtain ⟨la, lc, hL⟩ := row_shape' hx
 rw [hL] at hx
 have hrk := h.rk
 rw [hkv] at hrk
 obtain ⟨cur, hcur, hget⟩ := row_cur hrk
 have hil := (List.getElem?_eq_some_iff.1 hi).1
 obtain ⟨va, vn, vc, hV⟩ := hpo.vs
 refine (write_any (ro := i * 5) (mk := p.mr) hx hB hcur (by rw [<- hL]; exact hget i p 0 hi hil (by decide)) ⟨_, hget i p 1 hi hil (by decide)⟩ (hget i p 3 hi hil (by decide)) ⟨_, hget i p 4 hi hil (by decide)⟩ hpo.n1 ⟨by have := hpo.m1.1; omega, hpo.m1.2⟩).mono ?_
 rintro e w' ⟨rfl, ⟨ga, gc, hd, hb, ⟨ys, hy⟩, ⟨zs, hz⟩, hk, hg⟩⟩
 refine ⟨rfl, ⟨_, h.wrk hi hkv (kr_done (va := va) (vn := vn) (vc := vc) hd hy hz hpo.n1 hpo.m1) hL.symm (fun j hj => ?_) ?_ ?_, rfl, ?_⟩⟩
 ·rcases hj with hj | hj
  ·exact .inl (by rw [hL]; exact hj)
  ·exact (hg j hj).imp (fun e => by rw [hL]; exact e) id
 ·rw [hkv]
  exact row_upd hrk hcur hb hi (by rw [<- hL, <- hV]; rfl)
 ·rw [hL]; exact hk
 ·refine hk.below hB fun j hj e => ?_
  rcases e with rfl | e
  ·have := (World.ownsRow.lt hrk j rfl).1; omega
  ·have := (World.ownsRow.lt hx j e).1; omega
theorem PlOk.wro {i kb kc : Nat} {p p' : Kr} (h : PlOk Y w B T) (hi : Y.os[i]? = some p) (hkv : Y.ov = .slice (some ⟨kb, 0, none⟩) Y.os.length kc) (hp : KrOK 40 1 31 0 255 w' B p') (hL : p'.L = p.L) (hF : ∀ j, p'.F j -> p.L.ownBlock = some j ∨ w.heap.size ≤ j)
  (hr : w'.ownsRow B 51 5 Y.ov Y.os.length ((Y.os.set i p').flatMap Kr.cs)) (k : Kept w w' (fun j => j = kb ∨ p.L.ownBlock = some j)) : PlOk { Y with os := Y.os.set i p' } w' B T := by
 have hpo := h.ook p (List.mem_of_getElem? hi)
 obtain ⟨xs0, hx0⟩ := hpo.row
 have hkb : ∃ C, w.heap[kb]? = some (.cells C 51 (0, 0)) := h.rowo_ne (by rw [hkv]; rfl)
 obtain ⟨Ck, hCk⟩ := hkb
 have hLt : ∀ {j}, p.L.ownBlock = some j -> ∃ C, w.heap[j]? = some (.cells C 40 (0, 0)) := fun hj => own_ty hx0 hj
 have hty : ∀ {t s : Nat} {v : Value} {n : Nat} {l : List Value}, w.ownsRow B t s v n l -> t ≠ 51 -> t ≠ 40 -> w'.ownsRow B t s v n l := fun hr t1 t2 => k.owns hr fun j hj e => by
  obtain ⟨C, hC⟩ := own_ty hr hj
  rcases e with rfl | e
  ·exact blk_ne hC hCk t1 rfl
  ·obtain ⟨C', hC'⟩ := hLt e; exact blk_ne hC hC' t2 rfl
 have hKr : ∀ {q : Kr}, KrOK 55 6 30 (-1000000) 0 w B q -> KrOK 55 6 30 (-1000000) 0 w' B q := fun hq => hq.keep k fun j hj e => by
  rcases e with rfl | e
  ·exact hq.ne hCk (by decide) (by decide) hj
  ·obtain ⟨C', hC'⟩ := hLt e; exact hq.ne hC' (by decide) (by decide) hj
 have hKo : ∀ j q, j ≠ i -> Y.os[j]? = some q -> KrOK 40 1 31 0 255 w' B q := fun j q hj hq => (h.ook q (List.mem_of_getElem? hq)).keep k fun b hb e => by
  rcases e with rfl | e
  ·exact (h.ook q (List.mem_of_getElem? hq)).ne hCk (by decide) (by decide) hb
  ·exact h.oo i j p q hi hq (fun e => hj e.symm) b e hb
 have hmX : ∀ j, Y.mo j -> ¬ (j = kb ∨ p.L.ownBlock = some j) := fun j hj e => by
  rcases e with rfl | e
  ·exact h.mo_ne hCk (.inr (.inr (.inl rfl))) hj
  ·exact (h.mq j hj).2.1 ⟨p, List.mem_of_getElem? hi, hpo.fl j e⟩
 have hbk := h.bk
 refine { bk := ⟨k.obj hbk.k fun e => ?_, hty hbk.o (by decide) (by decide), fun g' hg' => (hbk.ok g' hg').kept (kbk k) fun j hj e => ?_, hbk.sep, by have := hbk.b; have := k.size; omega, hbk.n0, hbk.n1, hbk.cnt⟩, gd := h.gd, nx := h.nx, lo := h.lo, rk := hty h.rk (by decide) (by decide), ro := ?_, kok := fun q hq => hKr (h.kok q hq), ook := fun q hq => ?_, duo := fun i M R hi hY => (h.duo i M R hi hY).keep k fun j hj => hmX j ⟨i, M, R, hi, hY, hj⟩, mm := h.mm, mq := fun j hj => ⟨(h.mq j hj).1, ?_, (h.mq j hj).2.2⟩, kk := h.kk, oo := ?_, dk := h.dk, dO := fun q hq hd2 j hj => ?_, ck := h.ck, co := by simp; exact h.co, t1 := h.t1, tb := ⟨h.tb.1, by have := h.tb.2; simp; omega⟩ }
 ·rcases e with e | e
  ·rw [<- e] at hCk; exact blk_ne hCk hbk.k (by decide) rfl
  ·obtain ⟨C', hC'⟩ := hLt e; exact blk_ne hC' hbk.k (by decide) rfl
 ·obtain ⟨C, hC⟩ := Bk.holds_type (hbk.ok g' hg') hj
  rcases e with rfl | e
  ·exact blk_ne hC hCk (by decide) rfl
  ·obtain ⟨C', hC'⟩ := hLt e; exact blk_ne hC hC' (by decide) rfl
 ·simpa using hr
 ·rcases set_mem hq with rfl | ⟨j, hj, hq⟩
  ·exact hp
  ·exact hKo j q hj hq
 ·rintro ⟨q, hq, hj2⟩
  have hjm : Y.mo j := hj
  rcases set_mem hq with rfl | ⟨m, hm, hq⟩
  ·rcases hF j hj2 with e | e
   ·exact (h.mq j hjm).2.1 ⟨p, List.mem_of_getElem? hi, hpo.fl j e⟩
   ·have := (h.mo_lt hjm).2; omega
  ·exact (h.mq j hjm).2.1 ⟨q, List.mem_of_getElem? hq, hj2⟩
 ·refine sepp_set h.oo hi hL fun j q hj hq b hb hF2 => ?_
  rcases hF b hF2 with e | e
  ·exact h.oo i j p q hi hq (fun e => hj e.symm) b e ((h.ook q (List.mem_of_getElem? hq)).fl b hb)
  ·have := ((h.ook q (List.mem_of_getElem? hq)).lt ((h.ook q (List.mem_of_getElem? hq)).fl b hb)).2; omega
 ·rcases set_mem hq with rfl | ⟨m, hm, hq⟩
  ·rcases hF j hj with e | e
   ·intro hpf
    obtain ⟨C, hC⟩ := h.pf_ty hpf
    obtain ⟨C', hC'⟩ := hLt e
    exact blk_ne hC hC' (by decide) rfl
   ·intro hpf
    have := (h.pf_lt hpf).2; omega
  ·exact h.dO q (List.mem_of_getElem? hq) hd2 j hj
structure SoO (w w' : World) (B T : Nat) (Y : Pl) (i : Nat) : Prop where
 out : ∃ p', PlOk { Y with os := Y.os.set i p' } w' B T /\ p'.dn = true /\ Below B w w'
theorem okwrite_any {i kb kc : Nat} {p : Kr} (h : PlOk Y w B T) (hB : B ≤ w.heap.size) (hi : Y.os[i]? = some p) (hkv : Y.ov = .slice (some ⟨kb, 0, none⟩) Y.os.length kc) : Calls Try.prog 18 #[.pointer (some ⟨kb, i * 5, none⟩)] w fun e w' => e = .returned (.tuple #[]) /\ SoO w w' B T Y i := by
 have hpo := h.ook p (List.mem_of_getElem? hi)
 obtain ⟨xs, hx⟩ := hpo.row
 obtain ⟨la, lc, hL⟩ := row_shape' hx
 rw [hL] at hx
 have hrk := h.ro
 rw [hkv] at hrk
 obtain ⟨cur, hcur, hget⟩ := row_cur hrk
 have hil := (List.getElem?_eq_some_iff.1 hi).1
 obtain ⟨va, vn, vc, hV⟩ := hpo.vs
 refine (owrite_any (ro := i * 5) (mk := p.mr) hx hB hcur (by rw [<- hL]; exact hget i p 0 hi hil (by decide)) ⟨_, hget i p 1 hi hil (by decide)⟩ (hget i p 3 hi hil (by decide)) ⟨_, hget i p 4 hi hil (by decide)⟩ hpo.n1 hpo.m1).mono ?_
 rintro e w' ⟨rfl, ⟨ga, gc, yf, zf, hd, hb, ⟨ys, hy⟩, ⟨zs, hz⟩, hk, hg⟩⟩
 refine ⟨rfl, ⟨_, h.wro hi hkv (or_done (va := va) (vn := vn) (vc := vc) (hd.lower hB) hy hz hpo.n1 hpo.m1) hL.symm (fun j hj => ?_) ?_ ?_, rfl, ?_⟩⟩
 ·rcases hj with hj | hj | ⟨m, hm, rfl⟩ | ⟨m, hm, rfl⟩
  ·exact .inl (by rw [hL]; exact hj)
  ·exact (hg j hj).imp (fun e => by rw [hL]; exact e) id
  ·exact .inr (hd.yo m hm).1.lo
  ·exact .inr (hd.zo m hm).1.lo
 ·rw [hkv]
  exact row_upd hrk hcur hb hi (by rw [<- hL, <- hV]; rfl)
 ·rw [hL]; exact hk
 ·refine hk.below hB fun j hj e => ?_
  rcases e with rfl | e
  ·have := (World.ownsRow.lt hrk j rfl).1; omega
  ·have := (World.ownsRow.lt hx j e).1; omega
end
end Go.Proofs.Ythanifbimndhaaa.Ln
namespace Go.Proofs.Ythanifbimndhaaa.Bk
set_option maxHeartbeats 40000000
open Go.RowKit Lo
set_option linter.unusedVariables false
variable {F : Fr}
set_option maxRecDepth 100000 in
theorem settle_none (base kb : Nat) (nx : Int) (w : World) (H : BookIs F w base kb (.slice none 0 0) nx []) :
  Calls Try.prog 19 #[.pointer (some ⟨kb, 6, none⟩)] w fun e w' => e = .returned (.bool true) /\ Below w.heap.size w w' := by
 obtain ⟨ib, hib, hb0, hb1, hb2⟩ := info_parts info_bool
 have HC : Hid (∀ D, Below w.heap.size w D -> D.cell? ⟨kb, 6, none⟩ = some (.slice none 0 0) /\ D.cell? ⟨kb, 7, none⟩ = some (.slice none 0 0)) := fun D hb => (show _ /\ _ from ⟨(cell_block (H.below hb).k).trans rfl, (cell_block (H.below hb).k).trans rfl⟩)
 have HI : Hid (∀ D, Below w.heap.size w D -> Calls Try.prog 32 #[.pointer (some ⟨kb, 6, none⟩)] D fun e w' => e = .returned (.bool true) /\ Below D.heap.size D w') := fun D hb => (show Calls _ _ _ _ _ from intact_any base kb _ nx [] D (H.below hb) (fun p hp => by cases hp))
 clear H
 go_enter Try.func19, Try.ntmps19
 go_wp2_with fail
 refine (HI.out _ (Below.refl _ _)).mono ?_
 rintro e w1 ⟨rfl, hbw1⟩
 have H1 : Hid (Below w.heap.size w w1) := hbw1
 clear hbw1
 have c0 := (HC.out _ H1.out).1
 go_wp2_with (first
  | (at_make; refine wpList_make_cap _ rfl _ _ 87 rfl 4 ib (.bool false) Try.underlying87 hib hb0 hb1 rfl 1 hb2 _ _ _ _ 0 0 rfl rfl rfl rfl (Nat.le_refl _) (by omega) (by omega) ?_; intro w2 hg2 hsz2 hbel2)
  | fail)
 have H2 : Hid (Below w.heap.size w w2) := H1.out.trans (hbel2.mono H1.out.size)
 clear hg2 hsz2 hbel2 c0 H1
 go_loopw [4] (fun i wr => i = .int .i64 0 /\ Hid (Below w.heap.size w wr)) (fun i _ => 0)
 case atStart => exact ⟨rfl, H2⟩
 case round =>
  clear H2
  obtain ⟨rfl, hs⟩ := hrel
  have c0 := (HC.out _ hs.out).1
  have c1 := (HC.out _ hs.out).2
  go_wp2_with (first
   | (at_make; refine wpList_make_cap _ rfl _ _ 87 rfl 4 ib (.bool false) Try.underlying87 hib hb0 hb1 rfl 1 hb2 _ _ _ _ 0 0 rfl rfl rfl rfl (Nat.le_refl _) (by omega) (by omega) ?_; intro w4 hg4 hsz4 hbel4)
   | fail)
  have H4 : Hid (Below w.heap.size w w4) := hs.out.trans (hbel4.mono hs.out.size)
  clear hg4 hsz4 hbel4 c0 c1 hs
  go_loopw [6] (fun i wr => i = .int .i64 0 /\ Hid (Below w.heap.size w wr)) (fun i _ => 0)
  case atStart => exact ⟨rfl, H4⟩
  case round =>
   clear H4
   obtain ⟨rfl, hs⟩ := hrel
   have c0 := (HC.out _ hs.out).1
   have c1 := (HC.out _ hs.out).2
   have H5 := hs
   clear hs
   go_wp2_with fail
   go_loopw [7] (fun i wr => i = .int .i64 0 /\ Hid (Below w.heap.size w wr)) (fun i _ => 0)
   case atStart => exact ⟨rfl, H5⟩
   case round =>
    clear H5 c0 c1
    obtain ⟨rfl, hs⟩ := hrel
    have c0 := (HC.out _ hs.out).1
    have c1 := (HC.out _ hs.out).2
    have H5 := hs
    clear hs
    go_wp2_with fail
    go_loopw [8] (fun i wr => i = .int .i64 0 /\ Hid (Below w.heap.size w wr)) (fun i _ => 0)
    case atStart => exact ⟨rfl, H5⟩
    case round =>
     clear H5 c0 c1
     obtain ⟨rfl, hs⟩ := hrel
     have c0 := (HC.out _ hs.out).1
     have c1 := (HC.out _ hs.out).2
     go_wp2_with fail
     refine (HI.out _ hs.out).mono ?_
     rintro e w9 ⟨rfl, hb9⟩
     have H9 : Hid (Below w.heap.size w w9) := hs.out.trans (hb9.mono hs.out.size)
     clear hb9 hs c0 c1
     go_wp2_with fail
     go_ret
     exact ⟨rfl, H9.out⟩
end Go.Proofs.Ythanifbimndhaaa.Bk
namespace Go.Proofs.Ythanifbimndhaaa.Ln
set_option maxHeartbeats 40000000
open Go.RowKit Mb
set_option linter.unusedVariables false
set_option maxRecDepth 100000
set_option linter.unusedSimpArgs false
section
variable {w w' W : World} {B T : Nat} {Y : Pl}
structure StO (w w' : World) (B T : Nat) (Y : Pl) : Prop where
 out : ∃ qs, PlOk { Y with ps := qs } w' B T /\ Below B w w'
theorem psettle_any (h : PlOk Y w B T) (hB : B ≤ w.heap.size) (hk : ∀ p ∈ Y.ks, p.dn = true) (ho : ∀ p ∈ Y.os, p.dn = true) : Calls Try.prog 19 #[.pointer (some ⟨Y.b, 6, none⟩)] w fun e w' => e = .returned (.bool true) /\ StO w w' B T Y := by
 rcases Bk.vp_shape h.bk.o with ⟨e1, e0⟩ | ⟨pk, cp, e1⟩
 ·have hbk := h.bk
  have e2 : Y.ps = [] := List.eq_nil_of_length_eq_zero e0
  rw [e1, e2] at hbk
  refine (Bk.settle_none B Y.b Y.nx w hbk).mono ?_
  rintro e w' ⟨rfl, hb⟩
  exact ⟨rfl, ⟨Y.ps, h.still hb, hb.mono hB⟩⟩
 ·have hbk := h.bk
  rw [e1] at hbk
  refine (Bk.settle_some B Y.b pk cp Y.ps.length Y.nx Y.ps w rfl hbk h.gd).mono ?_
  rintro e w' ⟨rfl, ⟨qs, hl, hB2, hg, hh⟩, hK0⟩
  have k : Kept w w' (Bk.PSet pk Y.ps) := bkk hK0
  obtain ⟨Cp, hCp⟩ := h.rowp_ne (j := pk) (by rw [e1]; rfl)
  have hset : ∀ j, Bk.PSet pk Y.ps j -> j = pk ∨ Y.pf j := fun j hj => by
   rcases hj with e | ⟨p, hp, e⟩
   ·exact .inl e
   ·exact .inr ⟨p, hp, .inl e.symm⟩
  have hty : ∀ {t s : Nat} {v : Value} {n : Nat} {l : List Value}, w.ownsRow B t s v n l -> t ≠ 89 -> t ≠ 5 -> w'.ownsRow B t s v n l := fun hr t1 t2 => k.owns hr fun j hj e => by
   obtain ⟨C, hC⟩ := own_ty hr hj
   rcases hset j e with rfl | e
   ·exact blk_ne hC hCp t1 rfl
   ·obtain ⟨C', hC'⟩ := h.pf_ty e; exact blk_ne hC hC' t2 rfl
  have hpf : ∀ j, ({ Y with ps := qs } : Pl).pf j -> Y.pf j ∨ w.heap.size ≤ j := fun j ⟨q, hq, hj⟩ => (hh q hq j hj)
  refine ⟨rfl, ⟨qs, { bk := by rw [<- e1] at hB2; exact hB2, gd := hg, nx := by rw [h.nx, hl], lo := h.lo, rk := hty h.rk (by decide) (by decide), ro := hty h.ro (by decide) (by decide), kok := fun q hq => (h.kok q hq).keep k fun j hj e => ?_, ook := fun q hq => (h.ook q hq).keep k fun j hj e => ?_, duo := fun i M R hi hY => (h.duo i M R hi hY).keep k fun j hj e => ?_, mm := h.mm, mq := fun j hj => ⟨(h.mq j hj).1, (h.mq j hj).2.1, fun e => ?_⟩, kk := h.kk, oo := h.oo, dk := fun q hq hd j hj e => ?_, dO := fun q hq hd j hj e => ?_, ck := h.ck, co := h.co, t1 := h.t1, tb := h.tb }, ?_⟩⟩
  ·rcases hset j e with rfl | e
   ·exact (h.kok q hq).ne hCp (by decide) (by decide) hj
   ·exact h.dk q hq (hk q hq) j hj e
  ·rcases hset j e with rfl | e
   ·exact (h.ook q hq).ne hCp (by decide) (by decide) hj
   ·exact h.dO q hq (ho q hq) j hj e
  ·have hm : Y.mo j := ⟨i, M, R, hi, hY, hj⟩
   rcases hset j e with rfl | e
   ·exact h.mo_ne hCp (.inr (.inr (.inr (.inl rfl)))) hm
   ·exact (h.mq j hm).2.2 e
  ·have hm : Y.mo j := hj
   rcases hpf j e with e | e
   ·exact (h.mq j hm).2.2 e
   ·have := (h.mo_lt hm).2; omega
  ·rcases hpf j e with e | e
   ·exact h.dk q hq hd j hj e
   ·have := ((h.kok q hq).lt hj).2; omega
  ·rcases hpf j e with e | e
   ·exact h.dO q hq hd j hj e
   ·have := ((h.ook q hq).lt hj).2; omega
  ·refine k.below hB fun j hj e => ?_
   rcases hset j e with rfl | e
   ·have := (World.ownsRow.lt h.bk.o j (by rw [e1]; rfl)).1; omega
   ·have := (h.pf_lt e).1; omega
end
section
variable {w w' W : World} {B T : Nat} {Y : Pl}
structure SS (w wr : World) (B T : Nat) (Y : Pl) (a b : Nat) : Prop where
 out : ∃ Yi : Pl, PlOk Yi wr B T /\ Yi.b = Y.b /\ Yi.kv = Y.kv /\ Yi.ov = Y.ov /\ Yi.ks.length = Y.ks.length /\ Yi.os.length = Y.os.length /\ (∀ j p, j < a -> Yi.ks[j]? = some p -> p.dn = true) /\ (∀ j p, j < b -> Yi.os[j]? = some p -> p.dn = true) /\ Below B w wr
theorem body_bn2 {y : Bn} (h : Body w B ⟨y.k, y.bs⟩) (hc : y.c = y.bs.length) : y.Ok w B := by
 obtain ⟨k, c, bs⟩ := y
 simp only at hc h
 subst hc
 exact h.bn
theorem PlOk.cM (h : PlOk Y w B T) {i : Nat} (hi : i < 3) : w.cell? ⟨Y.b, i, none⟩ = some (mpt (Y.M i)) /\ w.cell? ⟨Y.b, 3 + i, none⟩ = some (dpt (Y.M i)) := by
 match i, hi with
 | 0, _ => exact ⟨h.c 0 rfl, h.c 3 rfl⟩
 | 1, _ => exact ⟨h.c 1 rfl, h.c 4 rfl⟩
 | 2, _ => exact ⟨h.c 2 rfl, h.c 5 rfl⟩
theorem settle_any (h : PlOk Y w B T) (hB : B ≤ w.heap.size) : Calls Try.prog 11 #[.pointer (some ⟨Y.b, 0, none⟩)] w fun e w' => e = .returned (.bool true) /\ Below B w w' := by
 have HB : Hid (B ≤ w.heap.size) := hB
 have hck := h.ck
 have hco := h.co
 obtain ⟨ka, kc, hkv⟩ := row_shape' h.rk
 obtain ⟨oa, oc, hov⟩ := row_shape' h.ro
 obtain ⟨nk, hnk⟩ : ∃ n, Y.ks.length = n := ⟨_, rfl⟩
 obtain ⟨no, hno⟩ : ∃ n, Y.os.length = n := ⟨_, rfl⟩
 have Hkv : Hid (Y.kv = .slice ka nk kc /\ Y.ks.length = nk) := (show _ /\ _ from ⟨by rw [hkv, hnk], hnk⟩)
 have Hov : Hid (Y.ov = .slice oa no oc /\ Y.os.length = no) := (show _ /\ _ from ⟨by rw [hov, hno], hno⟩)
 rw [hnk] at hck
 rw [hno] at hco
 obtain ⟨yb, hyb⟩ : ∃ b, Y.b = b := ⟨_, rfl⟩
 have Hyb : Hid (Y.b = yb) := hyb
 have H0 : Hid (Calls Try.prog 14 #[.pointer (some ⟨yb, 0, none⟩)] w fun e w' => e = .returned (.bool true) /\ Hid (SS w w' B T Y 0 0)) := (show Calls _ _ _ _ _ from by
  rw [<- hyb]
  refine (pintact_any h).mono ?_
  rintro e w1 ⟨rfl, hb1⟩
  exact ⟨rfl, (show SS _ _ _ _ _ _ _ from ⟨Y, h.still hb1, rfl, rfl, rfl, rfl, rfl, fun j p hj => by omega, fun j p hj => by omega, hb1.mono hB⟩)⟩)
 rw [hyb]
 clear h hB hkv hov hnk hno hyb
 go_enter Try.func11, Try.ntmps11
 go_wp2_with (first | (go_at_call 14; refine H0.out.mono ?_; rintro e w1 ⟨rfl, H1⟩) | fail)
 clear H0
 go_wp2
 go_loopw [3] (fun v3 wr => ∃ i : Nat, i ≤ nk /\ v3 = .int .i64 (i : Int) /\ Hid (SS w wr B T Y i 0)) (fun v3 _ => nk - (intOf v3).toNat)
 case atStart => exact ⟨0, by omega, rfl, H1⟩
 case round =>
  clear H1
  obtain ⟨i, hi, rfl, hs⟩ := hrel
  obtain ⟨Yi, hP, eb, ekv, eov, ekl, eol, hk, ho, hbel⟩ := hs.out.out
  have c9 : wr.cell? ⟨yb, 9, none⟩ = some (.slice ka nk kc) := by rw [<- Hyb.out, <- eb, <- Hkv.out.1, <- ekv]; exact hP.c 9 rfl
  have eks := Hkv.out.2
  have eos := Hov.out.2
  by_cases hlt : i < nk
  ·clear hi
   have i1 : (0 : Int) ≤ (i : Int) := Int.natCast_nonneg _
   have i2 : (i : Int) < (nk : Int) := by omega
   obtain ⟨p, hp⟩ : ∃ p, Yi.ks[i]? = some p := ⟨_, List.getElem?_eq_getElem (by omega)⟩
   have hrk := hP.rk
   rw [ekv, Hkv.out.1] at hrk
   obtain ⟨kb, hkb⟩ := row_addr (by have := hrk; rw [ekl, Hkv.out.2] at this; exact this) (by omega)
   have hkv : Yi.kv = .slice (some ⟨kb, 0, none⟩) Yi.ks.length kc := by rw [ekv, Hkv.out.1, ekl, Hkv.out.2, hkb]
   have e4 : wr.cell? ⟨kb, i * 5 + 4, none⟩ = some (.bool p.dn) := by
    have h9 := hP.rk
    rw [hkv] at h9
    exact rec_cell h9 hp (by omega) 4 (by decide)
   rw [hkb] at c9
   obtain ⟨d, hd⟩ : ∃ d, p.dn = d := ⟨_, rfl⟩
   rw [hd] at e4
   cases d with
   | true =>
    have HN : Hid (SS w wr B T Y (i + 1) 0) := (show SS _ _ _ _ _ _ _ from ⟨Yi, hP, eb, ekv, eov, ekl, eol, (fun j x hj hx => by
    rcases Nat.lt_succ_iff_lt_or_eq.1 hj with hj | rfl
    ·exact hk j x hj hx
    ·rw [hp] at hx; cases hx; exact hd), ho, hbel⟩)
    clear hs hlt hP hp hrk hkb hkv hd hbel hk ho eb ekv eov ekl eol
    go_wp2
    exact ⟨⟨i + 1, by omega, by go_num, HN⟩, by simp [intOf]; omega⟩
   | false =>
    have HW : Hid (Calls Try.prog 17 #[.pointer (some ⟨kb, i * 5, none⟩)] wr fun e w1 => e = .returned (.tuple #[]) /\ Hid (SS w w1 B T Y (i + 1) 0)) := (show Calls _ _ _ _ _ from by
     refine (kwrite_any hP (Nat.le_trans HB.out hbel.size) hp hkv).mono ?_
     rintro e w1 ⟨rfl, ⟨p', hP', hd', hb'⟩⟩
     exact ⟨rfl, (show SS _ _ _ _ _ _ _ from ⟨_, hP', eb, ekv, eov, by simp [ekl], by simp [eol], (fun j x hj hx => by
    rcases set_get hx with ⟨_, rfl⟩ | ⟨h1, h2⟩
    ·exact hd'
    ·exact hk j x (by omega) h2), ho, hbel.trans hb'⟩)⟩)
    clear hs hlt hP hp hrk hkb hkv hd hbel hk ho eb ekv eov ekl eol
    go_wp2_with (first | (go_at_call 17; refine HW.out.mono ?_; rintro e w1 ⟨rfl, HN⟩) | fail)
    clear HW e4 c9
    go_wp2
    exact ⟨⟨i + 1, by omega, by go_num, HN⟩, by simp [intOf]; omega⟩
  ·have i2 : ¬ (i : Int) < (nk : Int) := by omega
   have H2 : Hid (SS w wr B T Y nk 0) := (show SS _ _ _ _ _ _ _ from ⟨Yi, hP, eb, ekv, eov, ekl, eol, fun j x hj hx => hk j x (by omega) hx, ho, hbel⟩)
   clear hs hlt hP hbel hk ho eb ekv eov ekl eol eks eos
   generalize wr = wz at *
   go_wp2
   clear c9 i2 hi
   go_loopw [4] (fun v4 wr => ∃ i : Nat, i ≤ no /\ v4 = .int .i64 (i : Int) /\ Hid (SS w wr B T Y nk i)) (fun v4 _ => no - (intOf v4).toNat)
   case atStart => exact ⟨0, by omega, rfl, H2⟩
   case round =>
    clear H2
    obtain ⟨i, hi, rfl, hs⟩ := hrel
    obtain ⟨Yi, hP, eb, ekv, eov, ekl, eol, hk, ho, hbel⟩ := hs.out.out
    have c9 : wr.cell? ⟨yb, 10, none⟩ = some (.slice oa no oc) := by rw [<- Hyb.out, <- eb, <- Hov.out.1, <- eov]; exact hP.c 10 rfl
    have eks := Hkv.out.2
    have eos := Hov.out.2
    by_cases hlt : i < no
    ·clear hi
     have i1 : (0 : Int) ≤ (i : Int) := Int.natCast_nonneg _
     have i2 : (i : Int) < (no : Int) := by omega
     obtain ⟨p, hp⟩ : ∃ p, Yi.os[i]? = some p := ⟨_, List.getElem?_eq_getElem (by omega)⟩
     have hrk := hP.ro
     rw [eov, Hov.out.1] at hrk
     obtain ⟨kb, hkb⟩ := row_addr (by have := hrk; rw [eol, Hov.out.2] at this; exact this) (by omega)
     have hkv : Yi.ov = .slice (some ⟨kb, 0, none⟩) Yi.os.length oc := by rw [eov, Hov.out.1, eol, Hov.out.2, hkb]
     have e4 : wr.cell? ⟨kb, i * 5 + 4, none⟩ = some (.bool p.dn) := by
      have h9 := hP.ro
      rw [hkv] at h9
      exact rec_cell h9 hp (by omega) 4 (by decide)
     rw [hkb] at c9
     obtain ⟨d, hd⟩ : ∃ d, p.dn = d := ⟨_, rfl⟩
     rw [hd] at e4
     cases d with
     | true =>
      have HN : Hid (SS w wr B T Y nk (i + 1)) := (show SS _ _ _ _ _ _ _ from ⟨Yi, hP, eb, ekv, eov, ekl, eol, hk, (fun j x hj hx => by
      rcases Nat.lt_succ_iff_lt_or_eq.1 hj with hj | rfl
      ·exact ho j x hj hx
      ·rw [hp] at hx; cases hx; exact hd), hbel⟩)
      clear hs hlt hP hp hrk hkb hkv hd hbel hk ho eb ekv eov ekl eol
      go_wp2
      exact ⟨⟨i + 1, by omega, by go_num, HN⟩, by simp [intOf]; omega⟩
     | false =>
      have HW : Hid (Calls Try.prog 18 #[.pointer (some ⟨kb, i * 5, none⟩)] wr fun e w1 => e = .returned (.tuple #[]) /\ Hid (SS w w1 B T Y nk (i + 1))) := (show Calls _ _ _ _ _ from by
       refine (okwrite_any hP (Nat.le_trans HB.out hbel.size) hp hkv).mono ?_
       rintro e w1 ⟨rfl, ⟨p', hP', hd', hb'⟩⟩
       exact ⟨rfl, (show SS _ _ _ _ _ _ _ from ⟨_, hP', eb, ekv, eov, by simp [ekl], by simp [eol], hk, (fun j x hj hx => by
      rcases set_get hx with ⟨_, rfl⟩ | ⟨h1, h2⟩
      ·exact hd'
      ·exact ho j x (by omega) h2), hbel.trans hb'⟩)⟩)
      clear hs hlt hP hp hrk hkb hkv hd hbel hk ho eb ekv eov ekl eol
      go_wp2_with (first | (go_at_call 18; refine HW.out.mono ?_; rintro e w1 ⟨rfl, HN⟩) | fail)
      clear HW e4 c9
      go_wp2
      exact ⟨⟨i + 1, by omega, by go_num, HN⟩, by simp [intOf]; omega⟩
    ·have i2 : ¬ (i : Int) < (no : Int) := by omega
     have HS : Hid (Calls Try.prog 19 #[.pointer (some ⟨yb, 6, none⟩)] wr fun e w1 => e = .returned (.bool true) /\ Hid (∃ Yz : Pl, PlOk Yz w1 B T /\ Yz.b = yb /\ Below B w w1)) := (show Calls _ _ _ _ _ from by
      rw [<- Hyb.out, <- eb]
      refine (psettle_any hP (Nat.le_trans HB.out hbel.size) (fun p hp => ?_) (fun p hp => ?_)).mono ?_
      ·obtain ⟨j, hj⟩ := List.getElem?_of_mem hp
       exact hk j p (by have := (List.getElem?_eq_some_iff.1 hj).1; omega) hj
      ·obtain ⟨j, hj⟩ := List.getElem?_of_mem hp
       exact ho j p (by have := (List.getElem?_eq_some_iff.1 hj).1; omega) hj
      ·rintro e w1 ⟨rfl, ⟨qs, hq, hb1⟩⟩
       exact ⟨rfl, (show ∃ Yz : Pl, PlOk Yz w1 B T /\ Yz.b = Yi.b /\ Below B w w1 from ⟨_, hq, rfl, hbel.trans hb1⟩)⟩)
     clear hs hlt hP hbel hk ho eb ekv eov ekl eol eks eos
     have HI : Hid (∀ D, (∃ Yz : Pl, PlOk Yz D B T /\ Yz.b = yb /\ Below B w D) -> Calls Try.prog 14 #[.pointer (some ⟨yb, 0, none⟩)] D fun e w1 => e = .returned (.bool true) /\ Hid (∃ Yz : Pl, PlOk Yz w1 B T /\ Yz.b = yb /\ Below B w w1)) := fun D hx => (show Calls _ _ _ _ _ from by
      obtain ⟨Yz, hq, e1, hb1⟩ := hx
      rw [<- e1]
      refine (pintact_any hq).mono ?_
      rintro e w1 ⟨rfl, hb2⟩
      exact ⟨rfl, (show ∃ Yz' : Pl, PlOk Yz' w1 B T /\ Yz'.b = Yz.b /\ Below B w w1 from ⟨Yz, hq.still hb2, rfl, hb1.trans (hb2.mono hq.bk.b)⟩)⟩)
     go_wp2_with (first | (go_at_call 19; refine HS.out.mono ?_; rintro e w1 ⟨rfl, H3⟩) | (go_at_call 14; refine (HI.out _ H3.out).mono ?_; rintro e w2 ⟨rfl, H4⟩) | fail)
     clear HS H3 c9 i2 hi
     obtain ⟨Yz, hq, e1, hb1⟩ := H4.out
     have HZ : Hid (PlOk Yz w2 B T) := hq
     have HZb : Hid (Yz.b = yb) := e1
     have HZw : Hid (Below B w w2) := hb1
     have HF : Hid (∀ i M R, i < 3 -> Yz.M i = some (M, R) -> ∀ q, ∃ sp, sp.length ≤ 1000 /\ ∀ D, Below w2.heap.size w2 D -> (Calls Try.prog 20 #[.pointer (some ⟨M.b, 0, none⟩), .int .i64 q] D fun e w' => FrPo D w' sp e) /\ (Calls Try.prog 21 #[.pointer (some ⟨R.b, 0, none⟩), .int .i64 q] D fun e w' => FrQo D w' sp e)) := fun i M R hi hM q => frames_pair (hq.duo i M R hi hM) q
     clear hq e1 hb1 H4
     generalize w2 = wy at *
     go_wp2
     go_loopw [5, 6, 7, 8, 9] (fun v5 _ _ _ _ wr => ∃ i : Nat, i ≤ 3 /\ v5 = .int .i64 (i : Int) /\ Hid (Below wy.heap.size wy wr)) (fun v5 _ _ _ _ _ => 3 - (intOf v5).toNat)
     case atStart => exact ⟨0, by omega, rfl, (show Below _ _ _ from Below.refl _ _)⟩
     case round =>
      obtain ⟨i, hi, rfl, hs⟩ := hrel
      by_cases hlt : i < 3
      ·have i1 : (0 : Int) ≤ (i : Int) := Int.natCast_nonneg _
       have i2 : (i : Int) < 3 := by omega
       have H5 := hs
       clear hs
       go_wp2
       go_loopw [6, 7, 8, 9] (fun v6 _ _ _ wr => ∃ q : Nat, q ≤ 16 /\ v6 = .int .i64 (q : Int) /\ Hid (Below wy.heap.size wy wr)) (fun v6 _ _ _ _ => 16 - (intOf v6).toNat)
       case atStart => exact ⟨0, by omega, rfl, H5⟩
       case round =>
        clear H5
        obtain ⟨q, hq, rfl, hs⟩ := hrel
        have cM := (HZ.out.still hs.out).cM hlt
        rw [HZb.out] at cM
        obtain ⟨m, hm⟩ : ∃ m, Yz.M i = m := ⟨_, rfl⟩
        have Hm : Hid (Yz.M i = m) := hm
        rw [hm] at cM
        clear hm
        cases m with
        | none =>
         have cP : wr.cell? ⟨yb, i, none⟩ = some (.pointer none) := cM.1
         clear cM
         by_cases hq16 : q < 16
         ·have q1 : (q : Int) < 16 := by omega
          go_wp2
          exact ⟨⟨i + 1, by omega, by go_num, hs⟩, by simp [intOf]; omega⟩
         ·have q1 : ¬ (q : Int) < 16 := by omega
          go_wp2
          exact ⟨⟨i + 1, by omega, by go_num, hs⟩, by simp [intOf]; omega⟩
        | some mr =>
         obtain ⟨M, Rr⟩ := mr
         have cP : wr.cell? ⟨yb, i, none⟩ = some (.pointer (some ⟨M.b, 0, none⟩)) := cM.1
         have cD : wr.cell? ⟨yb, 3 + i, none⟩ = some (.pointer (some ⟨Rr.b, 0, none⟩)) := cM.2
         clear cM
         by_cases hq16 : q < 16
         ·have q0 : (0 : Int) ≤ (q : Int) := Int.natCast_nonneg _
          have q1 : (q : Int) < 16 := by omega
          obtain ⟨sp, hsp, hF⟩ := HF.out i M Rr hlt Hm.out (q : Int)
          obtain ⟨n, hn⟩ : ∃ n, sp.length = n := ⟨_, rfl⟩
          have Hn : Hid (sp.length = n) := hn
          rw [hn] at hsp
          have HP1 : Hid (Calls Try.prog 20 #[.pointer (some ⟨M.b, 0, none⟩), .int .i64 (q : Int)] wr fun e w' => FrPo wr w' sp e) := (show Calls _ _ _ _ _ from (hF wr hs.out).1)
          have HP2 : Hid (∀ D, Below wy.heap.size wy D -> Calls Try.prog 21 #[.pointer (some ⟨Rr.b, 0, none⟩), .int .i64 (q : Int)] D fun e w' => FrQo D w' sp e) := fun D hb => (show Calls _ _ _ _ _ from (hF D hb).2)
          clear hF hn
          go_wp2_with fail
          refine HP1.out.mono ?_
          rintro e w3 ⟨fs, la, lc, rfl, hfs, hfr, hfb, hfn, hb3⟩
          have hl1 : fs.length = n := by rw [<- Hn.out, <- hfs, List.length_map]
          rw [hl1] at hfr ⊢
          have HB3 : Hid (Below wy.heap.size wy w3) := (show Below _ _ _ from bstep hs.out hb3)
          have HF3 : Hid (FRd w3 la n fs /\ (∀ f ∈ fs, f.y.Ok w3 wr.heap.size) /\ fs.map fmS = sp) := (show _ /\ _ /\ _ from ⟨FRd.of hfr, fun f hf => body_bn2 (hfb f hf).1 (hfb f hf).2, hfs⟩)
          have HPL : Hid (PlOk Yz w3 B T) := (show PlOk _ _ _ _ from HZ.out.still HB3.out)
          have cD3 : w3.cell? ⟨yb, 3 + i, none⟩ = some (.pointer (some ⟨Rr.b, 0, none⟩)) := bA hb3 cD
          have Hws : Hid (wr.heap.size ≤ w3.heap.size) := (show _ ≤ _ from hb3.size)
          clear hfs hfr hfb hfn hb3 hl1 HP1 cD cP
          go_wp2_with fail
          refine (HP2.out _ HB3.out).mono ?_
          rintro e w4 ⟨gs, wa, wc, rfl, hgs, hgr, hgb, hb4⟩
          have hl2 : gs.length = n := by rw [<- Hn.out, <- hgs, List.length_map]
          rw [hl2] at hgr ⊢
          have HB4 : Hid (Below wy.heap.size wy w4) := (show Below _ _ _ from bstep HB3.out hb4)
          have HF4 : Hid (FRd w4 la n fs /\ FRd w4 wa n gs /\ (∀ f ∈ fs, f.y.Ok w4 0) /\ (∀ g ∈ gs, g.y.Ok w4 0) /\ fs.map fmS = gs.map fmS) := (show _ /\ _ /\ _ /\ _ /\ _ from ⟨HF3.out.1.still hb4, FRd.of hgr, fun f hf => ((HF3.out.2.1 f hf).still hb4).lower (Nat.zero_le _), fun g hg => (hgb g hg).lower (Nat.zero_le _), by rw [HF3.out.2.2, hgs]⟩)
          clear hgs hgr hgb hb4 hl2 HP2 cD3 HF3 HB3 HPL Hws
          go_wp2
          by_cases hn0 : n = 0
          ·subst hn0
           go_loopw [9] (fun v9 wr => v9 = .int .i64 0 /\ Hid (Below wy.heap.size wy wr)) (fun _ _ => 0)
           case atStart => exact ⟨rfl, HB4⟩
           case round =>
            clear HB4
            obtain ⟨rfl, hs4⟩ := hrel
            go_wp2
            exact ⟨⟨q + 1, by omega, by go_num, hs4⟩, by simp [intOf]; omega⟩
          ·obtain ⟨lb, hlb⟩ := HF4.out.1.addr (by omega)
           obtain ⟨wb, hwb⟩ := HF4.out.2.1.addr (by omega)
           subst hlb
           subst hwb
           go_loopw [9] (fun v9 wr => ∃ k : Nat, k ≤ n /\ v9 = .int .i64 (k : Int) /\ Hid (Below wy.heap.size wy wr /\ Below w4.heap.size w4 wr)) (fun v9 _ => n - (intOf v9).toNat)
           case atStart => exact ⟨0, by omega, rfl, (show _ /\ _ from ⟨HB4.out, Below.refl _ _⟩)⟩
           case round =>
            clear HB4
            obtain ⟨k, hk, rfl, hs4⟩ := hrel
            by_cases hkn : k < n
            ·have k1 : (0 : Int) ≤ (k : Int) := Int.natCast_nonneg _
             have k2 : (k : Int) < (n : Int) := by omega
             obtain ⟨f, hf⟩ : ∃ f, fs[k]? = some f := ⟨_, List.getElem?_eq_getElem (by rw [HF4.out.1.len]; exact hkn)⟩
             obtain ⟨g, hg⟩ : ∃ g, gs[k]? = some g := ⟨_, List.getElem?_eq_getElem (by rw [HF4.out.2.1.len]; exact hkn)⟩
             obtain ⟨et, es, ey⟩ : g.t = f.t /\ g.s = f.s /\ g.y.bs = f.y.bs := by
              have h6 : (fs.map fmS)[k]? = (gs.map fmS)[k]? := by rw [HF4.out.2.2.2.2]
              rw [List.getElem?_map, List.getElem?_map, hf, hg] at h6
              simp [fmS] at h6
              exact ⟨h6.1.symm, h6.2.1.symm, h6.2.2.symm⟩
             have hof := (HF4.out.2.2.1 f (List.mem_of_getElem? hf)).still hs4.out.2
             have hog := (HF4.out.2.2.2.1 g (List.mem_of_getElem? hg)).still hs4.out.2
             have hR1 := HF4.out.1.still hs4.out.2
             have hR2 := HF4.out.2.1.still hs4.out.2
             have HSf : Hid (∀ D, Below wr.heap.size wr D -> Calls Try.prog 22 #[.agg #[.int .i64 f.t.e, .int .i64 f.t.l, .int .i64 f.t.i, .int .i64 f.t.c, .int .i64 f.s, .slice (some ⟨f.y.k, 0, none⟩) f.y.bs.length f.y.c], .agg #[.int .i64 f.t.e, .int .i64 f.t.l, .int .i64 f.t.i, .int .i64 f.t.c, .int .i64 f.s, .slice (some ⟨g.y.k, 0, none⟩) f.y.bs.length g.y.c]] D fun e w' => e = .returned (.bool true) /\ Below D.heap.size D w') := fun D hb => (show Calls _ _ _ _ _ from by
              have h7 := (hog.still hb).rd
              rw [ey] at h7
              exact sameF_any (hof.still hb).rd h7 (by have := hof.le; omega))
             have l0 : wr.cell? ⟨lb, k * 6, none⟩ = some (.int .i64 f.t.e) := hR1.cells rfl hf 0 rfl
             have l1 : wr.cell? ⟨lb, k * 6 + 1, none⟩ = some (.int .i64 f.t.l) := hR1.cells rfl hf 1 rfl
             have l2 : wr.cell? ⟨lb, k * 6 + 2, none⟩ = some (.int .i64 f.t.i) := hR1.cells rfl hf 2 rfl
             have l3 : wr.cell? ⟨lb, k * 6 + 3, none⟩ = some (.int .i64 f.t.c) := hR1.cells rfl hf 3 rfl
             have l4 : wr.cell? ⟨lb, k * 6 + 4, none⟩ = some (.int .i64 f.s) := hR1.cells rfl hf 4 rfl
             have l5 : wr.cell? ⟨lb, k * 6 + 5, none⟩ = some (.slice (some ⟨f.y.k, 0, none⟩) f.y.bs.length f.y.c) := hR1.cells rfl hf 5 rfl
             have v0 : wr.cell? ⟨wb, k * 6, none⟩ = some (.int .i64 f.t.e) := by rw [<- et]; exact hR2.cells rfl hg 0 rfl
             have v1 : wr.cell? ⟨wb, k * 6 + 1, none⟩ = some (.int .i64 f.t.l) := by rw [<- et]; exact hR2.cells rfl hg 1 rfl
             have v2 : wr.cell? ⟨wb, k * 6 + 2, none⟩ = some (.int .i64 f.t.i) := by rw [<- et]; exact hR2.cells rfl hg 2 rfl
             have v3 : wr.cell? ⟨wb, k * 6 + 3, none⟩ = some (.int .i64 f.t.c) := by rw [<- et]; exact hR2.cells rfl hg 3 rfl
             have v4 : wr.cell? ⟨wb, k * 6 + 4, none⟩ = some (.int .i64 f.s) := by rw [<- es]; exact hR2.cells rfl hg 4 rfl
             have v5 : wr.cell? ⟨wb, k * 6 + 5, none⟩ = some (.slice (some ⟨g.y.k, 0, none⟩) f.y.bs.length g.y.c) := by rw [<- ey]; exact hR2.cells rfl hg 5 rfl
             have Hby := hs4
             clear hs4 hof hog hR1 hR2 et es ey hf hg hkn hk
             go_wp2
             refine wp_region_held_drew (S := (fun w' => w'.cell? ⟨lb, k * 6, none⟩ = some (.int .i64 f.t.e) /\ w'.cell? ⟨lb, k * 6 + 1, none⟩ = some (.int .i64 f.t.l) /\ w'.cell? ⟨lb, k * 6 + 2, none⟩ = some (.int .i64 f.t.i) /\ w'.cell? ⟨lb, k * 6 + 3, none⟩ = some (.int .i64 f.t.c) /\ w'.cell? ⟨lb, k * 6 + 4, none⟩ = some (.int .i64 f.s) /\ w'.cell? ⟨lb, k * 6 + 5, none⟩ = some (.slice (some ⟨f.y.k, 0, none⟩) f.y.bs.length f.y.c) /\ w'.cell? ⟨wb, k * 6, none⟩ = some (.int .i64 f.t.e) /\ w'.cell? ⟨wb, k * 6 + 1, none⟩ = some (.int .i64 f.t.l) /\ w'.cell? ⟨wb, k * 6 + 2, none⟩ = some (.int .i64 f.t.i) /\ w'.cell? ⟨wb, k * 6 + 3, none⟩ = some (.int .i64 f.t.c) /\ w'.cell? ⟨wb, k * 6 + 4, none⟩ = some (.int .i64 f.s) /\ w'.cell? ⟨wb, k * 6 + 5, none⟩ = some (.slice (some ⟨g.y.k, 0, none⟩) f.y.bs.length g.y.c))) (by kernel_rfl) ⟨(dW0 l0), (dW0 l1), (dW0 l2), (dW0 l3), (dW0 l4), (dW0 l5), (dW0 v0), (dW0 v1), (dW0 v2), (dW0 v3), (dW0 v4), (dW0 v5)⟩ (fun hH => ?_)
             simp only [Act.put, lA, lC, lN, zA]
             refine tG 0 126 (.slice (some ⟨lb, 0, none⟩) n lc) rfl hH ?_
             simp only [aP, sA, sZ, sC]
             refine tG 1 127 (.int .i64 (k : Int)) rfl hH ?_
             simp only [aP, sA, sZ, sC]
             refine tG 2 128 (.pointer (some ⟨lb, k * 6, none⟩)) rfl hH ?_
             simp only [aP, sA, sZ, sC]
             refine tL 3 129 (.agg #[.int .i64 f.t.e, .int .i64 f.t.l, .int .i64 f.t.i, .int .i64 f.t.c, .int .i64 f.s, .slice (some ⟨f.y.k, 0, none⟩) f.y.bs.length f.y.c]) rfl hH ?_
             simp only [aP, sA, sZ, sC]
             refine tG 4 130 (.slice (some ⟨wb, 0, none⟩) n wc) rfl hH ?_
             simp only [aP, sA, sZ, sC]
             refine tG 5 131 (.int .i64 (k : Int)) rfl hH ?_
             simp only [aP, sA, sZ, sC]
             refine tG 6 132 (.pointer (some ⟨wb, k * 6, none⟩)) rfl hH ?_
             simp only [aP, sA, sZ, sC]
             refine tL 7 133 (.agg #[.int .i64 f.t.e, .int .i64 f.t.l, .int .i64 f.t.i, .int .i64 f.t.c, .int .i64 f.s, .slice (some ⟨g.y.k, 0, none⟩) f.y.bs.length g.y.c]) rfl hH ?_
             simp only [aP, sA, sZ, sC]
             have hbD1 : Below wr.heap.size wr wr.drew := dB _
             have q0 := bA hbD1 l0
             have q1 := bA hbD1 l1
             have q2 := bA hbD1 l2
             have q3 := bA hbD1 l3
             have q4 := bA hbD1 l4
             have q5 := bA hbD1 l5
             have q6 := bA hbD1 v0
             have q7 := bA hbD1 v1
             have q8 := bA hbD1 v2
             have q9 := bA hbD1 v3
             have q10 := bA hbD1 v4
             have q11 := bA hbD1 v5
             generalize wr.drew = D1 at *
             refine rY 8 rfl fun K hK => ?_
             go_simp
             refine (HSf.out D1 hbD1).mono ?_
             rintro e w2 ⟨rfl, hb2⟩
             refine hK.out _ _ ⟨(bA hb2 q0), (bA hb2 q1), (bA hb2 q2), (bA hb2 q3), (bA hb2 q4), (bA hb2 q5), (bA hb2 q6), (bA hb2 q7), (bA hb2 q8), (bA hb2 q9), (bA hb2 q10), (bA hb2 q11)⟩ (fun hH => ?_)
             clear hK K
             refine tG 9 135 (.bool false) rfl hH ?_
             simp only [aP, sA, sZ, sC]
             refine wpAnyH_done (by kernel_rfl) ?_ _
             clear hH
             have HN : Hid (Below wy.heap.size wy w2 /\ Below w4.heap.size w4 w2) := (show _ /\ _ from ⟨bstep (bstep Hby.out.1 hbD1) hb2, bstep (bstep Hby.out.2 hbD1) hb2⟩)
             clear hb2 hbD1 l0 v0 l1 v1 l2 v2 l3 v3 l4 v4 l5 v5 q0 q1 q2 q3 q4 q5 q6 q7 q8 q9 q10 q11 HSf Hby
             go_wp2
             exact ⟨⟨k + 1, by omega, by go_num, HN⟩, by simp [intOf]; omega⟩
            ·have k2 : ¬ (k : Int) < (n : Int) := by omega
             have hs5 : Hid (Below wy.heap.size wy wr) := (show Below _ _ _ from hs4.out.1)
             clear hs4
             go_wp2
             exact ⟨⟨q + 1, by omega, by go_num, hs5⟩, by simp [intOf]; omega⟩
         ·have q1 : ¬ (q : Int) < 16 := by omega
          go_wp2
          exact ⟨⟨i + 1, by omega, by go_num, hs⟩, by simp [intOf]; omega⟩
      ·have i2 : ¬ (i : Int) < 3 := by omega
       have HIe : Hid (Calls Try.prog 14 #[.pointer (some ⟨yb, 0, none⟩)] wr fun e w1 => e = .returned (.bool true) /\ Hid (∃ Yz : Pl, PlOk Yz w1 B T /\ Yz.b = yb /\ Below B w w1)) := (show Calls _ _ _ _ _ from HI.out wr ⟨Yz, HZ.out.still hs.out, HZb.out, HZw.out.trans (hs.out.mono HZ.out.bk.b)⟩)
       clear hs
       go_wp2_with (first | (go_at_call 14; refine HIe.out.mono ?_; rintro e w9 ⟨rfl, H9⟩) | fail)
       go_ret
       refine ⟨rfl, ?_⟩
       obtain ⟨_, _, _, hb9⟩ := H9.out
       exact hb9
end
end Go.Proofs.Ythanifbimndhaaa.Ln
