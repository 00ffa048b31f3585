import Derived.Test.YthanifbimndhaaaM13
namespace Go.Proofs.Ythanifbimndhaaa.Ln
set_option maxHeartbeats 40000000
open Go.RowKit Mb
set_option linter.unusedVariables false
set_option maxRecDepth 100000
set_option linter.unusedSimpArgs false
def flt (g : Nat) (l : List (Nat × Bn)) : List (Nat × Bn) := l.filter fun x => decide (g < x.1)
theorem flt_le (g : Nat) (l : List (Nat × Bn)) : (flt g l).length ≤ l.length := List.length_filter_le _ _
theorem flt_mono (g : Nat) : ∀ l : List (Nat × Bn), (flt (g + 1) l).length ≤ (flt g l).length
 | [] => by simp [flt]
 | x :: l => by
   have ih := flt_mono g l
   unfold flt at ih ⊢
   by_cases h1 : g + 1 < x.1
   ·rw [List.filter_cons_of_pos (by simpa using h1), List.filter_cons_of_pos (by simp; omega)]
    simp only [List.length_cons]; omega
   ·rw [List.filter_cons_of_neg (by simpa using h1)]
    by_cases h2 : g < x.1
    ·rw [List.filter_cons_of_pos (by simpa using h2)]; simp only [List.length_cons]; omega
    ·rw [List.filter_cons_of_neg (by simpa using h2)]; exact ih
theorem flt_drop (g : Nat) : ∀ {l : List (Nat × Bn)} {y : Bn}, (g + 1, y) ∈ l -> (flt (g + 1) l).length + 1 ≤ (flt g l).length
 | [], y, h => by cases h
 | x :: l, y, h => by
   have hm := flt_mono g l
   unfold flt at hm ⊢
   rcases List.mem_cons.1 h with rfl | h
   ·rw [List.filter_cons_of_neg (by simp), List.filter_cons_of_pos (by simp)]
    simp only [List.length_cons]; omega
   ·have ih := flt_drop g h
    unfold flt at ih
    by_cases h1 : g + 1 < x.1
    ·rw [List.filter_cons_of_pos (by simpa using h1), List.filter_cons_of_pos (by simp; omega)]
     simp only [List.length_cons]; omega
    ·rw [List.filter_cons_of_neg (by simpa using h1)]
     by_cases h2 : g < x.1
     ·rw [List.filter_cons_of_pos (by simpa using h2)]; simp only [List.length_cons]; omega
     ·rw [List.filter_cons_of_neg (by simpa using h2)]; exact ih
theorem flt_all {l : List (Nat × Bn)} {g : Nat} : ∀ m, (∀ i, i < m -> ∃ y, (g + 1 + i, y) ∈ l) -> m + (flt (g + m) l).length ≤ l.length
 | 0, _ => by have := flt_le g l; simpa using this
 | m + 1, h => by
   have ih := flt_all m (fun i hi => h i (by omega))
   obtain ⟨y, hy⟩ := h m (by omega)
   have := flt_drop (g + m) (y := y) (by rw [show g + m + 1 = g + 1 + m by omega]; exact hy)
   rw [show g + (m + 1) = g + m + 1 by omega]
   omega
section
variable {w w' W : World} {B T : Nat} {R R' : Rx} {r r' : Rn} {l : List (Nat × Bn)}
theorem early_info : ∃ i : TypeInfo, Try.prog.info? 122 = some i /\ i.zero = some (.agg #[.int .i64 0, .slice none 0 0]) /\ i.size = 2 /\ i.bytes = 32 := by
 have h : (Try.prog.info? 122).map (fun i => (i.zero, i.size, i.bytes)) = some (some (.agg #[.int .i64 0, .slice none 0 0]), 2, 32) := by kernel_rfl
 cases hq : Try.prog.info? 122 with
 | none => rw [hq] at h; cases h
 | some i => rw [hq] at h; simp at h; exact ⟨i, rfl, h.1, h.2.1, h.2.2⟩
theorem info_early : (Try.prog.info? 122).map (·.size) = some 2 := by kernel_rfl
theorem step_pushEa {ops : Array Oper} {o : Oper} {a : Act} {K : Act -> World -> Prop} {Q : Exit -> Act -> World -> Prop} {E : Prop} (hgd : o.guard = none) (s x : Operand)
  (ho : o.op = .call { callee := .builtin .append, args := #[s, x], argTypes := #[105, 105] })
  (w0 : World) (v : Value) (vals : List Value) (L : List Value) (hL : L.length = 2) (hL1 : ∀ u ∈ L, u.oneCell' = true) (hs : a.eval s = v) (n : Nat) (hown : w0.ownsRow B 122 2 v n vals) (hw : w = w0.alloc (.cells L.toArray 122)) (hx : a.eval x = .slice (some ⟨w0.heap.size, 0, none⟩) 1 1)
  (hn : n + 1 ≤ 1000000) (hbase : B ≤ w0.heap.size)
  (h : ∀ g cap w', w'.ownsRow B 122 2 (.slice (some ⟨g, 0, none⟩) (n + 1) cap) (n + 1) (vals ++ L) -> Kept w0 w' (fun k => v.ownBlock = some k) -> (v.ownBlock = some g ∨ w0.heap.size ≤ g) -> g < w'.heap.size -> K (a.put o.dst (.slice (some ⟨g, 0, none⟩) (n + 1) cap)) w') : if Region.wanted o (yielded ops a.tmps) = true then Oper.wp Try.prog o a w K Q else E := by
 obtain ⟨i0, hi, hz0, hz1, hz2⟩ := early_info
 subst hw
 refine step_append_lies _ hgd s x 105 ho B 122 i0 (.agg #[.int .i64 0, .slice none 0 0]) 2 32 Try.underlying105 hi hz0 hz1 hz2 rfl (by decide) v n vals hs (World.ownsRow.alloc hown _) ⟨w0.heap.size, 0, none⟩ 1 1 L hx (by rw [hL]) (fun j y hy => by rw [Addr.add_mid, Nat.zero_add, bC (heap_alloc_new _ _), List.getElem?_toArray, hy]) hL1 (by omega) (by unfold maxLen; omega) (by omega) (by simp; omega) _ rfl fun g cap w' h2 h3 h4 h5 => h g cap w' h2 ?_ ?_ h5
 ·exact (Kept.ofBelow ((Below.refl _ w0).alloc (Nat.le_refl _) (.cells L.toArray 122)) _).step (Kept.ofGrown h3) (fun j hj => .inl hj.symm)
 ·rcases h4 with h4 | h4
  ·exact .inl h4
  ·right; rw [h4]; simp
theorem wl_pushEa {ops : Array Oper} {rest : List Oper} {o : Oper} {a : Act} {Q : Exit -> Act -> World -> Prop} (hgd : o.guard = none) (s x : Operand)
  (ho : o.op = .call { callee := .builtin .append, args := #[s, x], argTypes := #[105, 105] })
  (w0 : World) (v : Value) (vals : List Value) (L : List Value) (hL : L.length = 2) (hL1 : ∀ u ∈ L, u.oneCell' = true) (hs : a.eval s = v) (n : Nat) (hown : w0.ownsRow B 122 2 v n vals) (hw : w = w0.alloc (.cells L.toArray 122)) (hx : a.eval x = .slice (some ⟨w0.heap.size, 0, none⟩) 1 1)
  (hn : n + 1 ≤ 1000000) (hbase : B ≤ w0.heap.size)
  (h : ∀ g cap w', w'.ownsRow B 122 2 (.slice (some ⟨g, 0, none⟩) (n + 1) cap) (n + 1) (vals ++ L) -> Kept w0 w' (fun k => v.ownBlock = some k) -> (v.ownBlock = some g ∨ w0.heap.size ≤ g) -> g < w'.heap.size -> wpList Try.prog ops Q rest (a.put o.dst (.slice (some ⟨g, 0, none⟩) (n + 1) cap)) w') : wpList Try.prog ops Q (o :: rest) a w :=
 wpList_step fun K hK => step_pushEa hgd s x ho w0 v vals L hL hL1 hs n hown hw hx hn hbase fun g cap w' h2 h3 h4 h5 => hK _ _ (h g cap w' h2 h3 h4 h5)
theorem wl_pushB {ops : Array Oper} {rest : List Oper} {o : Oper} {a : Act} {Q : Exit -> Act -> World -> Prop} (hgd : o.guard = none) (s x : Operand)
  (ho : o.op = .call { callee := .builtin .append, args := #[s, x], argTypes := #[49, 49] })
  (w0 : World) (base : Nat) (v : Value) (vals : List Value) (y : Value) (hs : a.eval s = v) (n : Nat) (hown : w0.ownsRow base 40 1 v n vals) (hw : w = w0.alloc (.cells #[y] 40)) (hx : a.eval x = .slice (some ⟨w0.heap.size, 0, none⟩) 1 1) (hy : y.oneCell' = true)
  (hn : n + 1 ≤ 1000000) (hbase : base ≤ w0.heap.size)
  (h : ∀ g cap w', w'.ownsRow base 40 1 (.slice (some ⟨g, 0, none⟩) (n + 1) cap) (n + 1) (vals ++ [y]) -> Kept w0 w' (fun k => v.ownBlock = some k) -> (v.ownBlock = some g ∨ w0.heap.size ≤ g) -> g < w'.heap.size -> wpList Try.prog ops Q rest (a.put o.dst (.slice (some ⟨g, 0, none⟩) (n + 1) cap)) w') : wpList Try.prog ops Q (o :: rest) a w :=
 wpList_step fun K hK => step_push hgd s x ho w0 base v vals y hs n hown hw hx hy hn hbase fun g cap w' h2 h3 h4 h5 => hK _ _ (h g cap w' h2 h3 h4 h5)
def PP (R : Rx) (k : Nat) (j : Nat) : Prop := j = R.g ∨ (R.es k).pv.ownBlock = some j ∨ (R.es k).ev.ownBlock = some j
def tkN (r : Rn) (ev' : Value) (l : List (Nat × Bn)) (m : Nat) : Rn := { r with ow := true, ev := ev', ea := l, gt := r.gt + m }
structure TkS (w wr : World) (R : Rx) (k : Nat) (r : Rn) (B : Nat) (l : List (Nat × Bn)) (ev' : Value) (m : Nat) (o : List Bn) (v8 : Value) : Prop where
 blk : wr.heap[R.b]? = some (.cells R.cs 110 (0, 0))
 row : Rk wr R.g 107 (R.n * 6) (rrf (upd R.es k (tkN r ev' l m)))
 re : wr.ownsRow B 122 2 ev' l.length (l.flatMap eac)
 rp : wr.ownsRow B 40 1 r.pv r.ps.length (r.ps.map Bn.v)
 be : ∀ x ∈ l, x.2.Ok wr B
 bn : ∀ x ∈ l, (∃ x' ∈ r.ea, x'.2 = x.2) ∨ w.heap.size ≤ x.2.k
 ro : wr.ownsRow w.heap.size 40 1 v8 m (o.map Bn.v)
 len : o.length = m
 at_ : ∀ i, i < m -> ∃ y, o[i]? = some y /\ (r.gt + 1 + i, y) ∈ l
 kept : Kept w wr (PP R k)
 eg : ∀ j, ev'.ownBlock = some j -> (R.es k).ev.ownBlock = some j ∨ w.heap.size ≤ j
theorem TkS.still {wr w2 : World} {k m : Nat} {ev' v8 : Value} {o : List Bn} (h : TkS w wr R k r B l ev' m o v8) (hb : Below wr.heap.size wr w2) : TkS w w2 R k r B l ev' m o v8 :=
 { h with blk := (hb.block _ (lt_heap h.blk)).trans h.blk, row := h.row.keep (Kept.ofBelow hb (fun _ => False)) id, re := own_still h.re hb, rp := own_still h.rp hb, be := fun x hx => (h.be x hx).still hb, ro := own_still h.ro hb, kept := h.kept.trans (Kept.ofBelow hb _) }
theorem tk_first {U D6 w6 w7 : World} {k u gg cap : Nat} {y : Bn} (h : R.Ok w B T) (hk : k < R.n) (he : R.es k = r) (hU : (R.put k { r with ow := true }).Ok U B T) (hKU : Kept w U (PP R k)) (hb : Below U.heap.size U D6) (hc : Below D6.heap.size D6 w6) (hB : B ≤ w.heap.size) (hy : y.Ok w6 D6.heap.size)
  (ho : w7.ownsRow B 122 2 (.slice (some ⟨gg, 0, none⟩) (r.ea.length + 1) cap) (r.ea.length + 1) (r.ea.flatMap eac ++ [.int .i64 (u : Int), y.v])) (hk7 : Kept w6 w7 (fun j => r.ev.ownBlock = some j)) (hg : r.ev.ownBlock = some gg ∨ w6.heap.size ≤ gg) :
  TkS w (w7.setCell ⟨R.g, k * 6 + 4, none⟩ (.slice (some ⟨gg, 0, none⟩) (r.ea.length + 1) cap)) R k r B (r.ea ++ [(u, y)]) (.slice (some ⟨gg, 0, none⟩) (r.ea.length + 1) cap) 0 [] (.slice none 0 0) := by
 have hb6 : Below U.heap.size U w6 := bstep hb hc
 have h6 := hU.still hb6
 have hr := h6.el k hk
 have e1 : (R.put k { r with ow := true }).es k = { r with ow := true } := upd_same _ _ _
 rw [e1] at hr
 have hrp : w6.ownsRow B 40 1 r.pv r.ps.length (r.ps.map Bn.v) := hr.rp
 have hre : w6.ownsRow B 122 2 r.ev r.ea.length (r.ea.flatMap eac) := hr.re
 have hbe : ∀ x ∈ r.ea, x.2.Ok w6 B := hr.be
 have hte : ∀ j, r.ev.ownBlock = some j -> ∃ C, w6.heap[j]? = some (.cells C 122 (0, 0)) := fun j hj => own_ty hre hj
 have hgn : ∀ j, r.ev.ownBlock = some j -> ¬ j = R.g := fun j hj e => by obtain ⟨C, hC⟩ := hte j hj; exact h6.row.ne hC (by decide) e.symm
 have k1 : Kept w7 (w7.setCell ⟨R.g, k * 6 + 4, none⟩ (.slice (some ⟨gg, 0, none⟩) (r.ea.length + 1) cap)) (fun j => j = R.g) := kset _ _ _ _ rfl
 have hgg : ¬ gg = R.g := by
  rcases hg with hg | hg
  ·exact hgn gg hg
  ·intro e; have : R.g < w6.heap.size := h6.row.lt; omega
 have hrow7 : Rk w7 R.g 107 (R.n * 6) (rrf (upd R.es k { r with ow := true })) := h6.row.keep hk7 (fun e => hgn _ e rfl)
 have hbb : R.b ≠ R.g := h.b_g
 have hyne : ∀ z : Bn, ∀ B', z.Ok w6 B' -> ¬ r.ev.ownBlock = some z.k /\ ¬ z.k = R.g := fun z B' hz => ⟨fun e => by obtain ⟨C, hC⟩ := hte _ e; exact hz.ne hC (by decide) rfl, fun e => by obtain ⟨C, hC, _⟩ := h6.row; exact hz.ne hC (by decide) e⟩
 refine ⟨?_, ?_, ?_, ?_, fun x hx => ?_, fun x hx => ?_, ⟨rfl, .inl ⟨rfl, rfl⟩⟩, rfl, fun i hi => by omega, ?_, fun j hj => ?_⟩
 ·refine k1.obj (hk7.obj h6.blk fun e => ?_) hbb
  obtain ⟨C, hC⟩ := hte _ e
  exact blk_ne hC h6.blk (by decide) rfl
 ·refine (hrow7.set _ _).congr fun j _ => ?_
  have := rrf_upd (r' := tkN r (.slice (some ⟨gg, 0, none⟩) (r.ea.length + 1) cap) (r.ea ++ [(u, y)]) 0) (upd R.es k { r with ow := true }) k 4 (.slice (some ⟨gg, 0, none⟩) (r.ea.length + 1) cap) (by omega) (by rw [upd_same]; rfl) j
  rw [upd_twice] at this
  exact this
 ·rw [List.length_append, List.flatMap_append]
  exact k1.owns ho fun j hj e => by cases hj; exact hgg e
 ·refine k1.owns (hk7.owns hrp fun j hj e => ?_) fun j hj e => ?_
  ·obtain ⟨C, hC⟩ := own_ty hrp hj; obtain ⟨C', hC'⟩ := hte _ e; exact blk_ne hC hC' (by decide) rfl
  ·obtain ⟨C, hC⟩ := own_ty hrp hj; exact h6.row.ne hC (by decide) e.symm
 ·rcases List.mem_append.1 hx with hx | hx
  ·have hz := hyne x.2 B (hbe x hx)
   exact ((hbe x hx).keep hk7 hz.1).keep k1 hz.2
  ·simp at hx
   subst hx
   have hz := hyne y _ hy
   have h1 : B ≤ D6.heap.size := Nat.le_trans hB (Nat.le_trans hKU.size hb.size)
   exact ((hy.keep hk7 hz.1).keep k1 hz.2).lower h1
 ·rcases List.mem_append.1 hx with hx | hx
  ·exact .inl ⟨x, hx, rfl⟩
  ·simp at hx
   subst hx
   exact .inr (Nat.le_trans (Nat.le_trans hKU.size hb.size) hy.lo)
 ·refine ((hKU.trans (Kept.ofBelow hb6 _)).step hk7 fun j hj => .inl (.inr (.inr (by rw [he]; exact hj)))).step k1 fun j hj => .inl (.inl hj)
 ·cases hj
  rcases hg with hg | hg
  ·exact .inl (by rw [he]; exact hg)
  ·exact .inr (Nat.le_trans hKU.size (Nat.le_trans hb6.size hg))
theorem TkS.ty8 {wr : World} {k m : Nat} {ev' v8 : Value} {o : List Bn} (h : TkS w wr R k r B l ev' m o v8) {j : Nat} (hj : v8.ownBlock = some j) : (∃ C, wr.heap[j]? = some (.cells C 40 (0, 0))) /\ w.heap.size ≤ j := ⟨own_ty h.ro hj, (World.ownsRow.lt h.ro j hj).1⟩
theorem TkS.push {wr w4 : World} {k m gg cap : Nat} {ev' v8 : Value} {o : List Bn} {y : Bn} (h : TkS w wr R k r B l ev' m o v8) (hR : R.Ok w B T) (hk : k < R.n) (he : R.es k = r) (hy : (r.gt + 1 + m, y) ∈ l) (ho : w4.ownsRow w.heap.size 40 1 (.slice (some ⟨gg, 0, none⟩) (m + 1) cap) (m + 1) (o.map Bn.v ++ [y.v])) (hk4 : Kept wr w4 (fun j => v8.ownBlock = some j)) :
  (w4.cell? ⟨R.g, k * 6 + 3, none⟩ = some (.int .i64 ((r.gt + m : Nat) : Int)) /\ w4.frozen? ⟨R.g, k * 6 + 3, none⟩ = false /\ w4.cell? ⟨R.b, 8, none⟩ = some (.slice (some ⟨R.g, 0, none⟩) R.n R.c)) /\ TkS w (w4.setCell ⟨R.g, k * 6 + 3, none⟩ (.int .i64 ((r.gt + (m + 1) : Nat) : Int))) R k r B l ev' (m + 1) (o ++ [y]) (.slice (some ⟨gg, 0, none⟩) (m + 1) cap) := by
 have hlo : ∀ j, v8.ownBlock = some j -> w.heap.size ≤ j := fun j hj => (h.ty8 hj).2
 have hgw : R.g < w.heap.size := hR.row.lt
 have hbw : R.b < w.heap.size := lt_heap hR.blk
 have k1 : Kept w4 (w4.setCell ⟨R.g, k * 6 + 3, none⟩ (.int .i64 ((r.gt + (m + 1) : Nat) : Int))) (fun j => j = R.g) := kset _ _ _ _ rfl
 have hrow4 := h.row.keep hk4 (fun e => by have := hlo _ e; omega)
 have hblk4 := hk4.obj h.blk (fun e => by have := hlo _ e; omega)
 have hne1 : ∀ {t s n : Nat} {v : Value} {xs : List Value}, wr.ownsRow B t s v n xs -> t ≠ 40 -> ∀ j, v.ownBlock = some j -> ¬ v8.ownBlock = some j := fun hv ht j hj e => by
  obtain ⟨C, hC⟩ := own_ty hv hj
  obtain ⟨C', hC'⟩ := (h.ty8 e).1
  exact blk_ne hC hC' ht rfl
 refine ⟨⟨?_, hrow4.fz _, bC hblk4 8⟩, ?_⟩
 ·rw [hrow4.cell _ (by omega), rrf_at _ _ _ (by omega), upd_same]
  rfl
 ·refine ⟨k1.obj hblk4 hR.b_g, ?_, ?_, ?_, fun x hx => ?_, h.bn, ?_, by rw [List.length_append, h.len]; rfl, fun i hi => ?_, ?_, h.eg⟩
  ·refine (hrow4.set _ _).congr fun j _ => ?_
   have := rrf_upd (r' := tkN r ev' l (m + 1)) (upd R.es k (tkN r ev' l m)) k 3 (.int .i64 ((r.gt + (m + 1) : Nat) : Int)) (by omega) (by rw [upd_same]; rfl) j
   rw [upd_twice] at this
   exact this
  ·refine k1.owns (hk4.owns h.re (hne1 h.re (by decide))) fun j hj e => ?_
   obtain ⟨C, hC⟩ := own_ty h.re hj; exact h.row.ne hC (by decide) e.symm
  ·refine k1.owns (hk4.owns h.rp fun j hj e => ?_) fun j hj e => ?_
   ·have h1 := hlo _ e
    have h2 : j < w.heap.size := hR.lt (.inr (.inr ⟨k, hk, .inl (by rw [he]; exact hj)⟩))
    omega
   ·obtain ⟨C, hC⟩ := own_ty h.rp hj; exact h.row.ne hC (by decide) e.symm
  ·refine ((h.be x hx).keep hk4 fun e => ?_).keep k1 fun e => ?_
   ·obtain ⟨C, hC⟩ := (h.ty8 e).1; exact (h.be x hx).ne hC (by decide) rfl
   ·obtain ⟨C, hC, _⟩ := h.row; exact (h.be x hx).ne hC (by decide) e
  ·rw [List.map_append]
   refine k1.owns ho fun j hj e => ?_
   have := (World.ownsRow.lt ho j hj).1
   have e' : j = R.g := e
   omega
  ·by_cases e : i < m
   ·obtain ⟨y', h1, h2⟩ := h.at_ i e
    exact ⟨y', by rw [List.getElem?_append_left (by rw [h.len]; exact e)]; exact h1, h2⟩
   ·obtain rfl : i = m := by omega
    exact ⟨y, by rw [List.getElem?_append_right (by rw [h.len]; exact Nat.le_refl _), h.len]; simp, hy⟩
  ·exact (h.kept.step hk4 fun j hj => .inr (hlo j hj)).step k1 fun j hj => .inl (.inl hj)
end
section
variable {w w' W : World} {B T : Nat} {R R' : Rx} {r r' : Rn} {l : List (Nat × Bn)}
structure TkL (w D2 wr : World) (R : Rx) (k : Nat) (r : Rn) (B : Nat) (l : List (Nat × Bn)) (ev' : Value) (m : Nat) (o : List Bn) (v8 : Value) (i : Nat) (v10 : Value) : Prop where
 tk : TkS w wr R k r B l ev' m o v8
 rl : wr.ownsRow D2.heap.size 122 2 v10 (flt (r.gt + m) (l.take i)).length ((flt (r.gt + m) (l.take i)).flatMap eac)
 sz : D2.heap.size ≤ wr.heap.size
 ne : ∀ j, ev'.ownBlock = some j -> j < D2.heap.size
 n8 : ∀ j, v8.ownBlock = some j -> j < D2.heap.size
 wz : w.heap.size ≤ D2.heap.size
theorem TkS.two {D2 : World} {k m : Nat} {ev' v8 : Value} {o : List Bn} (h : TkS w D2 R k r B l ev' m o v8) : TkL w D2 D2 R k r B l ev' m o v8 0 (.slice none 0 0) :=
 ⟨h, ⟨rfl, .inl ⟨rfl, rfl⟩⟩, Nat.le_refl _, fun j hj => (World.ownsRow.lt h.re j hj).2, fun j hj => (World.ownsRow.lt h.ro j hj).2, h.kept.size⟩
theorem TkL.still {D2 wr w2 : World} {k m i : Nat} {ev' v8 v10 : Value} {o : List Bn} (h : TkL w D2 wr R k r B l ev' m o v8 i v10) (hb : Below wr.heap.size wr w2) : TkL w D2 w2 R k r B l ev' m o v8 i v10 :=
 ⟨h.tk.still hb, own_still h.rl hb, Nat.le_trans h.sz hb.size, h.ne, h.n8, h.wz⟩
theorem flt_no {g i : Nat} {x : Nat × Bn} (hx : l[i]? = some x) (hn : ¬ g < x.1) : flt g (l.take (i + 1)) = flt g (l.take i) := by
 unfold flt
 rw [List.take_add_one, hx, List.filter_append]
 simp [hn]
theorem flt_yes {g i : Nat} {x : Nat × Bn} (hx : l[i]? = some x) (hn : g < x.1) : flt g (l.take (i + 1)) = flt g (l.take i) ++ [x] := by
 unfold flt
 rw [List.take_add_one, hx, List.filter_append]
 simp [hn]
theorem TkL.no {D2 wr : World} {k m i : Nat} {ev' v8 v10 : Value} {o : List Bn} {x : Nat × Bn} (h : TkL w D2 wr R k r B l ev' m o v8 i v10) (hx : l[i]? = some x) (hn : ¬ r.gt + m < x.1) : TkL w D2 wr R k r B l ev' m o v8 (i + 1) v10 :=
 ⟨h.tk, by rw [flt_no hx hn]; exact h.rl, h.sz, h.ne, h.n8, h.wz⟩
theorem TkS.far {wr w4 : World} {k m : Nat} {ev' v8 : Value} {o : List Bn} {P : Nat -> Prop} (h : TkS w wr R k r B l ev' m o v8) (hR : R.Ok w B T) (hk4 : Kept wr w4 P) (hP : ∀ j, P j -> w.heap.size ≤ j /\ ¬ ev'.ownBlock = some j /\ ¬ v8.ownBlock = some j /\ ¬ r.pv.ownBlock = some j /\ ∀ x ∈ l, ¬ x.2.k = j) : TkS w w4 R k r B l ev' m o v8 := by
 have hgw : R.g < w.heap.size := hR.row.lt
 have hbw : R.b < w.heap.size := lt_heap hR.blk
 exact { h with blk := hk4.obj h.blk (fun e => by have := (hP _ e).1; omega), row := h.row.keep hk4 (fun e => by have := (hP _ e).1; omega), re := hk4.owns h.re (fun j hj e => (hP j e).2.1 hj), rp := hk4.owns h.rp (fun j hj e => (hP j e).2.2.2.1 hj), be := fun x hx => (h.be x hx).keep hk4 (fun e => (hP _ e).2.2.2.2 x hx rfl), ro := hk4.owns h.ro (fun j hj e => (hP j e).2.2.1 hj), kept := h.kept.step hk4 (fun j hj => .inr (hP j hj).1) }
theorem TkL.yes {D2 wr w4 : World} {k m i gg cap : Nat} {ev' v8 v10 : Value} {o : List Bn} {x : Nat × Bn} (h : TkL w D2 wr R k r B l ev' m o v8 i v10) (hR : R.Ok w B T) (hx : l[i]? = some x) (hn : r.gt + m < x.1) (ho : w4.ownsRow D2.heap.size 122 2 (.slice (some ⟨gg, 0, none⟩) ((flt (r.gt + m) (l.take i)).length + 1) cap) ((flt (r.gt + m) (l.take i)).length + 1) ((flt (r.gt + m) (l.take i)).flatMap eac ++ eac x)) (hk4 : Kept wr w4 (fun j => v10.ownBlock = some j)) : TkL w D2 w4 R k r B l ev' m o v8 (i + 1) (.slice (some ⟨gg, 0, none⟩) ((flt (r.gt + m) (l.take i)).length + 1) cap) := by
 refine ⟨h.tk.far hR hk4 fun j hj => ?_, ?_, Nat.le_trans h.sz hk4.size, h.ne, h.n8, h.wz⟩
 ·have h1 := (World.ownsRow.lt h.rl j hj).1
  obtain ⟨C, hC⟩ := own_ty h.rl hj
  refine ⟨Nat.le_trans h.wz h1, fun e => ?_, fun e => ?_, fun e => ?_, fun z hz e => ?_⟩
  ·have := h.ne j e; omega
  ·have := h.n8 j e; omega
  ·obtain ⟨C', hC'⟩ := own_ty h.tk.rp e; exact blk_ne hC hC' (by decide) rfl
  ·subst e; exact (h.tk.be z hz).ne hC (by decide) rfl
 ·rw [flt_yes hx hn, List.length_append, List.flatMap_append]
  simpa using ho
structure TkF (w w' : World) (R : Rx) (k : Nat) (r : Rn) (B T u : Nat) (bs : List Int) (e : Ending) : Prop where
 out : ∃ (y : Bn) (m : Nat) (o : List Bn) (v8 v10 : Value), y.bs = bs /\ e = .returned (.tuple #[v8, .int .i64 0]) /\ Rstep w w' R (R.put k { r with ow := true, ev := v10, ea := flt (r.gt + m) (r.ea ++ [(u, y)]), gt := r.gt + m }) B (T + 1) /\ w'.ownsRow w.heap.size 40 1 v8 m (o.map Bn.v) /\ o.length = m /\ (∀ i, i < m -> ∃ z, o[i]? = some z /\ (r.gt + 1 + i, z) ∈ r.ea ++ [(u, y)]) /\ eaI (r.ea ++ [(u, y)]) (r.gt + m + 1) = none /\ (∀ z ∈ o, z.Ok w' B) /\ ∀ z ∈ o, (∃ x ∈ r.ea, x.2 = z) ∨ w.heap.size ≤ z.k
theorem TkL.fin {D2 wr : World} {k m u : Nat} {ev' v8 v10 : Value} {o : List Bn} {y : Bn} {bs : List Int} (h : TkL w D2 wr R k r B (r.ea ++ [(u, y)]) ev' m o v8 (r.ea.length + 1) v10) (hR : R.Ok w B T) (hB : B ≤ w.heap.size) (hk : k < R.n) (he : R.es k = r) (hT : T + 1 ≤ 1000) (hu : u ≤ 4611686018427387904) (hy : y.bs = bs) (hn : eaI (r.ea ++ [(u, y)]) (r.gt + m + 1) = none) : TkF w (wr.setCell ⟨R.g, k * 6 + 4, none⟩ v10) R k r B T u bs (.returned (.tuple #[v8, .int .i64 0])) := by
 have htk : (r.ea ++ [(u, y)]).take (r.ea.length + 1) = r.ea ++ [(u, y)] := List.take_of_length_le (by simp)
 have hrl := h.rl
 rw [htk] at hrl
 have hr := hR.el k hk
 rw [he] at hr
 have k1 : Kept wr (wr.setCell ⟨R.g, k * 6 + 4, none⟩ v10) (fun j => j = R.g) := kset _ _ _ _ rfl
 have hgw : R.g < w.heap.size := hR.row.lt
 have hng : ∀ {b t s n : Nat} {v : Value} {xs : List Value}, wr.ownsRow b t s v n xs -> t ≠ 107 -> ∀ j, v.ownBlock = some j -> ¬ j = R.g := fun hv ht j hj e => by
  obtain ⟨C, hC⟩ := own_ty hv hj
  exact h.tk.row.ne hC (fun e2 => ht e2.symm) e.symm
 have hbk : ∀ z : Bn, z.Ok wr B -> ¬ z.k = R.g := fun z hz e => by obtain ⟨C, hC, _⟩ := h.tk.row; exact hz.ne hC (by decide) e
 have hlen := flt_all (l := r.ea ++ [(u, y)]) (g := r.gt) m (fun i hi => by obtain ⟨z, _, h2⟩ := h.tk.at_ i hi; exact ⟨z, h2⟩)
 have hll : (r.ea ++ [(u, y)]).length = r.ea.length + 1 := by simp
 rw [hll] at hlen
 refine ⟨y, m, o, v8, v10, hy, rfl, ?_, k1.owns h.tk.ro (hng h.tk.ro (by decide)), h.tk.len, h.tk.at_, hn, fun z hz => ?_, fun z hz => ?_⟩
 ·refine hR.change (r' := { r with ow := true, ev := v10, ea := flt (r.gt + m) (r.ea ++ [(u, y)]), gt := r.gt + m }) hk ?_ ?_ ?_ ?_ (fun j hj => .inl (by rw [he]; exact hj)) (fun j hj => .inr (Nat.le_trans h.wz (World.ownsRow.lt hrl j hj).1)) (fun z hz => .inl (by rw [he]; exact hz)) (fun x hx => ?_) hr.s1 (by omega) hT (Nat.le_trans hr.s2 (by omega)) ?_ (fun x hx => ?_)
  ·exact h.tk.kept.step k1 fun j hj => .inl (.inl hj)
  ·refine (h.tk.row.set _ _).congr fun j _ => ?_
   have := rrf_upd (r' := { r with ow := true, ev := v10, ea := flt (r.gt + m) (r.ea ++ [(u, y)]), gt := r.gt + m }) (upd R.es k (tkN r ev' (r.ea ++ [(u, y)]) m)) k 4 v10 (by omega) (by rw [upd_same]; rfl) j
   rw [upd_twice] at this
   exact this
  ·exact k1.owns h.tk.rp (hng h.tk.rp (by decide))
  ·exact own_lower (k1.owns hrl (hng hrl (by decide))) (Nat.le_trans hB h.wz)
  ·have hx2 : x ∈ r.ea ++ [(u, y)] := (List.mem_filter.1 hx).1
   rcases h.tk.bn x hx2 with ⟨x', h1, h2⟩ | h1
   ·exact .inl ⟨x', by rw [he]; exact h1, h2⟩
   ·exact .inr ⟨(h.tk.be x hx2).keep k1 (hbk _ (h.tk.be x hx2)), h1⟩
  ·show r.gt + m + (flt (r.gt + m) (r.ea ++ [(u, y)])).length ≤ T + 1
   have := hr.s3
   omega
  ·have hx2 : x ∈ r.ea ++ [(u, y)] := (List.mem_filter.1 hx).1
   rcases List.mem_append.1 hx2 with hx3 | hx3
   ·exact hr.s4 x hx3
   ·simp at hx3; subst hx3; exact hu
 ·obtain ⟨i, hi⟩ := List.mem_iff_getElem?.1 hz
  have him : i < m := by rw [<- h.tk.len]; exact (List.getElem?_eq_some_iff.1 hi).1
  obtain ⟨z', h1, h2⟩ := h.tk.at_ i him
  rw [hi] at h1
  cases h1
  have := h.tk.be _ h2
  exact this.keep k1 (hbk _ this)
 ·obtain ⟨i, hi⟩ := List.mem_iff_getElem?.1 hz
  have him : i < m := by rw [<- h.tk.len]; exact (List.getElem?_eq_some_iff.1 hi).1
  obtain ⟨z', h1, h2⟩ := h.tk.at_ i him
  rw [hi] at h1
  cases h1
  exact h.tk.bn _ h2
end
def eaF (l : List (Nat × Bn)) (n : Nat) : Option (List Int) := (l.find? fun x => decide (x.1 = n)).map fun x => x.2.bs
def Uq (l : List (Nat × Bn)) : Prop := ∀ x ∈ l, ∀ y ∈ l, x.1 = y.1 -> x = y
section
variable {l : List (Nat × Bn)} {win : Nat} {E : Ep} {r : Rn}
theorem eaF_none : ∀ {l : List (Nat × Bn)} {n : Nat}, (∀ x ∈ l, x.1 ≠ n) -> eaF l n = none
 | [], n, _ => rfl
 | x :: l, n, h => by
   have h0 : ¬ x.1 = n := h x (List.mem_cons_self ..)
   have := eaF_none (l := l) (n := n) (fun y hy => h y (List.mem_cons_of_mem _ hy))
   unfold eaF at this ⊢
   rw [List.find?_cons_of_neg (by simpa using h0)]
   exact this
theorem eaF_mem : ∀ {l : List (Nat × Bn)} {n : Nat} {y : Bn}, Uq l -> (n, y) ∈ l -> eaF l n = some y.bs
 | [], n, y, _, h => by cases h
 | x :: l, n, y, hu, h => by
   by_cases h0 : x.1 = n
   ·have e : x = (n, y) := hu x (List.mem_cons_self ..) _ h h0
    unfold eaF
    rw [List.find?_cons_of_pos (by simpa using h0), e]
    rfl
   ·have h1 : (n, y) ∈ l := by
     rcases List.mem_cons.1 h with h | h
     ·rw [<- h] at h0; exact absurd rfl h0
     ·exact h
    have := eaF_mem (l := l) (n := n) (y := y) (fun a ha b hb => hu a (List.mem_cons_of_mem _ ha) b (List.mem_cons_of_mem _ hb)) h1
    unfold eaF at this ⊢
    rw [List.find?_cons_of_neg (by simpa using h0)]
    exact this
theorem eaF_some : ∀ {l : List (Nat × Bn)} {n : Nat} {c : List Int}, eaF l n = some c -> ∃ y, (n, y) ∈ l /\ y.bs = c
 | [], n, c, h => by simp [eaF] at h
 | x :: l, n, c, h => by
   by_cases h0 : x.1 = n
   ·unfold eaF at h
    rw [List.find?_cons_of_pos (by simpa using h0)] at h
    simp at h
    exact ⟨x.2, by rw [<- h0]; exact List.mem_cons_self .., h⟩
   ·have h2 : eaF l n = some c := by
     unfold eaF at h ⊢
     rw [List.find?_cons_of_neg (by simpa using h0)] at h
     exact h
    obtain ⟨y, h1, h3⟩ := eaF_some h2
    exact ⟨y, List.mem_cons_of_mem _ h1, h3⟩
theorem eaI_iff {n : Nat} : eaI l n = none ↔ ∀ x ∈ l, x.1 ≠ n := by
 constructor
 ·intro h x hx e
  obtain ⟨i, hi⟩ := List.mem_iff_getElem?.1 hx
  induction l generalizing i with
  | nil => cases hx
  | cons y l ih =>
   by_cases h0 : y.1 = n
   ·simp [eaI, h0] at h
   ·simp [eaI, h0] at h
    rcases List.mem_cons.1 hx with rfl | hx
    ·exact h0 e
    ·obtain ⟨i', hi'⟩ := List.mem_iff_getElem?.1 hx
     exact ih h hx i' hi'
 ·intro h
  exact eaI_none fun j y hy => h y (List.mem_of_getElem? hy)
theorem uq_app {u : Nat} {y : Bn} (h : Uq l) (hu : eaI l u = none) : Uq (l ++ [(u, y)]) := by
 have hn := eaI_iff.1 hu
 intro a ha b hb e
 rcases List.mem_append.1 ha with ha | ha
 ·rcases List.mem_append.1 hb with hb | hb
  ·exact h a ha b hb e
  ·simp at hb; subst hb; exact absurd e (hn a ha)
 ·simp at ha
  subst ha
  rcases List.mem_append.1 hb with hb | hb
  ·exact absurd e.symm (hn b hb)
  ·simp at hb; exact hb.symm
theorem uq_flt {g : Nat} (h : Uq l) : Uq (flt g l) := fun a ha b hb e => h a (List.mem_filter.1 ha).1 b (List.mem_filter.1 hb).1 e
theorem eaF_app {u : Nat} {y : Bn} (h : Uq l) (hu : eaI l u = none) (n : Nat) : eaF (l ++ [(u, y)]) n = upd (eaF l) u (some y.bs) n := by
 have hn := eaI_iff.1 hu
 by_cases e : n = u
 ·subst e
  rw [upd_same]
  exact eaF_mem (uq_app h hu) (by simp)
 ·rw [upd_ne _ _ e]
  cases e1 : eaF l n with
  | none =>
   refine eaF_none fun x hx e2 => ?_
   rcases List.mem_append.1 hx with hx | hx
   ·obtain ⟨a, b⟩ := x
    have e3 : a = n := e2
    subst e3
    rw [eaF_mem h hx] at e1
    cases e1
   ·simp at hx; subst hx; exact e e2.symm
  | some c =>
   obtain ⟨z, h1, h2⟩ := eaF_some e1
   rw [eaF_mem (uq_app h hu) (List.mem_append_left _ h1), h2]
theorem eaF_flt {g : Nat} (h : Uq l) (n : Nat) : eaF (flt g l) n = if n ≤ g then none else eaF l n := by
 by_cases e : n ≤ g
 ·rw [if_pos e]
  refine eaF_none fun x hx e2 => ?_
  have := (List.mem_filter.1 hx).2
  simp at this
  omega
 ·rw [if_neg e]
  cases e1 : eaF l n with
  | none =>
   refine eaF_none fun x hx e2 => ?_
   obtain ⟨a, b⟩ := x
   have e3 : a = n := e2
   subst e3
   rw [eaF_mem h (List.mem_filter.1 hx).1] at e1
   cases e1
  | some c =>
   obtain ⟨z, h1, h2⟩ := eaF_some e1
   rw [eaF_mem (uq_flt h) (List.mem_filter.2 ⟨h1, by simp; omega⟩), h2]
structure Sm (win : Nat) (E : Ep) (r : Rn) : Prop where
 sent : E.sent = r.ps.length
 op : E.op = r.an
 ob : ∀ n, E.ob n = if r.an < n /\ n ≤ r.ps.length then (r.ps[n - 1]?).map Bn.bs else none
 ip : E.ip = r.gt
 ib : ∀ n, E.ib n = eaF r.ea n
 uq : Uq r.ea
 lo : ∀ x ∈ r.ea, r.gt < x.1 /\ x.1 ≤ r.gt + win
 ow : E.owed = r.ow
 s1 : r.an ≤ r.ps.length
theorem Sm.push (h : Sm win E r) {y : Bn} {v : Value} : Sm win (E.push y.bs) { r with pv := v, ps := r.ps ++ [y] } := by
 refine ⟨by simp [Ep.push, h.sent], h.op, fun n => ?_, h.ip, h.ib, h.uq, h.lo, h.ow, by simp; have := h.s1; omega⟩
 show upd E.ob (E.sent + 1) (some y.bs) n = if r.an < n /\ n ≤ (r.ps ++ [y]).length then ((r.ps ++ [y])[n - 1]?).map Bn.bs else none
 have hs := h.sent
 have h1 := h.s1
 by_cases e : n = E.sent + 1
 ·subst e
  rw [upd_same, if_pos (by simp; omega), hs]
  simp
 ·rw [upd_ne _ _ e, h.ob]
  by_cases c : r.an < n /\ n ≤ r.ps.length
  ·rw [if_pos c, if_pos (by simp; omega), List.getElem?_append_left (by omega)]
  ·rw [if_neg c, if_neg (by simp; omega)]
theorem Sm.acked (h : Sm win E r) {u : Nat} (hu : u ≤ r.ps.length) : Sm win (E.acked u) { r with an := max r.an u } := by
 have h1 := h.s1
 refine ⟨h.sent, by show max E.op u = max r.an u; rw [h.op], fun n => ?_, h.ip, h.ib, h.uq, h.lo, h.ow, by show max r.an u ≤ r.ps.length; omega⟩
 show (if n ≤ u then none else E.ob n) = if max r.an u < n /\ n ≤ r.ps.length then (r.ps[n - 1]?).map Bn.bs else none
 rw [h.ob]
 by_cases e : n ≤ u
 ·rw [if_pos e, if_neg (by omega)]
 ·rw [if_neg e]
  by_cases c : r.an < n /\ n ≤ r.ps.length
  ·rw [if_pos c, if_pos (by omega)]
  ·rw [if_neg c, if_neg (by omega)]
theorem takeP_run (F : Nat -> Option (List Int)) : ∀ (k m p : Nat) (o : List (List Int)), o.length = m -> (∀ i, i < m -> F (p + 1 + i) = o[i]?) -> F (p + m + 1) = none -> m ≤ k -> takeP F p k = o
 | 0, m, p, o, hl, _, _, hm => by
   have : o = [] := List.eq_nil_of_length_eq_zero (by omega)
   subst this
   rfl
 | k + 1, m, p, o, hl, hF, hN, hm => by
   cases o with
   | nil =>
    have hm0 : m = 0 := by simpa using hl.symm
    subst hm0
    simp only [Nat.add_zero] at hN
    simp [takeP, hN]
   | cons c o =>
    have h0 := hF 0 (by simp at hl; omega)
    simp at h0
    simp only [takeP, h0]
    congr 1
    simp at hl
    refine takeP_run F k (m - 1) (p + 1) o (by omega) (fun i hi => ?_) (by rw [show p + 1 + (m - 1) + 1 = p + m + 1 by omega]; exact hN) (by omega)
    have := hF (i + 1) (by omega)
    rw [show p + 1 + 1 + i = p + 1 + (i + 1) by omega, this]
    simp
theorem Sm.took (h : Sm win E r) {u m : Nat} {y : Bn} {o : List Bn} {v10 : Value} (hu1 : r.gt < u) (hu2 : u ≤ r.gt + win) (hn : eaI r.ea u = none) (hl : o.length = m) (hat : ∀ i, i < m -> ∃ z, o[i]? = some z /\ (r.gt + 1 + i, z) ∈ r.ea ++ [(u, y)]) (hN : eaI (r.ea ++ [(u, y)]) (r.gt + m + 1) = none) :
  E.tookO u y.bs win = o.map Bn.bs /\ Sm win (E.took u y.bs win) { r with ow := true, ev := v10, ea := flt (r.gt + m) (r.ea ++ [(u, y)]), gt := r.gt + m } := by
 have hU := uq_app (y := y) h.uq hn
 have hF : ∀ n, upd E.ib u (some y.bs) n = eaF (r.ea ++ [(u, y)]) n := fun n => by
  rw [eaF_app h.uq hn]
  have : E.ib = eaF r.ea := funext h.ib
  rw [this]
 have hlo : ∀ x ∈ r.ea ++ [(u, y)], r.gt < x.1 /\ x.1 ≤ r.gt + win := fun x hx => by
  rcases List.mem_append.1 hx with hx | hx
  ·exact h.lo x hx
  ·simp at hx; subst hx; exact ⟨hu1, hu2⟩
 have hmw : m ≤ win := by
  rcases Nat.eq_zero_or_pos m with e | e
  ·omega
  ·obtain ⟨z, _, h2⟩ := hat (m - 1) (by omega)
   have := (hlo _ h2).2
   simp at this
   omega
 have hO : E.tookO u y.bs win = o.map Bn.bs := by
  unfold Ep.tookO
  refine takeP_run _ win m E.ip (o.map Bn.bs) (by simp [hl]) (fun i hi => ?_) ?_ hmw
  ·obtain ⟨z, h1, h2⟩ := hat i hi
   rw [h.ip, hF, eaF_mem hU h2, List.getElem?_map, h1]
   rfl
  ·rw [h.ip, hF]
   exact eaF_none (eaI_iff.1 hN)
 have hlen : (E.tookO u y.bs win).length = m := by rw [hO]; simp [hl]
 refine ⟨hO, h.sent, h.op, h.ob, by show E.ip + (E.tookO u y.bs win).length = r.gt + m; rw [hlen, h.ip], fun n => ?_, uq_flt hU, fun x hx => ?_, rfl, h.s1⟩
 ·show (if n ≤ E.ip + (E.tookO u y.bs win).length then none else upd E.ib u (some y.bs) n) = eaF (flt (r.gt + m) (r.ea ++ [(u, y)])) n
  rw [hlen, h.ip, eaF_flt hU, hF]
 ·have h1 := List.mem_filter.1 hx
  have h2 := hlo x h1.1
  have h3 := h1.2
  simp at h3
  exact ⟨h3, by show x.1 ≤ r.gt + m + win; omega⟩
theorem Sm.owe1 (h : Sm win E r) : Sm win { E with owed := true } { r with ow := true } := ⟨h.sent, h.op, h.ob, h.ip, h.ib, h.uq, h.lo, rfl, h.s1⟩
theorem Sm.owe0 (h : Sm win E r) : Sm win { E with owed := false } { r with ow := false } := ⟨h.sent, h.op, h.ob, h.ip, h.ib, h.uq, h.lo, rfl, h.s1⟩
theorem Sm.old (h : Sm win E r) (u : Nat) : (E.ib u).isSome = (eaI r.ea u).isSome := by
 rw [h.ib]
 cases e : eaI r.ea u with
 | none => rw [eaF_none (eaI_iff.1 e)]; rfl
 | some i =>
  obtain ⟨y, hy⟩ := eaI_some e
  rw [eaF_mem h.uq (List.mem_of_getElem? hy)]
  rfl
end
structure Sim (M : Mx) (R : Rx) : Prop where
 n : M.n = R.n
 self : M.self = R.self
 win : M.win = R.win
 room : M.room = R.space
 tag : M.tag = R.tag
 no : ∀ q, q < M.n -> M.es q = none -> (R.es q).pe = false
 yes : ∀ q E, q < M.n -> M.es q = some E -> (R.es q).pe = true /\ Sm M.win E.pu (R.es q)
structure Duo (w : World) (B T : Nat) (M : Mx) (R : Rx) : Prop where
 m : M.Ok w B
 r : R.Ok w B T
 s : Sim M R
 ap : ∀ j, M.own j -> ¬ R.own j
structure DStep (w w' : World) (B T : Nat) (M : Mx) (R : Rx) (M' : Mx) (R' : Rx) : Prop where
 duo : Duo w' B T M' R'
 kept : Kept w w' (fun j => M.own j ∨ R.own j)
 own : ∀ j, (M'.own j ∨ R'.own j) -> (M.own j ∨ R.own j) ∨ w.heap.size ≤ j
 mb : M'.b = M.b
 rb : R'.b = R.b
section
variable {w w' W : World} {B T : Nat} {M M' : Mx} {R R' : Rx} {r r' : Rn} {E : En}
theorem Duo.still (h : Duo w B T M R) (hb : Below w.heap.size w w') : Duo w' B T M R := ⟨h.m.still hb, h.r.still hb, h.s, h.ap⟩
theorem Duo.keep {P : Nat -> Prop} (h : Duo w B T M R) (k : Kept w w' P) (hp : ∀ j, M.own j ∨ R.own j -> ¬ P j) : Duo w' B T M R := ⟨h.m.keep k fun j hj => hp j (.inl hj), h.r.keep k fun j hj => hp j (.inr hj), h.s, h.ap⟩
theorem Duo.mono {T' : Nat} (h : Duo w B T M R) (hT : T ≤ T') (h1 : T' ≤ 1000) : Duo w B T' M R := ⟨h.m, h.r.mono hT h1, h.s, h.ap⟩
theorem Duo.lt (h : Duo w B T M R) {j : Nat} (hj : M.own j ∨ R.own j) : B ≤ j /\ j < w.heap.size := hj.elim (fun h1 => ⟨h.m.loj h1, h.m.lt h1⟩) (fun h1 => ⟨h.r.loj h1, h.r.lt h1⟩)
theorem DStep.of {w1 D w2 : World} {T' : Nat} (h : Duo w B T M R) (s : Mstep w w1 M M' B) (hb : Below w1.heap.size w1 D) (t : Rstep D w2 R R' B T') (hs : Sim M' R') (hm : M'.b = M.b) : DStep w w2 B T' M R M' R' := by
 have k1 : Kept w D (fun j => M.own j ∨ R.own j) := (s.kept.mono fun j _ hj => .inl hj).trans (Kept.ofBelow hb _)
 have k2 : Kept D w2 (fun j => M.own j ∨ R.own j) := t.kept.mono fun j _ hj => .inr hj
 have hnew : ∀ j, M'.own j -> ¬ R.own j := fun j hj hr => by
  rcases s.own j hj with h1 | h1
  ·exact h.ap j h1 hr
  ·have := h.r.lt hr; omega
 refine ⟨⟨(s.ok.still hb).keep t.kept hnew, t.ok, hs, fun j h1 h2 => ?_⟩, k1.trans k2, fun j hj => ?_, hm, t.b⟩
 ·rcases t.own j h2 with h3 | h3
  ·exact hnew j h1 h3
  ·have := s.ok.lt h1; have := hb.size; omega
 ·rcases hj with hj | hj
  ·exact (s.own j hj).imp .inl id
  ·rcases t.own j hj with h3 | h3
   ·exact .inl (.inr h3)
   ·right; have := k1.size; omega
theorem DStep.refl (h : Duo w B T M R) (hb : Below w.heap.size w w') : DStep w w' B T M R M R := ⟨h.still hb, Kept.ofBelow hb _, fun _ hj => .inl hj, rfl, rfl⟩
theorem DStep.up {T' : Nat} (h : DStep w w' B T M R M' R') (hT : T ≤ T') (h1 : T' ≤ 1000) : DStep w w' B T' M R M' R' := { h with duo := h.duo.mono hT h1 }
theorem Sim.at_none (h : Sim M R) {q : Int} (hq : M.at q = none) : R.at q = none := by
 unfold Mx.at at hq
 unfold Rx.at
 by_cases c : 0 ≤ q /\ q < (M.n : Int)
 ·rw [if_pos c] at hq
  have := h.no q.toNat (by omega) hq
  rw [this]
  simp
 ·rw [if_neg (by rw [<- h.n]; exact c)]
theorem Sim.at_some (h : Sim M R) {q : Int} (hq : M.at q = some E) : ∃ k : Nat, q = (k : Int) /\ k < M.n /\ M.es k = some E /\ R.at q = some (R.es k) /\ (R.es k).pe = true /\ Sm M.win E.pu (R.es k) := by
 obtain ⟨k, rfl, hk, he⟩ := at_es hq
 have h1 := h.yes k E hk he
 refine ⟨k, rfl, hk, he, ?_, h1.1, h1.2⟩
 unfold Rx.at
 have := h.n
 rw [if_pos (by omega), Int.toNat_natCast, if_pos h1.1]
theorem Sim.put (h : Sim M R) {k : Nat} {E' : En} (hk : k < M.n) (hp : r'.pe = true) (hs : Sm M.win E'.pu r') : Sim (M.put k E') (R.put k r') := by
 refine ⟨h.n, h.self, h.win, h.room, h.tag, fun q hq he => ?_, fun q E hq he => ?_⟩
 ·have he' : upd M.es k (some E') q = none := he
  show (upd R.es k r' q).pe = false
  by_cases e : q = k
  ·rw [e, upd_same] at he'; cases he'
  ·rw [upd_ne _ _ e] at he'; rw [upd_ne _ _ e]; exact h.no q hq he'
 ·have he' : upd M.es k (some E') q = some E := he
  show (upd R.es k r' q).pe = true /\ Sm M.win E.pu (upd R.es k r' q)
  by_cases e : q = k
  ·rw [e, upd_same] at he'
   cases he'
   rw [e, upd_same]
   exact ⟨hp, hs⟩
  ·rw [upd_ne _ _ e] at he'; rw [upd_ne _ _ e]; exact h.yes q E hq he'
def Ask (f g : Nat) (w : World) (M : Mx) (R : Rx) (q : Int) : Prop := ∃ v : Int, ∀ D, Below w.heap.size w D -> (Calls Try.prog f #[.pointer (some ⟨M.b, 0, none⟩), .int .i64 q] D fun e w' => e = .returned (.int .i64 v) /\ Below D.heap.size D w') /\ (Calls Try.prog g #[.pointer (some ⟨R.b, 0, none⟩), .int .i64 q] D fun e w' => e = .returned (.int .i64 v) /\ Below D.heap.size D w')
theorem ask_sent (h : Duo w B T M R) (q : Int) : Ask 45 46 w M R q := by
 cases hq : M.at q with
 | none =>
  have hr := h.s.at_none hq
  exact ⟨0, fun D hb => ⟨(sent_no (h.m.still hb) hq).mono fun e w' hx => ⟨hx.1, by rw [hx.2]; exact Below.refl _ _⟩, (rsent_no (h.r.still hb) hr).mono fun e w' hx => ⟨hx.1, by rw [hx.2]; exact Below.refl _ _⟩⟩⟩
 | some E =>
  obtain ⟨k, rfl, hk, he, hr, hp, hs⟩ := h.s.at_some hq
  refine ⟨(E.sent : Int), fun D hb => ⟨(sent_yes (h.m.still hb) hq).mono fun e w' hx => ⟨hx.1, by rw [hx.2]; exact Below.refl _ _⟩, (rsent_yes (h.r.still hb) hr).mono fun e w' hx => ⟨?_, by rw [hx.2]; exact Below.refl _ _⟩⟩⟩
  have := hs.sent
  rw [hx.1, <- this]
  rfl
theorem ask_got (h : Duo w B T M R) (q : Int) : Ask 50 51 w M R q := by
 cases hq : M.at q with
 | none =>
  have hr := h.s.at_none hq
  exact ⟨0, fun D hb => ⟨(got_no (h.m.still hb) hq).mono fun e w' hx => ⟨hx.1, by rw [hx.2]; exact Below.refl _ _⟩, (rgot_no (h.r.still hb) hr).mono fun e w' hx => ⟨hx.1, by rw [hx.2]; exact Below.refl _ _⟩⟩⟩
 | some E =>
  obtain ⟨k, rfl, hk, he, hr, hp, hs⟩ := h.s.at_some hq
  refine ⟨(E.i.p : Int), fun D hb => ⟨(got_yes (h.m.still hb) hq).mono fun e w' hx => ⟨hx.1, by rw [hx.2]; exact Below.refl _ _⟩, (rgot_yes (h.r.still hb) hr).mono fun e w' hx => ⟨?_, by rw [hx.2]; exact Below.refl _ _⟩⟩⟩
  have := hs.ip
  rw [hx.1, <- this]
  rfl
theorem ask_wait (h : Duo w B T M R) (q : Int) : Ask 47 48 w M R q := by
 cases hq : M.at q with
 | none =>
  have hr := h.s.at_none hq
  exact ⟨0, fun D hb => ⟨(wait_no (h.m.still hb) hq).mono fun e w' hx => ⟨hx.1, by rw [hx.2]; exact Below.refl _ _⟩, rwait_no (h.r.still hb) hr⟩⟩
 | some E =>
  obtain ⟨k, rfl, hk, he, hr, hp, hs⟩ := h.s.at_some hq
  refine ⟨(E.sent : Int) - (E.o.p : Int), fun D hb => ⟨wait_yes (h.m.still hb) hq, (rwait_yes (h.r.still hb) hr).mono fun e w' hx => ⟨?_, hx.2⟩⟩⟩
  have h1 := hs.sent
  have h2 := hs.op
  rw [hx.1, <- h1, <- h2]
  rfl
theorem ask_room (h : Duo w B T M R) (q : Int) : Ask 43 44 w M R q := by
 cases hq : M.at q with
 | none =>
  have hr := h.s.at_none hq
  exact ⟨0, fun D hb => ⟨(room_no (h.m.still hb) hq).mono fun e w' hx => ⟨hx.1, by rw [hx.2]; exact Below.refl _ _⟩, rroom_no (h.r.still hb) hr⟩⟩
 | some E =>
  obtain ⟨k, rfl, hk, he, hr, hp, hs⟩ := h.s.at_some hq
  refine ⟨(M.room : Int) - ((E.sent : Int) - (E.o.p : Int)), fun D hb => ⟨room_yes (h.m.still hb) hq, (rroom_yes (h.r.still hb) hr).mono fun e w' hx => ⟨?_, hx.2⟩⟩⟩
  have h1 := hs.sent
  have h2 := hs.op
  rw [hx.1, <- h1, <- h2, h.s.room]
  rfl
def Both (f g : Nat) (xs ys : List Value) (w : World) (B T : Nat) (M : Mx) (R : Rx) (Pre : World -> Prop) : Prop := ∃ v : Int, Calls Try.prog f (.pointer (some ⟨M.b, 0, none⟩) :: xs).toArray w fun e w1 => e = .returned (.int .i64 v) /\ (∃ P : Nat -> Prop, Kept w w1 P /\ ∀ j, P j -> M.own j) /\ ∀ D, Below w1.heap.size w1 D -> Pre D -> Calls Try.prog g (.pointer (some ⟨R.b, 0, none⟩) :: ys).toArray D fun e w2 => e = .returned (.int .i64 v) /\ ∃ M' R', DStep w w2 B (T + 1) M R M' R'
theorem both_no {f g : Nat} {xs ys : List Value} {Pre : World -> Prop} {v : Int} (h : Duo w B T M R) (hT : T + 1 ≤ 1000) (h1 : Calls Try.prog f (.pointer (some ⟨M.b, 0, none⟩) :: xs).toArray w fun e w' => e = .returned (.int .i64 v) /\ Below w.heap.size w w') (h2 : ∀ D, Below w.heap.size w D -> Calls Try.prog g (.pointer (some ⟨R.b, 0, none⟩) :: ys).toArray D fun e w' => e = .returned (.int .i64 v) /\ Below D.heap.size D w') : Both f g xs ys w B T M R Pre :=
 ⟨v, h1.mono fun e w1 hx => ⟨hx.1, ⟨fun _ => False, Kept.ofBelow hx.2 _, fun j hj => hj.elim⟩, fun D hb _ => (h2 D (bstep hx.2 hb)).mono fun e w2 hy => ⟨hy.1, M, R, (DStep.refl h (bstep (bstep hx.2 hb) hy.2)).up (by omega) hT⟩⟩⟩
theorem R_keep {w1 D : World} (h : Duo w B T M R) (k : Kept w w1 M.own) (hb : Below w1.heap.size w1 D) : R.Ok D B T := (h.r.keep k fun j hj hm => h.ap j hm hj).still hb
theorem both_push (h : Duo w B T M R) (hB : B ≤ w.heap.size) (hT : T + 1 ≤ 1000) (q : Int) {a1 a2 : Option Addr} {n c1 c2 : Nat} {bs : List Int} (h1 : Rd w a1 n c1 bs) : Both 26 37 [.int .i64 q, .slice a1 n c1] [.int .i64 q, .slice a2 n c2] w B T M R (fun D => Rd D a2 n c2 bs) := by
 cases hq : M.at q with
 | none =>
  have hr := h.s.at_none hq
  exact both_no h hT ((push_no h.m hq).mono fun e w' hx => ⟨hx.1, by rw [hx.2]; exact Below.refl _ _⟩) fun D hb => (rpush_no (h.r.still hb) hr).mono fun e w' hx => ⟨hx.1, by rw [hx.2]; exact Below.refl _ _⟩
 | some E =>
  obtain ⟨k, rfl, hk, he, hr, hp, hs⟩ := h.s.at_some hq
  cases hn : inR 1 300 (n : Int) with
  | false => exact both_no h hT ((push_arg h.m hq hn).mono fun e w' hx => ⟨hx.1, by rw [hx.2]; exact Below.refl _ _⟩) fun D hb => (rpush_arg (h.r.still hb) hr hn).mono fun e w' hx => ⟨hx.1, by rw [hx.2]; exact Below.refl _ _⟩
  | true =>
   have e1 : E.sent = (R.es k).ps.length := hs.sent
   have e2 : E.o.p = (R.es k).an := hs.op
   have e3 := h.s.room
   by_cases hf : E.o.p + M.room ≤ E.sent
   ·exact both_no h hT (push_full h.m hq hn hf) fun D hb => rpush_full (h.r.still hb) hr hn (by omega)
   ·have hl : bs.length = n := h1.len
    subst hl
    have hkR : k < R.n := by rw [<- h.s.n]; exact hk
    have hT1 := (h.r.el k hkR).s2
    refine ⟨0, (push_ok h.m hB hq h1 hn (by omega) (by omega)).mono fun e w1 hx => ⟨hx.1, ?_, fun D hb hr2 => ?_⟩⟩
    ·obtain ⟨E', st, _⟩ := hx.2.out
     exact ⟨_, (st.to h.m he).kept, fun j hj => hj⟩
    ·obtain ⟨E', st, hpu⟩ := hx.2.out
     have ms := st.to h.m he
     refine (rpush_ok (R_keep h ms.kept hb) (Nat.le_trans hB (Nat.le_trans ms.kept.size hb.size)) hT hr hr2 hn (by omega)).mono fun e w2 hy => ⟨hy.1, ?_⟩
     obtain ⟨k', hk', _, y, hyb, gv, rst⟩ := hy.2
     obtain rfl : k' = k := by omega
     refine ⟨_, _, DStep.of h ms hb rst (h.s.put hk hp ?_) rfl⟩
     rw [hpu, <- hyb]
     exact hs.push
theorem both_acked (h : Duo w B T M R) (hT : T + 1 ≤ 1000) (q : Int) (t : Tg) (u : Int) : Both 38 39 [.int .i64 q, .agg #[.int .i64 t.e, .int .i64 t.l, .int .i64 t.i, .int .i64 t.c, .int .i64 u]] [.int .i64 q, .agg #[.int .i64 t.e, .int .i64 t.l, .int .i64 t.i, .int .i64 t.c, .int .i64 u]] w B T M R (fun _ => True) := by
 cases hq : M.at q with
 | none =>
  have hr := h.s.at_none hq
  exact both_no h hT (acked_no h.m hq t u) fun D hb => racked_no (h.r.still hb) hr t u
 | some E =>
  obtain ⟨k, rfl, hk, he, hr, hp, hs⟩ := h.s.at_some hq
  cases hu : inR 0 4611686018427387904 u with
  | false => exact both_no h hT (acked_arg h.m hq t u hu) fun D hb => racked_arg (h.r.still hb) hr t u hu
  | true =>
   have hu' : 0 ≤ u /\ u ≤ 4611686018427387904 := by simp [inR] at hu; omega
   obtain ⟨m, rfl⟩ : ∃ m : Nat, u = (m : Int) := ⟨u.toNat, by omega⟩
   have hm : m ≤ 4611686018427387904 := by omega
   by_cases ht : t = M.tag
   ·have e1 : E.sent = (R.es k).ps.length := hs.sent
    have e2 : E.o.p = (R.es k).an := hs.op
    have e3 := h.s.win
    have e4 : (R.es k).an ≤ (R.es k).ps.length := hs.s1
    by_cases hf : E.o.p + min M.win (E.sent - E.o.p) < m
    ·exact both_no h hT (acked_far h.m hq t hm ht hf) fun D hb => racked_far (h.r.still hb) hr t hm (by rw [ht, h.s.tag]) (by unfold Rx.last; omega)
    ·have hkR : k < R.n := by rw [<- h.s.n]; exact hk
     refine ⟨0, (acked_ok h.m hq t hm ht (by omega)).mono fun e w1 hx => ⟨hx.1, ?_, fun D hb _ => ?_⟩⟩
     ·obtain ⟨E', st, _⟩ := hx.2.out
      exact ⟨_, (st.to h.m he).kept, fun j hj => hj⟩
     ·obtain ⟨E', st, hpu⟩ := hx.2.out
      have ms := st.to h.m he
      refine (racked_ok (R_keep h ms.kept hb) hr t hm (by rw [ht, h.s.tag]) (by unfold Rx.last; omega)).mono fun e w2 hy => ⟨hy.1, ?_⟩
      obtain ⟨k', hk', _, rst⟩ := hy.2
      obtain rfl : k' = k := by omega
      refine ⟨_, _, (DStep.of h ms hb rst (h.s.put hk hp ?_) rfl).up (by omega) hT⟩
      rw [hpu]
      exact hs.acked (by omega)
   ·exact both_no h hT (acked_tag h.m hq t _ hu ht) fun D hb => racked_tag (h.r.still hb) hr t hm (by rw [<- h.s.tag]; exact ht)
end
end Go.Proofs.Ythanifbimndhaaa.Ln
