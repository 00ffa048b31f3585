import Derived.Test.YtnhhjelplmdloaaZ34
import Derived.Deep.RegionWith
namespace Go.Proofs.Ytnhhjelplmdloaa.Et
open Go.RowKit Go.Maps
set_option linter.unusedVariables false
set_option linter.unusedSimpArgs false
set_option maxRecDepth 100000
section
variable {E E1 E' : En} {w w' w1 w2 w3 : World} {B K m : Nat}
theorem low_of {bb : Nat} {sv dv bv cv : Value} {es : List Be} (h : Bkm w B bb sv dv bv cv es) (hB : B ≤ w.heap.size) (k : Kept w w' (Bo bb sv dv bv cv)) : Below B w w' := k.below hB (fun j hj e => by have := (h.m.lt e).2; omega)
def PutQ (w w' : World) (B bb : Nat) (sv dv bv cv : Value) (es : List Be) (sr ds : Int) (bs : List Int) : Prop := ∃ sv' dv' bv' cv' a' c', Bkm w' B bb sv' dv' bv' cv' (es ++ [⟨sr, ds, a', c', bs, false⟩]) ∧ Kept w w' (Bo bb sv dv bv cv) ∧ (∀ j, Bo bb sv' dv' bv' cv' j → Bo bb sv dv bv cv j ∨ w.heap.size ≤ j) ∧ (∀ j, (Value.slice a' bs.length c').ownBlock = some j → w.heap.size ≤ j)
theorem PutQ.pre {W : World} {bb : Nat} {sv dv bv cv : Value} {es : List Be} {sr ds : Int} {bs : List Int} (hb : Below w.heap.size w W) (h : PutQ W w' B bb sv dv bv cv es sr ds bs) : PutQ w w' B bb sv dv bv cv es sr ds bs := by
  obtain ⟨s, d, b, c, a', c', h1, h2, h3, h4⟩ := h
  have hz := hb.size
  exact ⟨s, d, b, c, a', c', h1, (Kept.ofBelow hb _).trans h2, fun j hj => (h3 j hj).imp id (fun e => Nat.le_trans hz e), fun j hj => Nat.le_trans hz (h4 j hj)⟩
set_option maxHeartbeats 1000000 in
theorem did_inject {bb : Nat} {sv dv bv cv : Value} {es : List Be} {ba : Option Addr} {bn bc : Nat} (h : Bkm w B bb sv dv bv cv es) (hB : B ≤ w.heap.size) (hes : es.length ≤ 2199023255552) (o : Opx) (bs : List Int) (hbb : ∀ X, Below B w X → Rd X o.ba o.bn o.bc bs) (hbn : o.bn ≤ 140737488355328) (hk : o.k = 37) : Calls Try.prog 34 #[.pointer (some ⟨bb, 0, none⟩), .slice ba bn bc, .agg o.cs] w fun e w' => e = .returned (.bool true) ∧ PutQ w w' B bb sv dv bv cv es o.p o.q bs := by
  generalize hW : w.alloc (.cells o.cs 46) = W
  have hbW : Below w.heap.size w W := by rw [← hW]; exact balloc (Below.refl _ w)
  have hblk : W.heap[w.heap.size]? = some (.cells o.cs 46 (0, 0)) := by rw [← hW]; exact heap_alloc_new w _
  obtain ⟨d0, d1, d2, d3, d4, d5⟩ := op_cells hblk
  have Hb : Hid (Below w.heap.size w W) := hbW
  have HPut : Hid (∀ (X : World) sr ds ao n c bs, Below w.heap.size w X → (∀ Y, Kept X Y (Bo bb sv dv bv cv) → Rd Y ao n c bs) → n ≤ 140737488355328 → Calls Try.prog 8 #[.pointer (some ⟨bb, 0, none⟩), .int .i64 ((es.length : Int) + 1), .int .i64 sr, .int .i64 ds, .slice ao n c] X fun e w' => e = .returned (.bool true) ∧ PutQ X w' B bb sv dv bv cv es sr ds bs) := fun X sr ds ao n c bs hX hrd hn => by
    refine (put_any (h.still hX) (Nat.le_trans hB hX.size) ((es.length : Int) + 1) sr ds hrd hes hn).mono ?_
    rintro e w' ⟨r, rfl, hr, hq⟩
    have : r = true := hr.2 rfl
    subst this
    exact ⟨rfl, hq⟩
  obtain ⟨sa, sc, rfl⟩ := own_sh h.m.s
  have HPd : Hid (Calls Try.prog 8 #[.pointer (some ⟨bb, 0, none⟩), .int .i64 ((es.length : Int) + 1), .int .i64 o.p, .int .i64 o.q, .slice o.ba o.bn o.bc] W.drew fun e w' => e = .returned (.bool true) ∧ PutQ W.drew w' B bb (.slice sa es.length sc) dv bv cv es o.p o.q bs) := HPut.out W.drew o.p o.q o.ba o.bn o.bc bs (bstep hbW (Below.refl _ _).drew) (fun Y hY => hbb Y ((hbW.mono hB).trans (((Below.refl W.heap.size W).drew.mono (Nat.le_trans hB hbW.size)).trans (low_of ((h.still hbW).still (Below.refl _ _).drew) (Nat.le_trans hB (Nat.le_trans hbW.size (Below.refl W.heap.size W).drew.size)) hY)))) hbn
  have HQ0 : Hid (W.drew.cell? ⟨bb, 0, none⟩ = some (.slice sa es.length sc)) := blk_cell (((h.still hbW).still (Below.refl _ _).drew)).m.blk 0
  have HS0 : Hid (W.drew.cell? ⟨w.heap.size, 1, none⟩ = some (.int .i64 o.p) ∧ W.drew.cell? ⟨w.heap.size, 2, none⟩ = some (.int .i64 o.q) ∧ W.drew.cell? ⟨w.heap.size, 4, none⟩ = some (.slice o.ba o.bn o.bc)) := ⟨below_at (Below.refl _ _).drew d1, below_at (Below.refl _ _).drew d2, below_at (Below.refl _ _).drew d4⟩
  have hblkd : W.drew.heap[w.heap.size]? = some (.cells o.cs 46 (0, 0)) := hblk
  have HSk : Hid (∀ w2, PutQ W.drew w2 B bb (.slice sa es.length sc) dv bv cv es o.p o.q bs → w2.cell? ⟨w.heap.size, 1, none⟩ = some (.int .i64 o.p) ∧ w2.cell? ⟨w.heap.size, 2, none⟩ = some (.int .i64 o.q) ∧ w2.cell? ⟨w.heap.size, 4, none⟩ = some (.slice o.ba o.bn o.bc)) := fun w2 hq => by
    obtain ⟨_, _, _, _, _, _, -, hkk, -, -⟩ := hq
    have h9 := hkk.obj hblkd (fun e => by have := (h.m.lt e).1; omega)
    exact ⟨blk_cell h9 1, blk_cell h9 2, blk_cell h9 4⟩
  have HWd : Hid (Below W.heap.size W W.drew) := (Below.refl _ _).drew
  clear h HPut hblk hblkd hbW d1 d2 d3 d4 d5 hbb
  generalize es.length = N at *
  unfold Opx.cs at hW ⊢
  rw [hk] at hW d0 ⊢
  go_enter Try.func34, Try.ntmps34
  go_upto_region 3 with fail
  refine wp_region_held_drew (S := (fun w' => w'.cell? ⟨w.heap.size, 1, none⟩ = some (.int .i64 o.p) ∧ w'.cell? ⟨w.heap.size, 2, none⟩ = some (.int .i64 o.q) ∧ w'.cell? ⟨w.heap.size, 4, none⟩ = some (.slice o.ba o.bn o.bc))) (by kernel_rfl) HS0.out (fun hHeld => ?_)
  simp only [Act.put, List.size_toArray, List.length_cons, List.length_nil, Nat.zero_add]
  clear d0
  generalize W.drew = Wd at *
  refine wpAnyH_take (i := 0) (v := .pointer (some ⟨bb, 0, none⟩)) rfl (by kernel_rfl) (by kernel_rfl) (by kernel_rfl) (fun _ _ _ h => h) (Or.inl ⟨by rfl, fun w' hS => by go_simp⟩) hHeld ?_
  simp only [Act.put, List.getElem_toArray, List.getElem_cons_zero, List.getElem_cons_succ, List.setIfInBounds_toArray, List.set_cons_zero, List.set_cons_succ]
  refine wpAnyH_take (i := 1) (v := .pointer (some ⟨bb, 0, none⟩)) rfl (by kernel_rfl) (by kernel_rfl) (by kernel_rfl) (fun _ _ _ h => h) (Or.inl ⟨by rfl, fun w' hS => by go_simp⟩) hHeld ?_
  simp only [Act.put, List.getElem_toArray, List.getElem_cons_zero, List.getElem_cons_succ, List.setIfInBounds_toArray, List.set_cons_zero, List.set_cons_succ]
  refine wpAnyH_take (i := 2) (v := .pointer (some ⟨bb, 0, none⟩)) rfl (by kernel_rfl) (by kernel_rfl) (by kernel_rfl) (fun _ _ _ h => h) (Or.inl ⟨by rfl, fun w' hS => by go_simp⟩) hHeld ?_
  simp only [Act.put, List.getElem_toArray, List.getElem_cons_zero, List.getElem_cons_succ, List.setIfInBounds_toArray, List.set_cons_zero, List.set_cons_succ]
  refine wpAnyH_take (i := 3) (v := .pointer (some ⟨bb, 0, none⟩)) rfl (by kernel_rfl) (by kernel_rfl) (by kernel_rfl) (fun _ _ _ h => h) (Or.inl ⟨by rfl, fun w' hS => by go_simp⟩) hHeld ?_
  simp only [Act.put, List.getElem_toArray, List.getElem_cons_zero, List.getElem_cons_succ, List.setIfInBounds_toArray, List.set_cons_zero, List.set_cons_succ]
  refine wpAnyH_take (i := 7) (v := .pointer (some ⟨w.heap.size, 1, none⟩)) rfl (by kernel_rfl) (by kernel_rfl) (by kernel_rfl) (fun _ _ _ h => h) (Or.inl ⟨by rfl, fun w' hS => by go_simp⟩) hHeld ?_
  simp only [Act.put, List.getElem_toArray, List.getElem_cons_zero, List.getElem_cons_succ, List.setIfInBounds_toArray, List.set_cons_zero, List.set_cons_succ]
  refine wpAnyH_take (i := 8) (v := .int .i64 o.p) rfl (by kernel_rfl) (by kernel_rfl) (by kernel_rfl) (fun _ _ _ h => h) (Or.inl ⟨by rfl, fun w' hS => by (obtain ⟨p1, p2, p4⟩ := hS; go_simp)⟩) hHeld ?_
  simp only [Act.put, List.getElem_toArray, List.getElem_cons_zero, List.getElem_cons_succ, List.setIfInBounds_toArray, List.set_cons_zero, List.set_cons_succ]
  refine wpAnyH_take (i := 9) (v := .pointer (some ⟨w.heap.size, 2, none⟩)) rfl (by kernel_rfl) (by kernel_rfl) (by kernel_rfl) (fun _ _ _ h => h) (Or.inl ⟨by rfl, fun w' hS => by go_simp⟩) hHeld ?_
  simp only [Act.put, List.getElem_toArray, List.getElem_cons_zero, List.getElem_cons_succ, List.setIfInBounds_toArray, List.set_cons_zero, List.set_cons_succ]
  refine wpAnyH_take (i := 10) (v := .int .i64 o.q) rfl (by kernel_rfl) (by kernel_rfl) (by kernel_rfl) (fun _ _ _ h => h) (Or.inl ⟨by rfl, fun w' hS => by (obtain ⟨p1, p2, p4⟩ := hS; go_simp)⟩) hHeld ?_
  simp only [Act.put, List.getElem_toArray, List.getElem_cons_zero, List.getElem_cons_succ, List.setIfInBounds_toArray, List.set_cons_zero, List.set_cons_succ]
  refine wpAnyH_take (i := 11) (v := .pointer (some ⟨w.heap.size, 4, none⟩)) rfl (by kernel_rfl) (by kernel_rfl) (by kernel_rfl) (fun _ _ _ h => h) (Or.inl ⟨by rfl, fun w' hS => by go_simp⟩) hHeld ?_
  simp only [Act.put, List.getElem_toArray, List.getElem_cons_zero, List.getElem_cons_succ, List.setIfInBounds_toArray, List.set_cons_zero, List.set_cons_succ]
  refine wpAnyH_take (i := 12) (v := .slice o.ba o.bn o.bc) rfl (by kernel_rfl) (by kernel_rfl) (by kernel_rfl) (fun _ _ _ h => h) (Or.inl ⟨by rfl, fun w' hS => by (obtain ⟨p1, p2, p4⟩ := hS; go_simp)⟩) hHeld ?_
  simp only [Act.put, List.getElem_toArray, List.getElem_cons_zero, List.getElem_cons_succ, List.setIfInBounds_toArray, List.set_cons_zero, List.set_cons_succ]
  refine wpAnyH_ready (rs := [4]) (by kernel_rfl) (by simp) ?_
  refine AllReadyH.cons rfl (fun K hK => ?_) AllReadyH.nil
  have q0 := HQ0.out
  go_simp
  clear q0
  refine hK.out _ _ HS0.out (fun hHeld => ?_)
  clear hK K
  try (simp only [Act.put, List.getElem_toArray, List.getElem_cons_zero, List.getElem_cons_succ, List.setIfInBounds_toArray, List.set_cons_zero, List.set_cons_succ])
  refine wpAnyH_take (i := 5) (v := .int .i64 (N : Int)) rfl (by kernel_rfl) (by kernel_rfl) (by kernel_rfl) (fun _ _ _ h => h) (Or.inl ⟨by rfl, fun w' hS => by go_simp⟩) hHeld ?_
  simp only [Act.put, List.getElem_toArray, List.getElem_cons_zero, List.getElem_cons_succ, List.setIfInBounds_toArray, List.set_cons_zero, List.set_cons_succ]
  refine wpAnyH_take (i := 6) (v := .int .i64 ((N : Int) + 1)) rfl (by kernel_rfl) (by kernel_rfl) (by kernel_rfl) (fun _ _ _ h => h) (Or.inl ⟨by rfl, fun w' hS => by (go_simp; exact wrap_id (by omega) (by omega))⟩) hHeld ?_
  simp only [Act.put, List.getElem_toArray, List.getElem_cons_zero, List.getElem_cons_succ, List.setIfInBounds_toArray, List.set_cons_zero, List.set_cons_succ]
  refine wpAnyH_ready (rs := [13]) (by kernel_rfl) (by simp) ?_
  refine AllReadyH.cons rfl (fun K hK => ?_) AllReadyH.nil
  go_simp
  refine HPd.out.mono ?_
  rintro e w2 ⟨rfl, hq⟩
  have HPq : Hid (PutQ Wd w2 B bb (.slice sa N sc) dv bv cv es o.p o.q bs) := hq
  refine hK.out _ _ (HSk.out w2 hq) (fun hHeld => ?_)
  clear hK K hq
  try (simp only [Act.put, List.getElem_toArray, List.getElem_cons_zero, List.getElem_cons_succ, List.setIfInBounds_toArray, List.set_cons_zero, List.set_cons_succ])
  refine wpAnyH_take (i := 14) (v := .bool true) rfl (by kernel_rfl) (by kernel_rfl) (by kernel_rfl) (fun _ _ _ h => h) (Or.inl ⟨by rfl, fun w' hS => by go_simp⟩) hHeld ?_
  simp only [Act.put, List.getElem_toArray, List.getElem_cons_zero, List.getElem_cons_succ, List.setIfInBounds_toArray, List.set_cons_zero, List.set_cons_succ]
  refine wpAnyH_done (by kernel_rfl) ?_ _
  clear hHeld
  go_wp2
  go_ret
  exact ⟨rfl, (HPq.out.pre HWd.out).pre Hb.out⟩
set_option maxHeartbeats 1000000 in
theorem did_dup {bb : Nat} {sv dv bv cv : Value} {es : List Be} {fa : Option Addr} {fn fc k : Nat} {L : List Fx} (h : Bkm w B bb sv dv bv cv es) (hB : B ≤ w.heap.size) (hes : es.length ≤ 2199023255552) (o : Opx) (hk : o.k = 33) (hp : o.p = k) (hkn : k < fn) (hL : L.length = fn) (hL2 : fn ≤ 20000) {g : Nat} (hfa : fa = some ⟨g, 0, none⟩) (hrow : ∀ X, Below w.heap.size w X → X.rangeAt g (k * 5) (L.getD k f0).cs.toList) (hbb : ∀ X, Kept w X (Bo bb sv dv bv cv) → Rd X (L.getD k f0).a (L.getD k f0).n (L.getD k f0).c (L.getD k f0).bs) (hbn : (L.getD k f0).n ≤ 140737488355328) : Calls Try.prog 34 #[.pointer (some ⟨bb, 0, none⟩), .slice fa fn fc, .agg o.cs] w fun e w' => e = .returned (.bool true) ∧ PutQ w w' B bb sv dv bv cv es (L.getD k f0).src (L.getD k f0).dst (L.getD k f0).bs := by
  generalize hW : w.alloc (.cells o.cs 46) = W
  have hbW : Below w.heap.size w W := by rw [← hW]; exact balloc (Below.refl _ w)
  have hblk : W.heap[w.heap.size]? = some (.cells o.cs 46 (0, 0)) := by rw [← hW]; exact heap_alloc_new w _
  obtain ⟨d0, d1, d2, d3, d4, d5⟩ := op_cells hblk
  have Hb : Hid (Below w.heap.size w W) := hbW
  have HPut : Hid (∀ (X : World) sr ds ao n c bs, Below w.heap.size w X → (∀ Y, Kept X Y (Bo bb sv dv bv cv) → Rd Y ao n c bs) → n ≤ 140737488355328 → Calls Try.prog 8 #[.pointer (some ⟨bb, 0, none⟩), .int .i64 ((es.length : Int) + 1), .int .i64 sr, .int .i64 ds, .slice ao n c] X fun e w' => e = .returned (.bool true) ∧ PutQ X w' B bb sv dv bv cv es sr ds bs) := fun X sr ds ao n c bs hX hrd hn => by
    refine (put_any (h.still hX) (Nat.le_trans hB hX.size) ((es.length : Int) + 1) sr ds hrd hes hn).mono ?_
    rintro e w' ⟨r, rfl, hr, hq⟩
    have : r = true := hr.2 rfl
    subst this
    exact ⟨rfl, hq⟩
  obtain ⟨sa, sc, rfl⟩ := own_sh h.m.s
  have HRw : Hid (W.rangeAt g (k * 5) (L.getD k f0).cs.toList) := hrow W hbW
  have HH : Hid (Bkm W B bb (.slice sa es.length sc) dv bv cv es) := h.still hbW
  have HOb : Hid (∀ X, Below W.heap.size W X → X.heap[w.heap.size]? = some (.cells o.cs 46 (0, 0))) := fun X hX => (hX.block _ (lt_heap hblk)).trans hblk
  have HPx : Hid (∀ X, Below W.heap.size W X → Calls Try.prog 8 #[.pointer (some ⟨bb, 0, none⟩), .int .i64 ((es.length : Int) + 1), .int .i64 (L.getD k f0).src, .int .i64 (L.getD k f0).dst, .slice (L.getD k f0).a (L.getD k f0).n (L.getD k f0).c] X fun e w' => e = .returned (.bool true) ∧ PutQ X w' B bb (.slice sa es.length sc) dv bv cv es (L.getD k f0).src (L.getD k f0).dst (L.getD k f0).bs) := fun X hX => HPut.out X _ _ _ _ _ _ (bstep hbW hX) (fun Y hY => hbb Y ((Kept.ofBelow (bstep hbW hX) _).trans hY)) hbn
  have hlt : ∀ {j : Nat}, Bo bb (.slice sa es.length sc) dv bv cv j → j < w.heap.size := fun e => (h.m.lt e).1
  have HLt : Hid (∀ j, Bo bb (.slice sa es.length sc) dv bv cv j → j < w.heap.size) := fun j e => hlt e
  have hWsz := hbW.size
  clear h HPut hblk hbW hlt hbb hrow d2 d3 d4 d5
  generalize L.getD k f0 = f at *
  generalize es.length = N at *
  subst hfa
  have i1 : (0 : Int) ≤ (k : Int) := Int.natCast_nonneg _
  have i2 : ¬ (k : Int) < 0 := by omega
  have i3 : (k : Int) < (fn : Int) := by omega
  unfold Opx.cs at hW ⊢
  rw [hk] at hW d0 ⊢
  rw [hp] at hW d1 ⊢
  go_enter Try.func34, Try.ntmps34
  go_upto_region 9 with (first
    | (refine Ln.load_mid 43 (.tmp 44) HRw.out _ Try.underlying43 rfl iFl rfl rfl rfl ?_)
    | (refine wl_allocZ rfl 43 rfl zFl ?_; intro W1 k1 b1 s1; have K1 : Hid (W1.heap[W.heap.size]? = some (.cells f0.cs 43 (0, 0))) := k1; have B1 : Hid (Below W.heap.size W W1) := b1; clear k1 b1 s1)
    | (refine wl_storeZ rfl 43 _ _ rfl (L := f.cs.toList) rfl rfl K1.out iFl rfl (fx_one f) ?_; intro W2 k2 kk2; have K2 : Hid (W2.heap[W.heap.size]? = some (.cells f.cs 43 (0, 0))) := k2; have KK2 : Hid (Mb.Kept W1 W2 (fun j => j = W.heap.size)) := kk2; clear k2 kk2)
    | fail)
  have B2 : Hid (Below W.heap.size W W2) := (show Below W.heap.size W W2 from B1.out.trans (KK2.out.below B1.out.size (fun q hq e => by have e' : q = W.heap.size := e; omega)))
  clear d0 d1 HRw
  obtain ⟨d0, -, -, -, -, -⟩ := op_cells (HOb.out W2 B2.out)
  rw [hk] at d0
  go_upto_region 10 with fail
  have K3 : W2.drew.heap[W.heap.size]? = some (.cells f.cs 43 (0, 0)) := K2.out
  have HPd : Hid (Calls Try.prog 8 #[.pointer (some ⟨bb, 0, none⟩), .int .i64 ((N : Int) + 1), .int .i64 f.src, .int .i64 f.dst, .slice f.a f.n f.c] W2.drew fun e w' => e = .returned (.bool true) ∧ PutQ W2.drew w' B bb (.slice sa N sc) dv bv cv es f.src f.dst f.bs) := HPx.out W2.drew (bstep B2.out (Below.refl _ _).drew)
  have HQ0 : Hid (W2.drew.cell? ⟨bb, 0, none⟩ = some (.slice sa N sc)) := by
    have h9 := ((HH.out.still B2.out).still (Below.refl W2.heap.size W2).drew).m.blk
    exact blk_cell h9 0
  have HS0 : Hid (W2.drew.cell? ⟨W.heap.size, 1, none⟩ = some (.int .i64 f.src) ∧ W2.drew.cell? ⟨W.heap.size, 2, none⟩ = some (.int .i64 f.dst) ∧ W2.drew.cell? ⟨W.heap.size, 4, none⟩ = some (.slice f.a f.n f.c)) := ⟨blk_cell K3 1, blk_cell K3 2, blk_cell K3 4⟩
  have HSk : Hid (∀ w2, PutQ W2.drew w2 B bb (.slice sa N sc) dv bv cv es f.src f.dst f.bs → w2.cell? ⟨W.heap.size, 1, none⟩ = some (.int .i64 f.src) ∧ w2.cell? ⟨W.heap.size, 2, none⟩ = some (.int .i64 f.dst) ∧ w2.cell? ⟨W.heap.size, 4, none⟩ = some (.slice f.a f.n f.c)) := fun w2 hq => by
    obtain ⟨_, _, _, _, _, _, -, hkk, -, -⟩ := hq
    have h9 := hkk.obj K3 (fun e => by have := HLt.out _ e; omega)
    exact ⟨blk_cell h9 1, blk_cell h9 2, blk_cell h9 4⟩
  have HWd : Hid (Below W2.heap.size W2 W2.drew) := (Below.refl _ _).drew
  clear d0 K3 K2 K1 KK2 B1 HPx HH HOb
  refine wp_region_held_drew (S := (fun w' => w'.cell? ⟨W.heap.size, 1, none⟩ = some (.int .i64 f.src) ∧ w'.cell? ⟨W.heap.size, 2, none⟩ = some (.int .i64 f.dst) ∧ w'.cell? ⟨W.heap.size, 4, none⟩ = some (.slice f.a f.n f.c))) (by kernel_rfl) HS0.out (fun hHeld => ?_)
  simp only [Act.put, List.size_toArray, List.length_cons, List.length_nil, Nat.zero_add]
  generalize W2.drew = Wd at *
  refine wpAnyH_take (i := 0) (v := .pointer (some ⟨bb, 0, none⟩)) rfl (by kernel_rfl) (by kernel_rfl) (by kernel_rfl) (fun _ _ _ h => h) (Or.inl ⟨by rfl, fun w' hS => by go_simp⟩) hHeld ?_
  simp only [Act.put, List.getElem_toArray, List.getElem_cons_zero, List.getElem_cons_succ, List.setIfInBounds_toArray, List.set_cons_zero, List.set_cons_succ]
  refine wpAnyH_take (i := 1) (v := .pointer (some ⟨bb, 0, none⟩)) rfl (by kernel_rfl) (by kernel_rfl) (by kernel_rfl) (fun _ _ _ h => h) (Or.inl ⟨by rfl, fun w' hS => by go_simp⟩) hHeld ?_
  simp only [Act.put, List.getElem_toArray, List.getElem_cons_zero, List.getElem_cons_succ, List.setIfInBounds_toArray, List.set_cons_zero, List.set_cons_succ]
  refine wpAnyH_take (i := 2) (v := .pointer (some ⟨bb, 0, none⟩)) rfl (by kernel_rfl) (by kernel_rfl) (by kernel_rfl) (fun _ _ _ h => h) (Or.inl ⟨by rfl, fun w' hS => by go_simp⟩) hHeld ?_
  simp only [Act.put, List.getElem_toArray, List.getElem_cons_zero, List.getElem_cons_succ, List.setIfInBounds_toArray, List.set_cons_zero, List.set_cons_succ]
  refine wpAnyH_take (i := 3) (v := .pointer (some ⟨bb, 0, none⟩)) rfl (by kernel_rfl) (by kernel_rfl) (by kernel_rfl) (fun _ _ _ h => h) (Or.inl ⟨by rfl, fun w' hS => by go_simp⟩) hHeld ?_
  simp only [Act.put, List.getElem_toArray, List.getElem_cons_zero, List.getElem_cons_succ, List.setIfInBounds_toArray, List.set_cons_zero, List.set_cons_succ]
  refine wpAnyH_take (i := 7) (v := .pointer (some ⟨W.heap.size, 1, none⟩)) rfl (by kernel_rfl) (by kernel_rfl) (by kernel_rfl) (fun _ _ _ h => h) (Or.inl ⟨by rfl, fun w' hS => by go_simp⟩) hHeld ?_
  simp only [Act.put, List.getElem_toArray, List.getElem_cons_zero, List.getElem_cons_succ, List.setIfInBounds_toArray, List.set_cons_zero, List.set_cons_succ]
  refine wpAnyH_take (i := 8) (v := .int .i64 f.src) rfl (by kernel_rfl) (by kernel_rfl) (by kernel_rfl) (fun _ _ _ h => h) (Or.inl ⟨by rfl, fun w' hS => by (obtain ⟨p1, p2, p4⟩ := hS; go_simp)⟩) hHeld ?_
  simp only [Act.put, List.getElem_toArray, List.getElem_cons_zero, List.getElem_cons_succ, List.setIfInBounds_toArray, List.set_cons_zero, List.set_cons_succ]
  refine wpAnyH_take (i := 9) (v := .pointer (some ⟨W.heap.size, 2, none⟩)) rfl (by kernel_rfl) (by kernel_rfl) (by kernel_rfl) (fun _ _ _ h => h) (Or.inl ⟨by rfl, fun w' hS => by go_simp⟩) hHeld ?_
  simp only [Act.put, List.getElem_toArray, List.getElem_cons_zero, List.getElem_cons_succ, List.setIfInBounds_toArray, List.set_cons_zero, List.set_cons_succ]
  refine wpAnyH_take (i := 10) (v := .int .i64 f.dst) rfl (by kernel_rfl) (by kernel_rfl) (by kernel_rfl) (fun _ _ _ h => h) (Or.inl ⟨by rfl, fun w' hS => by (obtain ⟨p1, p2, p4⟩ := hS; go_simp)⟩) hHeld ?_
  simp only [Act.put, List.getElem_toArray, List.getElem_cons_zero, List.getElem_cons_succ, List.setIfInBounds_toArray, List.set_cons_zero, List.set_cons_succ]
  refine wpAnyH_take (i := 11) (v := .pointer (some ⟨W.heap.size, 4, none⟩)) rfl (by kernel_rfl) (by kernel_rfl) (by kernel_rfl) (fun _ _ _ h => h) (Or.inl ⟨by rfl, fun w' hS => by go_simp⟩) hHeld ?_
  simp only [Act.put, List.getElem_toArray, List.getElem_cons_zero, List.getElem_cons_succ, List.setIfInBounds_toArray, List.set_cons_zero, List.set_cons_succ]
  refine wpAnyH_take (i := 12) (v := .slice f.a f.n f.c) rfl (by kernel_rfl) (by kernel_rfl) (by kernel_rfl) (fun _ _ _ h => h) (Or.inl ⟨by rfl, fun w' hS => by (obtain ⟨p1, p2, p4⟩ := hS; go_simp)⟩) hHeld ?_
  simp only [Act.put, List.getElem_toArray, List.getElem_cons_zero, List.getElem_cons_succ, List.setIfInBounds_toArray, List.set_cons_zero, List.set_cons_succ]
  refine wpAnyH_ready (rs := [4]) (by kernel_rfl) (by simp) ?_
  refine AllReadyH.cons rfl (fun K hK => ?_) AllReadyH.nil
  have q0 := HQ0.out
  go_simp
  clear q0
  refine hK.out _ _ HS0.out (fun hHeld => ?_)
  clear hK K
  try (simp only [Act.put, List.getElem_toArray, List.getElem_cons_zero, List.getElem_cons_succ, List.setIfInBounds_toArray, List.set_cons_zero, List.set_cons_succ])
  refine wpAnyH_take (i := 5) (v := .int .i64 (N : Int)) rfl (by kernel_rfl) (by kernel_rfl) (by kernel_rfl) (fun _ _ _ h => h) (Or.inl ⟨by rfl, fun w' hS => by go_simp⟩) hHeld ?_
  simp only [Act.put, List.getElem_toArray, List.getElem_cons_zero, List.getElem_cons_succ, List.setIfInBounds_toArray, List.set_cons_zero, List.set_cons_succ]
  refine wpAnyH_take (i := 6) (v := .int .i64 ((N : Int) + 1)) rfl (by kernel_rfl) (by kernel_rfl) (by kernel_rfl) (fun _ _ _ h => h) (Or.inl ⟨by rfl, fun w' hS => by (go_simp; exact wrap_id (by omega) (by omega))⟩) hHeld ?_
  simp only [Act.put, List.getElem_toArray, List.getElem_cons_zero, List.getElem_cons_succ, List.setIfInBounds_toArray, List.set_cons_zero, List.set_cons_succ]
  refine wpAnyH_ready (rs := [13]) (by kernel_rfl) (by simp) ?_
  refine AllReadyH.cons rfl (fun K hK => ?_) AllReadyH.nil
  go_simp
  refine HPd.out.mono ?_
  rintro e w2 ⟨rfl, hq⟩
  have HPq : Hid (PutQ Wd w2 B bb (.slice sa N sc) dv bv cv es f.src f.dst f.bs) := hq
  refine hK.out _ _ (HSk.out w2 hq) (fun hHeld => ?_)
  clear hK K hq
  try (simp only [Act.put, List.getElem_toArray, List.getElem_cons_zero, List.getElem_cons_succ, List.setIfInBounds_toArray, List.set_cons_zero, List.set_cons_succ])
  refine wpAnyH_take (i := 14) (v := .bool true) rfl (by kernel_rfl) (by kernel_rfl) (by kernel_rfl) (fun _ _ _ h => h) (Or.inl ⟨by rfl, fun w' hS => by go_simp⟩) hHeld ?_
  simp only [Act.put, List.getElem_toArray, List.getElem_cons_zero, List.getElem_cons_succ, List.setIfInBounds_toArray, List.set_cons_zero, List.set_cons_succ]
  refine wpAnyH_done (by kernel_rfl) ?_ _
  clear hHeld
  go_wp2
  go_ret
  exact ⟨rfl, ((HPq.out.pre HWd.out).pre B2.out).pre Hb.out⟩
set_option maxHeartbeats 1000000 in
theorem did_else {bb : Nat} {sv dv bv cv : Value} {es : List Be} {ba : Option Addr} {bn bc : Nat} (o : Opx) (h1 : o.k ≠ 37) (h2 : o.k ≠ 33) (h3 : o.k ≠ 36) (hr : 20 < o.k ∧ o.k ≤ 60) : Calls Try.prog 34 #[.pointer (some ⟨bb, 0, none⟩), .slice ba bn bc, .agg o.cs] w fun e w' => e = .returned (.bool true) ∧ Below w.heap.size w w' := by
  generalize hW : w.alloc (.cells o.cs 46) = W
  have hbW : Below w.heap.size w W := by rw [← hW]; exact balloc (Below.refl _ w)
  have hblk : W.heap[w.heap.size]? = some (.cells o.cs 46 (0, 0)) := by rw [← hW]; exact heap_alloc_new w _
  obtain ⟨d0, d1, d2, d3, d4, d5⟩ := op_cells hblk
  have Hb : Hid (Below w.heap.size w W) := hbW
  have e1 : ¬ o.k - 20 = 17 := by omega
  have e2 : ¬ o.k - 20 = 13 := by omega
  have e3 : ¬ o.k - 20 = 16 := by omega
  have g1 : (o.k - 20 == 17) = false := by simpa using e1
  have g2 : (o.k - 20 == 13) = false := by simpa using e2
  have g3 : (o.k - 20 == 16) = false := by simpa using e3
  clear hblk hbW d1 d2 d3 d4 d5 h1 h2 h3
  unfold Opx.cs at hW ⊢
  go_enter Try.func34, Try.ntmps34
  go_wp2
  go_ret
  exact ⟨rfl, Hb.out⟩
end
end Go.Proofs.Ytnhhjelplmdloaa.Et
