import Derived.Test.YtihcaopcfhbofaaX48
namespace Go.Proofs.Ytihcaopcfhbofaa.Fm
open Go.RowKit Go.Maps Mb
set_option linter.unusedVariables false
set_option maxRecDepth 100000
set_option linter.unusedSimpArgs false
section
variable {w w' W : World} {B : Nat}
structure OnB (B : Nat) (w : World) (x f : Fl) : Prop where
  ce : x.c = f.c
  s : w.ownsRow B 70 2 (.slice x.sa f.c.sl.length x.sc) f.c.sl.length (slCells f.c.sl)
  h : w.ownsRow B 3 1 (.slice x.ha f.c.hv.length x.hc) f.c.hv.length (ints f.c.hv)
theorem OnB.still {B : Nat} {x f : Fl} (h : OnB B w x f) (hb : Below w.heap.size w w') : OnB B w' x f := ⟨h.ce, own_still h.s hb, own_still h.h hb⟩
theorem Fam.none (B T k : Nat) (w : World) {v : Nat → Value} {m : Nat → Nat} {l : Nat → List Value} : Fam B T k w 0 v m l := ⟨fun i hi => by omega, fun i j hi => by omega⟩
structure Mf (w0 w : World) (c : Nat) (mv : Value) (xs fs : List Fl) : Prop where
  len : xs.length = c
  o : w.ownsRow w0.heap.size 28 7 mv c (flCells xs)
  s : Fam w0.heap.size 70 2 w c (fun i => slv (xs.getD i fl0)) (fun i => (xs.getD i fl0).c.sl.length) (fun i => slCells (xs.getD i fl0).c.sl)
  h : Fam w0.heap.size 3 1 w c (fun i => itv (xs.getD i fl0)) (fun i => (xs.getD i fl0).c.hv.length) (fun i => ints (xs.getD i fl0).c.hv)
  ce : ∀ k, k < c → (xs.getD k fl0).c = (fs.getD k fl0).c
  b : Below w0.heap.size w0 w
theorem Mf.still {w0 : World} {c : Nat} {mv : Value} {xs fs : List Fl} (h : Mf w0 w c mv xs fs) (hb : Below w.heap.size w w') : Mf w0 w' c mv xs fs := ⟨h.len, own_still h.o hb, h.s.still hb, h.h.still hb, h.ce, bstep h.b hb⟩
theorem snoc_get {xs : List Fl} {x : Fl} {c k : Nat} (h : xs.length = c) (hk : k < c + 1) : (xs ++ [x]).getD k fl0 = if k = c then x else xs.getD k fl0 := by
  by_cases e : k = c
  · subst e
    rw [if_pos rfl]
    simp [List.getD, ← h]
  · rw [if_neg e]
    simp [List.getD, List.getElem?_append, show k < xs.length by omega]
theorem Mf.app {w0 w1 : World} {c : Nat} {mv v' : Value} {xs fs : List Fl} {x : Fl} (h : Mf w0 w c mv xs fs) (h1 : Mf w0 w1 c mv xs fs) (hb : Below w1.heap.size w1 w) (hx : OnB w1.heap.size w x (fs.getD c fl0)) (ho : w'.ownsRow w0.heap.size 28 7 v' (c + 1) (flCells xs ++ x.cs)) (hk : Kept w w' (fun j => mv.ownBlock = some j)) : Mf w0 w' (c + 1) v' (xs ++ [x]) fs := by
  have hs2 := own_keptT hx.s h.o hk (by decide)
  have hh2 := own_keptT hx.h h.o hk (by decide)
  have hS := h1.s.snoc (Nat.le_refl _) h1.b.size (h.s.keptT h.o hk (by decide)) hs2
  have hH := h1.h.snoc (Nat.le_refl _) h1.b.size (h.h.keptT h.o hk (by decide)) hh2
  refine ⟨by simp [h.len], by rw [flCells_app]; exact ho, hS.congr (fun k hk2 => ?_), hH.congr (fun k hk2 => ?_), fun k hk2 => ?_, ?_⟩
  · rw [snoc_get h.len hk2]
    unfold updF slv
    by_cases e : k = c
    · simp only [if_pos e]; rw [hx.ce]; exact ⟨rfl, rfl, rfl⟩
    · simp only [if_neg e]; exact ⟨trivial, trivial, trivial⟩
  · rw [snoc_get h.len hk2]
    unfold updF itv
    by_cases e : k = c
    · simp only [if_pos e]; rw [hx.ce]; exact ⟨rfl, rfl, rfl⟩
    · simp only [if_neg e]; exact ⟨trivial, trivial, trivial⟩
  · rw [snoc_get h.len hk2]
    by_cases e : k = c
    · rw [if_pos e, e]; exact hx.ce
    · rw [if_neg e]; exact h.ce k (by omega)
  · refine h.b.trans (hk.below h.b.size (fun q hq e => ?_))
    have := (row_cells h.o e).1
    omega
set_option maxHeartbeats 8000000 in
theorem one_new {f : Fl} (hf : f.In w) : Calls Try.prog 13 #[.agg f.cs.toArray] w fun e w' => ∃ x : Fl, e = .returned (.agg x.cs.toArray) ∧ OnB w.heap.size w' x f ∧ Below w.heap.size w w' := by
  generalize hW1 : w.alloc (.cells f.cs.toArray 28) = W1
  generalize hW2 : W1.alloc (.cells #[.int .i64 0, .int .i64 0, .int .i64 0, .int .i64 0, .int .i64 0, .slice none 0 0, .slice none 0 0] 28) = W2
  have b1 : Below w.heap.size w W1 := hW1 ▸ balloc (Below.refl _ _)
  have b2 : Below W1.heap.size W1 W2 := hW2 ▸ balloc (Below.refl _ _)
  have k1 : W1.heap[w.heap.size]? = some (.cells f.cs.toArray 28 (0, 0)) := by rw [← hW1]; exact heap_alloc_new w _
  have k2 : W2.heap[W1.heap.size]? = some (.cells #[.int .i64 0, .int .i64 0, .int .i64 0, .int .i64 0, .int .i64 0, .slice none 0 0, .slice none 0 0] 28 (0, 0)) := by rw [← hW2]; exact heap_alloc_new W1 _
  have HB : Hid (Below w.heap.size w W2) := bstep b1 b2
  have HBd : Hid (Below w.heap.size w W2.drew) := bstep (bstep b1 b2) (drew_bel W2)
  have HF : Hid (f.In W2.drew) := ((hf.still b1).still b2).still (drew_bel W2)
  have HO : Hid (Oc f W2.drew w.heap.size W1.heap.size W2.drew) := ⟨blk_on (bstep b2 (drew_bel W2)) k1, ⟨_, rfl, blk_on (drew_bel W2) k2⟩, Below.refl _ _⟩
  have Hne : Hid (w.heap.size ≠ W1.heap.size) := (show w.heap.size ≠ W1.heap.size from by have := (Array.getElem?_eq_some_iff.1 k1).1; omega)
  have Hge : Hid (w.heap.size ≤ W1.heap.size) := b1.size
  have Hlt : Hid (W1.heap.size < W2.drew.heap.size) := (Array.getElem?_eq_some_iff.1 k2).1
  obtain ⟨si, shi, shz0, shz1, shz2⟩ := slot_info
  obtain ⟨ii, ihi, ihz0, ihz1, ihz2⟩ := int_info
  have Hck : Hid (∀ V : World, V.heap[w.heap.size]? = some (.cells f.cs.toArray 28 (0, 0)) → V.cell? ⟨w.heap.size, 4, none⟩ = some (.int .i64 f.c.base) ∧ V.cell? ⟨w.heap.size, 5, none⟩ = some (.slice f.sa f.c.sl.length f.sc) ∧ V.cell? ⟨w.heap.size, 6, none⟩ = some (.slice f.ha f.c.hv.length f.hc) ∧ V.rangeAt w.heap.size 0 f.c.id.cs) := fun V hV => ⟨blk_cell hV 4, blk_cell hV 5, blk_cell hV 6, id_range hV⟩
  have hsn := hf.sn
  have hhn := hf.hn
  have HSz : Hid (f.sa = none → f.c.sl.length = 0 ∧ f.sc = 0) := hf.sz
  have HHz : Hid (f.ha = none → f.c.hv.length = 0 ∧ f.hc = 0) := hf.hz
  clear hf b1 b2 k1 k2
  generalize hsl : f.c.sl.length = sn at *
  generalize hhl : f.c.hv.length = hn at *
  have Hsn : Hid (f.c.sl.length = sn) := hsl
  have Hhn : Hid (f.c.hv.length = hn) := hhl
  clear hsl hhl
  generalize hpc : f.cs.toArray = pc at hW1 ⊢
  clear hpc
  go_enter Try.func13, Try.ntmps13
  go_wp2_with (fail)
  clear hW1 hW2
  generalize hkb : w.heap.size = kb at *
  generalize hrb : W1.heap.size = rb at *
  have Hkb : Hid (w.heap.size = kb) := hkb
  clear hkb hrb
  refine wp_region_held_drew (S := (fun w' => w'.heap[kb]? = some (.cells f.cs.toArray 28 (0, 0)))) (by kernel_rfl) (HO.out.k) (fun hHeld => ?_)
  simp only [Act.put, List.size_toArray, List.length_cons, List.length_nil, Nat.zero_add]
  refine wpAnyH_take (i := 0) (v := .pointer (some ⟨kb, 0, none⟩)) rfl (by kernel_rfl) (by kernel_rfl) (by kernel_rfl) (fun _ _ _ h => h) (Or.inl ⟨by rfl, fun w' hS => by go_simp⟩) hHeld ?_
  simp only [Act.put, gA9, gZ9, gC9, sA9, sZ9, sC9]
  refine wpAnyH_take (i := 1) (v := .agg ([.int .i64 f.c.id.e, .int .i64 f.c.id.l, .int .i64 f.c.id.i, .int .i64 f.c.id.c]).toArray) rfl (by kernel_rfl) (by kernel_rfl) (by kernel_rfl) (fun _ _ _ h => h) (yieldsIf_load_mid (by rfl) 24 (.tmp 3) rfl kb (0) (by rfl) ([.int .i64 f.c.id.e, .int .i64 f.c.id.l, .int .i64 f.c.id.i, .int .i64 f.c.id.c]) _ (fun w' hS => (Hck.out w' hS).2.2.2) Try.underlying24 rfl info_id) hHeld ?_
  simp only [Act.put, gA9, gZ9, gC9, sA9, sZ9, sC9]
  refine wpAnyH_take (i := 2) (v := .pointer (some ⟨kb, 4, none⟩)) rfl (by kernel_rfl) (by kernel_rfl) (by kernel_rfl) (fun _ _ _ h => h) (Or.inl ⟨by rfl, fun w' hS => by go_simp⟩) hHeld ?_
  simp only [Act.put, gA9, gZ9, gC9, sA9, sZ9, sC9]
  refine wpAnyH_take (i := 3) (v := .int .i64 f.c.base) rfl (by kernel_rfl) (by kernel_rfl) (by kernel_rfl) (fun _ _ _ h => h) (Or.inl ⟨by rfl, fun w' hS => by (obtain ⟨q4, q5, q6, qi⟩ := Hck.out w' hS; go_simp)⟩) hHeld ?_
  simp only [Act.put, gA9, gZ9, gC9, sA9, sZ9, sC9]
  refine wpAnyH_take (i := 5) (v := .pointer (some ⟨kb, 5, none⟩)) rfl (by kernel_rfl) (by kernel_rfl) (by kernel_rfl) (fun _ _ _ h => h) (Or.inl ⟨by rfl, fun w' hS => by go_simp⟩) hHeld ?_
  simp only [Act.put, gA9, gZ9, gC9, sA9, sZ9, sC9]
  refine wpAnyH_take (i := 6) (v := .slice f.sa sn f.sc) rfl (by kernel_rfl) (by kernel_rfl) (by kernel_rfl) (fun _ _ _ h => h) (Or.inl ⟨by rfl, fun w' hS => by (obtain ⟨q4, q5, q6, qi⟩ := Hck.out w' hS; go_simp)⟩) hHeld ?_
  simp only [Act.put, gA9, gZ9, gC9, sA9, sZ9, sC9]
  refine wpAnyH_take (i := 9) (v := .pointer (some ⟨kb, 6, none⟩)) rfl (by kernel_rfl) (by kernel_rfl) (by kernel_rfl) (fun _ _ _ h => h) (Or.inl ⟨by rfl, fun w' hS => by go_simp⟩) hHeld ?_
  simp only [Act.put, gA9, gZ9, gC9, sA9, sZ9, sC9]
  refine wpAnyH_take (i := 10) (v := .slice f.ha hn f.hc) rfl (by kernel_rfl) (by kernel_rfl) (by kernel_rfl) (fun _ _ _ h => h) (Or.inl ⟨by rfl, fun w' hS => by (obtain ⟨q4, q5, q6, qi⟩ := Hck.out w' hS; go_simp)⟩) hHeld ?_
  simp only [Act.put, gA9, gZ9, gC9, sA9, sZ9, sC9]
  generalize hVd : W2.drew = Vd at *
  clear hVd
  refine wpAnyH_ready (rs := [4, 8]) (by kernel_rfl) (by simp) ?_
  refine AllReadyH.cons rfl (fun K hK => ?_) (AllReadyH.cons rfl (fun K hK => ?_) AllReadyH.nil)
  · go_simp
    obtain ⟨b1, k1⟩ := bel_new (Z := #[]) (T := 70) Vd
    generalize Vd.alloc (.cells #[] 70) = V1 at b1 k1 ⊢
    have K1 : Hid (V1.heap[Vd.heap.size]? = some (.cells #[] 70 (0, 0))) := k1
    have B1 : Hid (Below Vd.heap.size Vd V1) := b1
    have O1 : Hid (Oc f Vd kb rb V1) := HO.out.still b1
    have G1 : Hid (Vd.heap.size ≤ Vd.heap.size) := HO.out.b.size
    clear k1 b1
    refine hK.out _ _ O1.out.k (fun hHeld => ?_)
    clear hK K
    try (simp only [Act.put, gA9, gZ9, gC9, sA9, sZ9, sC9])
    refine wpAnyH_ready (rs := [7, 8]) (by kernel_rfl) (by simp) ?_
    refine AllReadyH.cons rfl (fun K hK => ?_) (AllReadyH.cons rfl (fun K hK => ?_) AllReadyH.nil)
    · refine step_copyA rfl _ _ 25 70 rfl si (.agg #[.int .i64 0, .int .i64 0]) 2 16 Try.underlying25 shi shz0 shz1 shz2 rfl (by omega) rfl K1.out f.sa sn f.sc (slCells f.c.sl) rfl HSz.out (by rw [slCells_len, Hsn.out]) (rdS_news (HF.out.rd.s.still O1.out.b)) (slCells_one _) (by unfold maxLen; omega) (by omega) ?_
      intro a7 c7 V2 ho2 hk2
      have Wq2 : Hid _ := ho2
      have O2 : Hid (Oc f Vd kb rb V2) := O1.out.kept G1.out K1.out hk2
      clear ho2 hk2
      refine hK.out _ _ O2.out.k (fun hHeld => ?_)
      clear hK K
      try (simp only [Act.put, gA9, gZ9, gC9, sA9, sZ9, sC9])
      refine wpAnyH_ready (rs := [8]) (by kernel_rfl) (by simp) ?_
      refine AllReadyH.cons rfl (fun K hK => ?_) AllReadyH.nil
      go_simp
      obtain ⟨b3, k3⟩ := bel_new (Z := #[]) (T := 3) V2
      generalize V2.alloc (.cells #[] 3) = V3 at b3 k3 ⊢
      have K3 : Hid (V3.heap[V2.heap.size]? = some (.cells #[] 3 (0, 0))) := k3
      have B3 : Hid (Below V2.heap.size V2 V3) := b3
      have O3 : Hid (Oc f Vd kb rb V3) := O2.out.still b3
      have G3 : Hid (Vd.heap.size ≤ V2.heap.size) := O2.out.b.size
      clear k3 b3
      refine hK.out _ _ O3.out.k (fun hHeld => ?_)
      clear hK K
      try (simp only [Act.put, gA9, gZ9, gC9, sA9, sZ9, sC9])
      refine wpAnyH_ready (rs := [11]) (by kernel_rfl) (by simp) ?_
      refine AllReadyH.cons rfl (fun K hK => ?_) AllReadyH.nil
      refine step_copyA rfl _ _ 26 3 rfl ii (.int .i64 0) 1 8 Try.underlying26 ihi ihz0 ihz1 ihz2 rfl (by omega) rfl K3.out f.ha hn f.hc (ints f.c.hv) rfl HHz.out (by rw [ints_len, Hhn.out, Nat.mul_one]) (rdI_news (HF.out.rd.h.still O3.out.b)) (ints_one _) (by unfold maxLen; omega) (by omega) ?_
      intro a11 c11 V4 ho4 hk4
      have Wq4 : Hid _ := ho4
      have O4 : Hid (Oc f Vd kb rb V4) := O3.out.kept G3.out K3.out hk4
      have M4 : Hid (V4.ownsRow Vd.heap.size 70 2 (.slice a7 sn c7) sn (slCells f.c.sl)) := own_ne (own_lower (own_still Wq2.out B3.out) G1.out) K3.out (by decide) hk4
      clear ho4 hk4
      refine hK.out _ _ O4.out.k (fun hHeld => ?_)
      clear hK K
      try (simp only [Act.put, gA9, gZ9, gC9, sA9, sZ9, sC9])
      refine wpAnyH_take (i := 12) (v := .agg #[.int .i64 f.c.id.e, .int .i64 f.c.id.l, .int .i64 f.c.id.i, .int .i64 f.c.id.c, .int .i64 f.c.base, .slice a7 sn c7, .slice a11 hn c11]) rfl (by kernel_rfl) (by kernel_rfl) (by kernel_rfl) (fun _ _ _ h => h) (Or.inl ⟨by rfl, fun w' hS => by go_simp⟩) hHeld ?_
      simp only [Act.put, gA9, gZ9, gC9, sA9, sZ9, sC9]
      obtain ⟨C, hC7, hC⟩ := O4.out.r
      refine wpAnyH_ready (rs := [13]) (by kernel_rfl) (by simp) ?_
      refine AllReadyH.cons rfl (fun K hK => ?_) AllReadyH.nil
      refine step_storeZ rfl 28 _ _ rfl (L := [.int .i64 f.c.id.e, .int .i64 f.c.id.l, .int .i64 f.c.id.i, .int .i64 f.c.id.c, .int .i64 f.c.base, .slice a7 sn c7, .slice a11 hn c11]) rfl rfl hC info_flush hC7 (by intro u hu; simp only [List.mem_cons, List.not_mem_nil, or_false] at hu; rcases hu with rfl | rfl | rfl | rfl | rfl | rfl | rfl <;> rfl) ?_
      intro VZ hz hkz
      refine hK.out _ _ (hkz.obj O4.out.k Hne.out) (fun hHeld => ?_)
      clear hK K
      have HZ : Hid (VZ.heap[rb]? = some (.cells [.int .i64 f.c.id.e, .int .i64 f.c.id.l, .int .i64 f.c.id.i, .int .i64 f.c.id.c, .int .i64 f.c.base, .slice a7 sn c7, .slice a11 hn c11].toArray 28 (0, 0))) := hz
      have HKZ : Hid (Kept V4 VZ (fun j => j = rb)) := hkz
      clear hz hkz
      refine wpAnyH_done (by kernel_rfl) ?_ _
      clear hHeld
      go_wp2
      (try simp only [Exit.inBlock, Exit.then]); refine bodyPost_ret (res_flush rfl _ _ rb [.int .i64 f.c.id.e, .int .i64 f.c.id.l, .int .i64 f.c.id.i, .int .i64 f.c.id.c, .int .i64 f.c.base, .slice a7 sn c7, .slice a11 hn c11] rfl rfl (blk_range HZ.out)) rfl ?_
      have h7 : VZ.ownsRow Vd.heap.size 70 2 (.slice a7 sn c7) sn (slCells f.c.sl) := own_ne M4.out hC (by decide) HKZ.out
      have h11 : VZ.ownsRow Vd.heap.size 3 1 (.slice a11 hn c11) hn (ints f.c.hv) := own_ne (own_lower Wq4.out G3.out) hC (by decide) HKZ.out
      refine ⟨⟨f.c, a7, c7, a11, c11⟩, ?_, ⟨rfl, by rw [Hsn.out]; exact own_lower h7 (by rw [Hkb.out]; have := HBd.out.size; have := Hlt.out; have := Hge.out; omega), by rw [Hhn.out]; exact own_lower h11 (by rw [Hkb.out]; have := Hlt.out; have := Hge.out; omega)⟩, ?_⟩
      · show _ = Ending.returned (Value.agg #[.int .i64 f.c.id.e, .int .i64 f.c.id.l, .int .i64 f.c.id.i, .int .i64 f.c.id.c, .int .i64 f.c.base, .slice a7 f.c.sl.length c7, .slice a11 f.c.hv.length c11])
        rw [Hsn.out, Hhn.out]
      · rw [Hkb.out]
        have hk := Hkb.out
        have s1 := HBd.out.size
        have s3 := Hlt.out
        have s4 := Hge.out
        have h1 : Below kb w V4 := HBd.out.trans (O4.out.b.mono (by omega))
        have s5 := O4.out.b.size
        exact h1.trans (HKZ.out.below (by omega) (fun k hk e => by omega))
    · go_simp
      obtain ⟨b5, k5⟩ := bel_new (Z := #[]) (T := 3) V1
      generalize V1.alloc (.cells #[] 3) = V5 at b5 k5 ⊢
      have K5 : Hid (V5.heap[V1.heap.size]? = some (.cells #[] 3 (0, 0))) := k5
      have B5 : Hid (Below V1.heap.size V1 V5) := b5
      have O5 : Hid (Oc f Vd kb rb V5) := O1.out.still b5
      have G5 : Hid (Vd.heap.size ≤ V1.heap.size) := O1.out.b.size
      clear k5 b5
      refine hK.out _ _ O5.out.k (fun hHeld => ?_)
      clear hK K
      try (simp only [Act.put, gA9, gZ9, gC9, sA9, sZ9, sC9])
      refine wpAnyH_ready (rs := [7]) (by kernel_rfl) (by simp) ?_
      refine AllReadyH.cons rfl (fun K hK => ?_) AllReadyH.nil
      refine step_copyA rfl _ _ 25 70 rfl si (.agg #[.int .i64 0, .int .i64 0]) 2 16 Try.underlying25 shi shz0 shz1 shz2 rfl (by omega) rfl (blk_on B5.out K1.out) f.sa sn f.sc (slCells f.c.sl) rfl HSz.out (by rw [slCells_len, Hsn.out]) (rdS_news (HF.out.rd.s.still O5.out.b)) (slCells_one _) (by unfold maxLen; omega) (by omega) ?_
      intro a7 c7 V6 ho6 hk6
      have Wq6 : Hid _ := ho6
      have O6 : Hid (Oc f Vd kb rb V6) := O5.out.kept G1.out (blk_on B5.out K1.out) hk6
      have M6 : Hid (V6.heap[V1.heap.size]? = some (.cells #[] 3 (0, 0))) := hk6.obj K5.out (blk_ne K5.out (blk_on B5.out K1.out) (by decide))
      clear ho6 hk6
      refine hK.out _ _ O6.out.k (fun hHeld => ?_)
      clear hK K
      try (simp only [Act.put, gA9, gZ9, gC9, sA9, sZ9, sC9])
      refine wpAnyH_ready (rs := [11]) (by kernel_rfl) (by simp) ?_
      refine AllReadyH.cons rfl (fun K hK => ?_) AllReadyH.nil
      refine step_copyA rfl _ _ 26 3 rfl ii (.int .i64 0) 1 8 Try.underlying26 ihi ihz0 ihz1 ihz2 rfl (by omega) rfl M6.out f.ha hn f.hc (ints f.c.hv) rfl HHz.out (by rw [ints_len, Hhn.out, Nat.mul_one]) (rdI_news (HF.out.rd.h.still O6.out.b)) (ints_one _) (by unfold maxLen; omega) (by omega) ?_
      intro a11 c11 V7 ho7 hk7
      have Wq7 : Hid _ := ho7
      have O7 : Hid (Oc f Vd kb rb V7) := O6.out.kept G5.out M6.out hk7
      have M7 : Hid (V7.ownsRow Vd.heap.size 70 2 (.slice a7 sn c7) sn (slCells f.c.sl)) := own_ne (own_lower Wq6.out G1.out) M6.out (by decide) hk7
      clear ho7 hk7
      refine hK.out _ _ O7.out.k (fun hHeld => ?_)
      clear hK K
      try (simp only [Act.put, gA9, gZ9, gC9, sA9, sZ9, sC9])
      refine wpAnyH_take (i := 12) (v := .agg #[.int .i64 f.c.id.e, .int .i64 f.c.id.l, .int .i64 f.c.id.i, .int .i64 f.c.id.c, .int .i64 f.c.base, .slice a7 sn c7, .slice a11 hn c11]) rfl (by kernel_rfl) (by kernel_rfl) (by kernel_rfl) (fun _ _ _ h => h) (Or.inl ⟨by rfl, fun w' hS => by go_simp⟩) hHeld ?_
      simp only [Act.put, gA9, gZ9, gC9, sA9, sZ9, sC9]
      obtain ⟨C, hC7, hC⟩ := O7.out.r
      refine wpAnyH_ready (rs := [13]) (by kernel_rfl) (by simp) ?_
      refine AllReadyH.cons rfl (fun K hK => ?_) AllReadyH.nil
      refine step_storeZ rfl 28 _ _ rfl (L := [.int .i64 f.c.id.e, .int .i64 f.c.id.l, .int .i64 f.c.id.i, .int .i64 f.c.id.c, .int .i64 f.c.base, .slice a7 sn c7, .slice a11 hn c11]) rfl rfl hC info_flush hC7 (by intro u hu; simp only [List.mem_cons, List.not_mem_nil, or_false] at hu; rcases hu with rfl | rfl | rfl | rfl | rfl | rfl | rfl <;> rfl) ?_
      intro VZ hz hkz
      refine hK.out _ _ (hkz.obj O7.out.k Hne.out) (fun hHeld => ?_)
      clear hK K
      have HZ : Hid (VZ.heap[rb]? = some (.cells [.int .i64 f.c.id.e, .int .i64 f.c.id.l, .int .i64 f.c.id.i, .int .i64 f.c.id.c, .int .i64 f.c.base, .slice a7 sn c7, .slice a11 hn c11].toArray 28 (0, 0))) := hz
      have HKZ : Hid (Kept V7 VZ (fun j => j = rb)) := hkz
      clear hz hkz
      refine wpAnyH_done (by kernel_rfl) ?_ _
      clear hHeld
      go_wp2
      (try simp only [Exit.inBlock, Exit.then]); refine bodyPost_ret (res_flush rfl _ _ rb [.int .i64 f.c.id.e, .int .i64 f.c.id.l, .int .i64 f.c.id.i, .int .i64 f.c.id.c, .int .i64 f.c.base, .slice a7 sn c7, .slice a11 hn c11] rfl rfl (blk_range HZ.out)) rfl ?_
      have h7 : VZ.ownsRow Vd.heap.size 70 2 (.slice a7 sn c7) sn (slCells f.c.sl) := own_ne M7.out hC (by decide) HKZ.out
      have h11 : VZ.ownsRow Vd.heap.size 3 1 (.slice a11 hn c11) hn (ints f.c.hv) := own_ne (own_lower Wq7.out G5.out) hC (by decide) HKZ.out
      refine ⟨⟨f.c, a7, c7, a11, c11⟩, ?_, ⟨rfl, by rw [Hsn.out]; exact own_lower h7 (by rw [Hkb.out]; have := HBd.out.size; have := Hlt.out; have := Hge.out; omega), by rw [Hhn.out]; exact own_lower h11 (by rw [Hkb.out]; have := Hlt.out; have := Hge.out; omega)⟩, ?_⟩
      · show _ = Ending.returned (Value.agg #[.int .i64 f.c.id.e, .int .i64 f.c.id.l, .int .i64 f.c.id.i, .int .i64 f.c.id.c, .int .i64 f.c.base, .slice a7 f.c.sl.length c7, .slice a11 f.c.hv.length c11])
        rw [Hsn.out, Hhn.out]
      · rw [Hkb.out]
        have hk := Hkb.out
        have s1 := HBd.out.size
        have s3 := Hlt.out
        have s4 := Hge.out
        have h1 : Below kb w V7 := HBd.out.trans (O7.out.b.mono (by omega))
        have s5 := O7.out.b.size
        exact h1.trans (HKZ.out.below (by omega) (fun k hk e => by omega))
  · go_simp
    obtain ⟨b8, k8⟩ := bel_new (Z := #[]) (T := 3) Vd
    generalize Vd.alloc (.cells #[] 3) = V8 at b8 k8 ⊢
    have K8 : Hid (V8.heap[Vd.heap.size]? = some (.cells #[] 3 (0, 0))) := k8
    have B8 : Hid (Below Vd.heap.size Vd V8) := b8
    have O8 : Hid (Oc f Vd kb rb V8) := HO.out.still b8
    have G8 : Hid (Vd.heap.size ≤ Vd.heap.size) := HO.out.b.size
    clear k8 b8
    refine hK.out _ _ O8.out.k (fun hHeld => ?_)
    clear hK K
    try (simp only [Act.put, gA9, gZ9, gC9, sA9, sZ9, sC9])
    refine wpAnyH_ready (rs := [4]) (by kernel_rfl) (by simp) ?_
    refine AllReadyH.cons rfl (fun K hK => ?_) AllReadyH.nil
    go_simp
    obtain ⟨b9, k9⟩ := bel_new (Z := #[]) (T := 70) V8
    generalize V8.alloc (.cells #[] 70) = V9 at b9 k9 ⊢
    have K9 : Hid (V9.heap[V8.heap.size]? = some (.cells #[] 70 (0, 0))) := k9
    have B9 : Hid (Below V8.heap.size V8 V9) := b9
    have O9 : Hid (Oc f Vd kb rb V9) := O8.out.still b9
    have G9 : Hid (Vd.heap.size ≤ V8.heap.size) := O8.out.b.size
    clear k9 b9
    refine hK.out _ _ O9.out.k (fun hHeld => ?_)
    clear hK K
    try (simp only [Act.put, gA9, gZ9, gC9, sA9, sZ9, sC9])
    refine wpAnyH_ready (rs := [7]) (by kernel_rfl) (by simp) ?_
    refine AllReadyH.cons rfl (fun K hK => ?_) AllReadyH.nil
    refine step_copyA rfl _ _ 25 70 rfl si (.agg #[.int .i64 0, .int .i64 0]) 2 16 Try.underlying25 shi shz0 shz1 shz2 rfl (by omega) rfl K9.out f.sa sn f.sc (slCells f.c.sl) rfl HSz.out (by rw [slCells_len, Hsn.out]) (rdS_news (HF.out.rd.s.still O9.out.b)) (slCells_one _) (by unfold maxLen; omega) (by omega) ?_
    intro a7 c7 V10 ho10 hk10
    have Wq10 : Hid _ := ho10
    have O10 : Hid (Oc f Vd kb rb V10) := O9.out.kept G9.out K9.out hk10
    have M10 : Hid (V10.heap[Vd.heap.size]? = some (.cells #[] 3 (0, 0))) := hk10.obj (blk_on B9.out K8.out) (blk_ne (blk_on B9.out K8.out) K9.out (by decide))
    clear ho10 hk10
    refine hK.out _ _ O10.out.k (fun hHeld => ?_)
    clear hK K
    try (simp only [Act.put, gA9, gZ9, gC9, sA9, sZ9, sC9])
    refine wpAnyH_ready (rs := [11]) (by kernel_rfl) (by simp) ?_
    refine AllReadyH.cons rfl (fun K hK => ?_) AllReadyH.nil
    refine step_copyA rfl _ _ 26 3 rfl ii (.int .i64 0) 1 8 Try.underlying26 ihi ihz0 ihz1 ihz2 rfl (by omega) rfl M10.out f.ha hn f.hc (ints f.c.hv) rfl HHz.out (by rw [ints_len, Hhn.out, Nat.mul_one]) (rdI_news (HF.out.rd.h.still O10.out.b)) (ints_one _) (by unfold maxLen; omega) (by omega) ?_
    intro a11 c11 V11 ho11 hk11
    have Wq11 : Hid _ := ho11
    have O11 : Hid (Oc f Vd kb rb V11) := O10.out.kept G8.out M10.out hk11
    have M11 : Hid (V11.ownsRow Vd.heap.size 70 2 (.slice a7 sn c7) sn (slCells f.c.sl)) := own_ne (own_lower Wq10.out G9.out) M10.out (by decide) hk11
    clear ho11 hk11
    refine hK.out _ _ O11.out.k (fun hHeld => ?_)
    clear hK K
    try (simp only [Act.put, gA9, gZ9, gC9, sA9, sZ9, sC9])
    refine wpAnyH_take (i := 12) (v := .agg #[.int .i64 f.c.id.e, .int .i64 f.c.id.l, .int .i64 f.c.id.i, .int .i64 f.c.id.c, .int .i64 f.c.base, .slice a7 sn c7, .slice a11 hn c11]) rfl (by kernel_rfl) (by kernel_rfl) (by kernel_rfl) (fun _ _ _ h => h) (Or.inl ⟨by rfl, fun w' hS => by go_simp⟩) hHeld ?_
    simp only [Act.put, gA9, gZ9, gC9, sA9, sZ9, sC9]
    obtain ⟨C, hC7, hC⟩ := O11.out.r
    refine wpAnyH_ready (rs := [13]) (by kernel_rfl) (by simp) ?_
    refine AllReadyH.cons rfl (fun K hK => ?_) AllReadyH.nil
    refine step_storeZ rfl 28 _ _ rfl (L := [.int .i64 f.c.id.e, .int .i64 f.c.id.l, .int .i64 f.c.id.i, .int .i64 f.c.id.c, .int .i64 f.c.base, .slice a7 sn c7, .slice a11 hn c11]) rfl rfl hC info_flush hC7 (by intro u hu; simp only [List.mem_cons, List.not_mem_nil, or_false] at hu; rcases hu with rfl | rfl | rfl | rfl | rfl | rfl | rfl <;> rfl) ?_
    intro VZ hz hkz
    refine hK.out _ _ (hkz.obj O11.out.k Hne.out) (fun hHeld => ?_)
    clear hK K
    have HZ : Hid (VZ.heap[rb]? = some (.cells [.int .i64 f.c.id.e, .int .i64 f.c.id.l, .int .i64 f.c.id.i, .int .i64 f.c.id.c, .int .i64 f.c.base, .slice a7 sn c7, .slice a11 hn c11].toArray 28 (0, 0))) := hz
    have HKZ : Hid (Kept V11 VZ (fun j => j = rb)) := hkz
    clear hz hkz
    refine wpAnyH_done (by kernel_rfl) ?_ _
    clear hHeld
    go_wp2
    (try simp only [Exit.inBlock, Exit.then]); refine bodyPost_ret (res_flush rfl _ _ rb [.int .i64 f.c.id.e, .int .i64 f.c.id.l, .int .i64 f.c.id.i, .int .i64 f.c.id.c, .int .i64 f.c.base, .slice a7 sn c7, .slice a11 hn c11] rfl rfl (blk_range HZ.out)) rfl ?_
    have h7 : VZ.ownsRow Vd.heap.size 70 2 (.slice a7 sn c7) sn (slCells f.c.sl) := own_ne M11.out hC (by decide) HKZ.out
    have h11 : VZ.ownsRow Vd.heap.size 3 1 (.slice a11 hn c11) hn (ints f.c.hv) := own_ne (own_lower Wq11.out G8.out) hC (by decide) HKZ.out
    refine ⟨⟨f.c, a7, c7, a11, c11⟩, ?_, ⟨rfl, by rw [Hsn.out]; exact own_lower h7 (by rw [Hkb.out]; have := HBd.out.size; have := Hlt.out; have := Hge.out; omega), by rw [Hhn.out]; exact own_lower h11 (by rw [Hkb.out]; have := Hlt.out; have := Hge.out; omega)⟩, ?_⟩
    · show _ = Ending.returned (Value.agg #[.int .i64 f.c.id.e, .int .i64 f.c.id.l, .int .i64 f.c.id.i, .int .i64 f.c.id.c, .int .i64 f.c.base, .slice a7 f.c.sl.length c7, .slice a11 f.c.hv.length c11])
      rw [Hsn.out, Hhn.out]
    · rw [Hkb.out]
      have hk := Hkb.out
      have s1 := HBd.out.size
      have s3 := Hlt.out
      have s4 := Hge.out
      have h1 : Below kb w V11 := HBd.out.trans (O11.out.b.mono (by omega))
      have s5 := O11.out.b.size
      exact h1.trans (HKZ.out.below (by omega) (fun k hk e => by omega))
set_option maxHeartbeats 4000000 in
theorem many_fam {ao : Option Addr} {cp : Nat} {fs : List Fl} (hr : RdFs w ao fs) (hi : ∀ k, k < fs.length → (fs.getD k fl0).In w) (hn : fs.length ≤ 1048576) : Calls Try.prog 4 #[.slice ao fs.length cp] w fun e w' => ∃ a c xs, e = .returned (.slice (some ⟨a, 0, none⟩) fs.length c) ∧ Mf w w' fs.length (.slice (some ⟨a, 0, none⟩) fs.length c) xs fs := by
  have HR : Hid (RdFs w ao fs) := hr
  have HI : Hid (∀ k, k < fs.length → (fs.getD k fl0).In w) := hi
  generalize hL : fs.length = L at *
  have HLe : Hid (fs.length = L) := hL
  obtain ⟨ii, ihi, ihz0, ihz1, ihz2⟩ := flush_info
  clear hr hi hL
  generalize hW0 : w.alloc (.cells #[] 28) = W0
  have HT0 : Hid (Mf w W0 0 (.slice (some ⟨w.heap.size, 0, none⟩) 0 0) [] fs) := ⟨rfl, hW0 ▸ World.ownsRow_made w #[] 0 (by omega) (Nat.zero_le _) (by simp), Fam.none _ _ _ _, Fam.none _ _ _ _, fun k hk => by omega, hW0 ▸ balloc (Below.refl _ _)⟩
  go_enter Try.func4, Try.ntmps4
  go_wp2
  clear hW0
  go_loopw [3, 4] (fun mv i wr => ∃ c : Nat, ∃ xs, c ≤ L ∧ i = .int .i64 c ∧ (∃ ma mc, mv = .slice (some ma) c mc) ∧ Mf w wr c mv xs fs) (fun _ i _ => L - (intOf i).toNat)
  case atStart => exact ⟨0, [], Nat.zero_le _, rfl, ⟨_, _, rfl⟩, HT0.out⟩
  case round =>
    obtain ⟨c, xs, hc, rfl, ⟨ma, mc, rfl⟩, ht⟩ := hrel
    have HT : Hid (Mf w wr c (.slice (some ma) c mc) xs fs) := ht
    clear ht HT0
    have i1 : (0 : Int) ≤ (c : Int) := Int.natCast_nonneg _
    by_cases hlt : c < L
    · obtain ⟨b, off, rfl, hcc⟩ := (HR.out.still HT.out.b).at (i := c) (by rw [HLe.out]; exact hlt)
      have HC : Hid (wr.rangeAt b (off + c * 7) (fs.getD c fl0).cs) := hcc
      have HM := one_new ((HI.out c hlt).still HT.out.b)
      clear hcc
      have i2 : (c : Int) < (L : Int) := by omega
      generalize hf : fs.getD c fl0 = f at HC HM
      have Hf : Hid (fs.getD c fl0 = f) := hf
      clear hf
      have Hl7 : Hid (f.cs.length = 7) := rfl
      go_wp2_with (first
        | (refine load_mid 28 (.tmp 15) HC.out _ Try.underlying28 rfl (by rw [Hl7.out]; exact info_flush) rfl rfl rfl ?_)
        | (go_at_call 13; refine HM.mono ?_; rintro e V ⟨x, rfl, hx, hbv⟩; have HX : Hid (OnB wr.heap.size V x f) := hx; have HBV : Hid (Below wr.heap.size wr V) := hbv; clear hx hbv)
        | (refine wl_bsl rfl 22 28 1 _ rfl Try.underlying22 x.cs.toArray (bsl_eq (by kernel_rfl) (bFl x)) ?_; intro Z1 kz1 bz1 sz1; have KZ1 : Hid _ := kz1; have BZ1 : Hid (Below V.heap.size V Z1) := bz1; have HTz : Hid (Mf w Z1 c (.slice (some ma) c mc) xs fs) := (HT.out.still HBV.out).still bz1; clear kz1 bz1 sz1)
        | (refine app_g rfl _ _ 22 rfl w.heap.size 28 ii (.agg #[.int .i64 0, .int .i64 0, .int .i64 0, .int .i64 0, .int .i64 0, .slice none 0 0, .slice none 0 0]) 7 88 Try.underlying22 ihi ihz0 ihz1 ihz2 rfl (by omega) (.slice (some ma) c mc) c (flCells xs) rfl HTz.out.o (some ⟨V.heap.size, 0, none⟩) 1 1 x.cs rfl (fun h => by cases h) rfl (fun ad had j u hu => by cases had; rw [Addr.add_lit, Nat.zero_add, blk_cell KZ1.out]; simpa using hu) (by intro u hu; simp only [Fl.cs, List.mem_cons, List.not_mem_nil, or_false] at hu; rcases hu with rfl | rfl | rfl | rfl | rfl | rfl | rfl <;> rfl) (by unfold maxLen; omega) (by omega) HTz.out.b.size ?_; intro v2 Z2 ho2 hk2 hob2)
        | fail)
      have HT2 : Hid (Mf w Z2 (c + 1) v2 (xs ++ [x]) fs) := HTz.out.app (w1 := wr) (HT.out) (bstep HBV.out BZ1.out) (by rw [Hf.out]; exact HX.out.still BZ1.out) ho2.out hk2.out
      refine ⟨⟨c + 1, xs ++ [x], by omega, by go_num, ?_, HT2.out⟩, by simp [intOf]; omega⟩
      rcases HT2.out.o.2 with ⟨_, e⟩ | ⟨g, cap, cur, e, _⟩
      · omega
      · exact ⟨_, _, e⟩
    · obtain rfl : c = L := by omega
      go_wp2
      go_ret
      obtain ⟨g, rfl⟩ : ∃ g, ma = ⟨g, 0, none⟩ := by
        rcases HT.out.o.2 with ⟨e, _⟩ | ⟨g, cap, cur, e, _⟩
        · cases e
        · simp at e; exact ⟨g, e.1⟩
      exact ⟨g, mc, xs, rfl, HT.out⟩
end
end Go.Proofs.Ytihcaopcfhbofaa.Fm
