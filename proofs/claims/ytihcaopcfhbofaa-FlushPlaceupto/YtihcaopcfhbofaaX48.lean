import Derived.Test.YtihcaopcfhbofaaX43
import Derived.Test.YtihcaopcfhbofaaX44
import Derived.Test.YtihcaopcfhbofaaX45
import Derived.Test.YtihcaopcfhbofaaX46
import Derived.Test.YtihcaopcfhbofaaX47
import Derived.Test.YtihcaopcfhbofaaX35
import Derived.Test.YtihcaopcfhbofaaX32
import Derived.Test.YtihcaopcfhbofaaX31
import Derived.Laws.ResultCell
namespace Go.Proofs.Ytihcaopcfhbofaa.Fm
open Go.RowKit Go.Maps Mb
set_option linter.unusedVariables false
set_option maxRecDepth 100000
set_option linter.unusedSimpArgs false
section
variable {w w' W : World} {B : Nat}
theorem step_copyA {ops : Array Oper} {o : Oper} {a : Act} {K : Act → World → Prop} {Q : Exit → Act → World → Prop} {E : Prop} (hgd : o.guard = none) (s x : Operand) (t e : TypeId)
    (ho : o.op = .call { callee := .builtin .append, args := #[s, x], argTypes := #[t, t] })
    (i : TypeInfo) (z : Value) (size bytes : Nat) (ht : Try.prog.underlying t = some (.slice e)) (hi : Try.prog.info? e = some i) (hz : i.zero = some z)
    (hsize : i.size = size) (hby : i.bytes = bytes) (hzs : z.cells.size = size) (hsz : 0 < size) {g : Nat}
    (hs : a.eval s = .slice (some ⟨g, 0, none⟩) 0 0) (hg : w.heap[g]? = some (.cells #[] e (0, 0))) (ao : Option Addr) (m c : Nat) (news : List Value) (hx : a.eval x = .slice ao m c) (hnone : ao = none → m = 0 ∧ c = 0) (hl : news.length = m * size) (hnews : ∀ ad, ao = some ad → ∀ j u, news[j]? = some u → w.cell? (ad.add j) = some u) (h1 : ∀ u ∈ news, u.oneCell' = true)
    (h63 : m ≤ maxLen) (hbytes : m * bytes ≤ 140737488355328)
    (h : ∀ a1 c1 w2, w2.ownsRow g e size (.slice a1 m c1) m news → Kept w w2 (fun k => k = g) → K (a.put o.dst (.slice a1 m c1)) w2) : if Region.wanted o (yielded ops a.tmps) = true then Oper.wp Try.prog o a w K Q else E := by
  have hwt : Region.wanted o (yielded ops a.tmps) = true := by simp [Region.wanted, hgd]
  rw [if_pos hwt]
  have hown : w.ownsRow g e size (.slice (some ⟨g, 0, none⟩) 0 0) 0 [] := ⟨by simp, .inr ⟨g, 0, #[], rfl, Nat.le_refl _, hg, Nat.le_refl _, by unfold maxLen; omega, by simp, by simp⟩⟩
  cases ao with
  | some ad =>
    obtain ⟨v', w', hr, h2, h3, h4, h5⟩ := run_append_own_at (P := Try.prog) w g t o.type e i z size bytes ht hi hz hsize hby hzs hsz (.slice (some ⟨g, 0, none⟩) 0 0) 0 [] hown ad m c news hl (hnews ad rfl) h1 (by omega) (by simpa using hbytes) (Nat.le_of_lt (Array.getElem?_eq_some_iff.1 hg).1)
    rw [Nat.zero_add, List.nil_append] at h2
    obtain ⟨a1, c1, rfl⟩ : ∃ a1 c1, v' = .slice a1 m c1 := by
      rcases h2.2 with ⟨e1, e2⟩ | ⟨g', cap, cur, hv, _⟩
      · exact ⟨none, 0, by rw [e1, e2]⟩
      · exact ⟨_, _, hv⟩
    unfold Oper.wp execOp
    simp only [ho, resolve, invoke, builtin, Sem.run_bind, Sem.run_pure, Result.andThen_ok, List.map_toArray, List.map_cons, List.map_nil, hs, hx, hr]
    refine h a1 c1 w' h2 ((Kept.ofGrown h3).mono fun k _ hk => ?_)
    simp [Value.ownBlock] at hk
    exact hk
  | none =>
    obtain ⟨rfl, rfl⟩ := hnone rfl
    obtain rfl : news = [] := List.eq_nil_of_length_eq_zero (by rw [hl]; omega)
    have hr := run_append_owned_none (P := Try.prog) (w := w) g t o.type e i size ht hi _ 0 [] hown
    unfold Oper.wp execOp
    simp only [ho, resolve, invoke, builtin, Sem.run_bind, Sem.run_pure, Result.andThen_ok, List.map_toArray, List.map_cons, List.map_nil, hs, hx, hr]
    exact h _ 0 w hown (Kept.refl _ _)
theorem res_flush {fn : Func} {p : Tmp} (h : fn.results = #[.cell p 28]) (tmps : Array Value) (w : World) (g : Nat) (L : List Value) (hL : L.length = 7)
    (hp : tmps.getD p undef = .pointer (some ⟨g, 0, none⟩)) (hg : w.rangeAt g 0 L) :
    (results fn tmps).run Try.prog w = .ok (.agg L.toArray) w := by
  have e : (results fn tmps).run Try.prog w = ((asAddr (tmps.getD p undef)).run Try.prog w).andThen fun a w₁ => (loadVar 28 a).run Try.prog w₁ := by
    simp only [results, h]
    simp [Sem.run_bind, Result.andThen]
  rw [e, hp]
  simp [asAddr, run_loadVar_mid w g 0 28 L _ hg Try.underlying28 rfl (by rw [hL]; exact info_flush)]
structure Oc (f : Fl) (V : World) (kb rb : Nat) (X : World) : Prop where
  k : X.heap[kb]? = some (.cells f.cs.toArray 28 (0, 0))
  r : ∃ C : Array Value, C.size = 7 ∧ X.heap[rb]? = some (.cells C 28 (0, 0))
  b : Below V.heap.size V X
theorem Oc.still {f : Fl} {V : World} {kb rb : Nat} {X Y : World} (h : Oc f V kb rb X) (hb : Below X.heap.size X Y) : Oc f V kb rb Y := ⟨blk_on hb h.k, by obtain ⟨C, e, q⟩ := h.r; exact ⟨C, e, blk_on hb q⟩, bstep h.b hb⟩
theorem Oc.kept {f : Fl} {V : World} {kb rb g t : Nat} {X Y : World} (h : Oc f V kb rb X) (hg : V.heap.size ≤ g) (hk : X.heap[g]? = some (.cells #[] t (0, 0))) (hk2 : Kept X Y (fun k => k = g)) : Oc f V kb rb Y := by
  refine ⟨hk2.obj h.k (fun e => ?_), ?_, h.b.trans (hk2.below h.b.size (fun k hk e => by omega))⟩
  · rw [← e, h.k] at hk
    simp [Fl.cs] at hk
  · obtain ⟨C, e, q⟩ := h.r
    refine ⟨C, e, hk2.obj q (fun e2 => ?_)⟩
    rw [← e2, q] at hk
    simp at hk
    rw [hk.1] at e
    cases e
structure OnOk (w : World) (x f : Fl) : Prop where
  ce : x.c = f.c
  s : w.ownsRow 0 70 2 (.slice x.sa f.c.sl.length x.sc) f.c.sl.length (slCells f.c.sl)
  h : w.ownsRow 0 3 1 (.slice x.ha f.c.hv.length x.hc) f.c.hv.length (ints f.c.hv)
theorem OnOk.rd {x f : Fl} {W : World} (h : OnOk w x f) (hf : f.Rd W) : x.Rd w := by
  refine ⟨?_, ?_, ?_, ?_, ?_, ?_⟩
  · rw [h.ce]; exact own_rdS h.s rfl
  · rw [h.ce]; exact own_rdI h.h rfl
  · rw [h.ce]; exact hf.r
  · rw [h.ce]; exact hf.b
  · rw [h.ce]; exact hf.sn
  · rw [h.ce]; exact hf.hn
theorem OnOk.still {x f : Fl} (h : OnOk w x f) (hb : Below w.heap.size w w') : OnOk w' x f := ⟨h.ce, own_still h.s hb, own_still h.h hb⟩
theorem own_keptT {t k n t' k' n' : Nat} {v v' : Value} {l l' : List Value} {B B' : Nat} (h : w.ownsRow B t k v n l) (ho : w.ownsRow B' t' k' v' n' l') (hk : Kept w w' (fun j => v'.ownBlock = some j)) (hne : t ≠ t') : w'.ownsRow B t k v n l := by
  refine hk.owns h fun g hg2 e => ?_
  obtain ⟨_, c1, h1⟩ := row_cells h hg2
  obtain ⟨_, c2, h2⟩ := row_cells ho e
  rw [h1] at h2
  simp at h2
  exact hne h2.2
theorem OnOk.keep {x f : Fl} {k' n' : Nat} {v' : Value} {l' : List Value} {B' : Nat} (h : OnOk w x f) (ho : w.ownsRow B' 28 k' v' n' l') (hk : Kept w w' (fun j => v'.ownBlock = some j)) : OnOk w' x f := ⟨h.ce, own_keptT h.s ho hk (by decide), own_keptT h.h ho hk (by decide)⟩
set_option maxHeartbeats 8000000 in
theorem one_any {f : Fl} (hf : f.In w) : Calls Try.prog 13 #[.agg f.cs.toArray] w fun e w' => ∃ x : Fl, e = .returned (.agg x.cs.toArray) ∧ OnOk w' x f ∧ Below w.heap.size w w' := by
  generalize hW1 : w.alloc (.cells f.cs.toArray 28) = W1
  generalize hW2 : W1.alloc (.cells #[.int .i64 0, .int .i64 0, .int .i64 0, .int .i64 0, .int .i64 0, .slice none 0 0, .slice none 0 0] 28) = W2
  have b1 : Below w.heap.size w W1 := hW1 ▸ balloc (Below.refl _ _)
  have b2 : Below W1.heap.size W1 W2 := hW2 ▸ balloc (Below.refl _ _)
  have k1 : W1.heap[w.heap.size]? = some (.cells f.cs.toArray 28 (0, 0)) := by rw [← hW1]; exact heap_alloc_new w _
  have k2 : W2.heap[W1.heap.size]? = some (.cells #[.int .i64 0, .int .i64 0, .int .i64 0, .int .i64 0, .int .i64 0, .slice none 0 0, .slice none 0 0] 28 (0, 0)) := by rw [← hW2]; exact heap_alloc_new W1 _
  have HB : Hid (Below w.heap.size w W2) := bstep b1 b2
  have HBd : Hid (Below w.heap.size w W2.drew) := bstep (bstep b1 b2) (drew_bel W2)
  have HF : Hid (f.In W2.drew) := ((hf.still b1).still b2).still (drew_bel W2)
  have HO : Hid (Oc f W2.drew w.heap.size W1.heap.size W2.drew) := ⟨blk_on (bstep b2 (drew_bel W2)) k1, ⟨_, rfl, blk_on (drew_bel W2) k2⟩, Below.refl _ _⟩
  have Hne : Hid (w.heap.size ≠ W1.heap.size) := (show w.heap.size ≠ W1.heap.size from by have := (Array.getElem?_eq_some_iff.1 k1).1; omega)
  have Hge : Hid (w.heap.size ≤ W1.heap.size) := b1.size
  have Hlt : Hid (W1.heap.size < W2.drew.heap.size) := (Array.getElem?_eq_some_iff.1 k2).1
  obtain ⟨si, shi, shz0, shz1, shz2⟩ := slot_info
  obtain ⟨ii, ihi, ihz0, ihz1, ihz2⟩ := int_info
  have Hck : Hid (∀ V : World, V.heap[w.heap.size]? = some (.cells f.cs.toArray 28 (0, 0)) → V.cell? ⟨w.heap.size, 4, none⟩ = some (.int .i64 f.c.base) ∧ V.cell? ⟨w.heap.size, 5, none⟩ = some (.slice f.sa f.c.sl.length f.sc) ∧ V.cell? ⟨w.heap.size, 6, none⟩ = some (.slice f.ha f.c.hv.length f.hc) ∧ V.rangeAt w.heap.size 0 f.c.id.cs) := fun V hV => ⟨blk_cell hV 4, blk_cell hV 5, blk_cell hV 6, id_range hV⟩
  have hsn := hf.sn
  have hhn := hf.hn
  have HSz : Hid (f.sa = none → f.c.sl.length = 0 ∧ f.sc = 0) := hf.sz
  have HHz : Hid (f.ha = none → f.c.hv.length = 0 ∧ f.hc = 0) := hf.hz
  clear hf b1 b2 k1 k2
  generalize hsl : f.c.sl.length = sn at *
  generalize hhl : f.c.hv.length = hn at *
  have Hsn : Hid (f.c.sl.length = sn) := hsl
  have Hhn : Hid (f.c.hv.length = hn) := hhl
  clear hsl hhl
  generalize hpc : f.cs.toArray = pc at hW1 ⊢
  clear hpc
  go_enter Try.func13, Try.ntmps13
  go_wp2_with (fail)
  clear hW1 hW2
  generalize hkb : w.heap.size = kb at *
  generalize hrb : W1.heap.size = rb at *
  have Hkb : Hid (w.heap.size = kb) := hkb
  clear hkb hrb
  refine wp_region_held_drew (S := (fun w' => w'.heap[kb]? = some (.cells f.cs.toArray 28 (0, 0)))) (by kernel_rfl) (HO.out.k) (fun hHeld => ?_)
  simp only [Act.put, List.size_toArray, List.length_cons, List.length_nil, Nat.zero_add]
  refine wpAnyH_take (i := 0) (v := .pointer (some ⟨kb, 0, none⟩)) rfl (by kernel_rfl) (by kernel_rfl) (by kernel_rfl) (fun _ _ _ h => h) (Or.inl ⟨by rfl, fun w' hS => by go_simp⟩) hHeld ?_
  simp only [Act.put, gA9, gZ9, gC9, sA9, sZ9, sC9]
  refine wpAnyH_take (i := 1) (v := .agg ([.int .i64 f.c.id.e, .int .i64 f.c.id.l, .int .i64 f.c.id.i, .int .i64 f.c.id.c]).toArray) rfl (by kernel_rfl) (by kernel_rfl) (by kernel_rfl) (fun _ _ _ h => h) (yieldsIf_load_mid (by rfl) 24 (.tmp 3) rfl kb (0) (by rfl) ([.int .i64 f.c.id.e, .int .i64 f.c.id.l, .int .i64 f.c.id.i, .int .i64 f.c.id.c]) _ (fun w' hS => (Hck.out w' hS).2.2.2) Try.underlying24 rfl info_id) hHeld ?_
  simp only [Act.put, gA9, gZ9, gC9, sA9, sZ9, sC9]
  refine wpAnyH_take (i := 2) (v := .pointer (some ⟨kb, 4, none⟩)) rfl (by kernel_rfl) (by kernel_rfl) (by kernel_rfl) (fun _ _ _ h => h) (Or.inl ⟨by rfl, fun w' hS => by go_simp⟩) hHeld ?_
  simp only [Act.put, gA9, gZ9, gC9, sA9, sZ9, sC9]
  refine wpAnyH_take (i := 3) (v := .int .i64 f.c.base) rfl (by kernel_rfl) (by kernel_rfl) (by kernel_rfl) (fun _ _ _ h => h) (Or.inl ⟨by rfl, fun w' hS => by (obtain ⟨q4, q5, q6, qi⟩ := Hck.out w' hS; go_simp)⟩) hHeld ?_
  simp only [Act.put, gA9, gZ9, gC9, sA9, sZ9, sC9]
  refine wpAnyH_take (i := 5) (v := .pointer (some ⟨kb, 5, none⟩)) rfl (by kernel_rfl) (by kernel_rfl) (by kernel_rfl) (fun _ _ _ h => h) (Or.inl ⟨by rfl, fun w' hS => by go_simp⟩) hHeld ?_
  simp only [Act.put, gA9, gZ9, gC9, sA9, sZ9, sC9]
  refine wpAnyH_take (i := 6) (v := .slice f.sa sn f.sc) rfl (by kernel_rfl) (by kernel_rfl) (by kernel_rfl) (fun _ _ _ h => h) (Or.inl ⟨by rfl, fun w' hS => by (obtain ⟨q4, q5, q6, qi⟩ := Hck.out w' hS; go_simp)⟩) hHeld ?_
  simp only [Act.put, gA9, gZ9, gC9, sA9, sZ9, sC9]
  refine wpAnyH_take (i := 9) (v := .pointer (some ⟨kb, 6, none⟩)) rfl (by kernel_rfl) (by kernel_rfl) (by kernel_rfl) (fun _ _ _ h => h) (Or.inl ⟨by rfl, fun w' hS => by go_simp⟩) hHeld ?_
  simp only [Act.put, gA9, gZ9, gC9, sA9, sZ9, sC9]
  refine wpAnyH_take (i := 10) (v := .slice f.ha hn f.hc) rfl (by kernel_rfl) (by kernel_rfl) (by kernel_rfl) (fun _ _ _ h => h) (Or.inl ⟨by rfl, fun w' hS => by (obtain ⟨q4, q5, q6, qi⟩ := Hck.out w' hS; go_simp)⟩) hHeld ?_
  simp only [Act.put, gA9, gZ9, gC9, sA9, sZ9, sC9]
  generalize hVd : W2.drew = Vd at *
  clear hVd
  refine wpAnyH_ready (rs := [4, 8]) (by kernel_rfl) (by simp) ?_
  refine AllReadyH.cons rfl (fun K hK => ?_) (AllReadyH.cons rfl (fun K hK => ?_) AllReadyH.nil)
  · go_simp
    obtain ⟨b1, k1⟩ := bel_new (Z := #[]) (T := 70) Vd
    generalize Vd.alloc (.cells #[] 70) = V1 at b1 k1 ⊢
    have K1 : Hid (V1.heap[Vd.heap.size]? = some (.cells #[] 70 (0, 0))) := k1
    have B1 : Hid (Below Vd.heap.size Vd V1) := b1
    have O1 : Hid (Oc f Vd kb rb V1) := HO.out.still b1
    have G1 : Hid (Vd.heap.size ≤ Vd.heap.size) := HO.out.b.size
    clear k1 b1
    refine hK.out _ _ O1.out.k (fun hHeld => ?_)
    clear hK K
    try (simp only [Act.put, gA9, gZ9, gC9, sA9, sZ9, sC9])
    refine wpAnyH_ready (rs := [7, 8]) (by kernel_rfl) (by simp) ?_
    refine AllReadyH.cons rfl (fun K hK => ?_) (AllReadyH.cons rfl (fun K hK => ?_) AllReadyH.nil)
    · refine step_copyA rfl _ _ 25 70 rfl si (.agg #[.int .i64 0, .int .i64 0]) 2 16 Try.underlying25 shi shz0 shz1 shz2 rfl (by omega) rfl K1.out f.sa sn f.sc (slCells f.c.sl) rfl HSz.out (by rw [slCells_len, Hsn.out]) (rdS_news (HF.out.rd.s.still O1.out.b)) (slCells_one _) (by unfold maxLen; omega) (by omega) ?_
      intro a7 c7 V2 ho2 hk2
      have Wq2 : Hid _ := ho2
      have O2 : Hid (Oc f Vd kb rb V2) := O1.out.kept G1.out K1.out hk2
      clear ho2 hk2
      refine hK.out _ _ O2.out.k (fun hHeld => ?_)
      clear hK K
      try (simp only [Act.put, gA9, gZ9, gC9, sA9, sZ9, sC9])
      refine wpAnyH_ready (rs := [8]) (by kernel_rfl) (by simp) ?_
      refine AllReadyH.cons rfl (fun K hK => ?_) AllReadyH.nil
      go_simp
      obtain ⟨b3, k3⟩ := bel_new (Z := #[]) (T := 3) V2
      generalize V2.alloc (.cells #[] 3) = V3 at b3 k3 ⊢
      have K3 : Hid (V3.heap[V2.heap.size]? = some (.cells #[] 3 (0, 0))) := k3
      have B3 : Hid (Below V2.heap.size V2 V3) := b3
      have O3 : Hid (Oc f Vd kb rb V3) := O2.out.still b3
      have G3 : Hid (Vd.heap.size ≤ V2.heap.size) := O2.out.b.size
      clear k3 b3
      refine hK.out _ _ O3.out.k (fun hHeld => ?_)
      clear hK K
      try (simp only [Act.put, gA9, gZ9, gC9, sA9, sZ9, sC9])
      refine wpAnyH_ready (rs := [11]) (by kernel_rfl) (by simp) ?_
      refine AllReadyH.cons rfl (fun K hK => ?_) AllReadyH.nil
      refine step_copyA rfl _ _ 26 3 rfl ii (.int .i64 0) 1 8 Try.underlying26 ihi ihz0 ihz1 ihz2 rfl (by omega) rfl K3.out f.ha hn f.hc (ints f.c.hv) rfl HHz.out (by rw [ints_len, Hhn.out, Nat.mul_one]) (rdI_news (HF.out.rd.h.still O3.out.b)) (ints_one _) (by unfold maxLen; omega) (by omega) ?_
      intro a11 c11 V4 ho4 hk4
      have Wq4 : Hid _ := ho4
      have O4 : Hid (Oc f Vd kb rb V4) := O3.out.kept G3.out K3.out hk4
      have M4 : Hid (V4.ownsRow 0 70 2 (.slice a7 sn c7) sn (slCells f.c.sl)) := own_ne (own_lower (own_still Wq2.out B3.out) (Nat.zero_le _)) K3.out (by decide) hk4
      clear ho4 hk4
      refine hK.out _ _ O4.out.k (fun hHeld => ?_)
      clear hK K
      try (simp only [Act.put, gA9, gZ9, gC9, sA9, sZ9, sC9])
      refine wpAnyH_take (i := 12) (v := .agg #[.int .i64 f.c.id.e, .int .i64 f.c.id.l, .int .i64 f.c.id.i, .int .i64 f.c.id.c, .int .i64 f.c.base, .slice a7 sn c7, .slice a11 hn c11]) rfl (by kernel_rfl) (by kernel_rfl) (by kernel_rfl) (fun _ _ _ h => h) (Or.inl ⟨by rfl, fun w' hS => by go_simp⟩) hHeld ?_
      simp only [Act.put, gA9, gZ9, gC9, sA9, sZ9, sC9]
      obtain ⟨C, hC7, hC⟩ := O4.out.r
      refine wpAnyH_ready (rs := [13]) (by kernel_rfl) (by simp) ?_
      refine AllReadyH.cons rfl (fun K hK => ?_) AllReadyH.nil
      refine step_storeZ rfl 28 _ _ rfl (L := [.int .i64 f.c.id.e, .int .i64 f.c.id.l, .int .i64 f.c.id.i, .int .i64 f.c.id.c, .int .i64 f.c.base, .slice a7 sn c7, .slice a11 hn c11]) rfl rfl hC info_flush hC7 (by intro u hu; simp only [List.mem_cons, List.not_mem_nil, or_false] at hu; rcases hu with rfl | rfl | rfl | rfl | rfl | rfl | rfl <;> rfl) ?_
      intro VZ hz hkz
      refine hK.out _ _ (hkz.obj O4.out.k Hne.out) (fun hHeld => ?_)
      clear hK K
      have HZ : Hid (VZ.heap[rb]? = some (.cells [.int .i64 f.c.id.e, .int .i64 f.c.id.l, .int .i64 f.c.id.i, .int .i64 f.c.id.c, .int .i64 f.c.base, .slice a7 sn c7, .slice a11 hn c11].toArray 28 (0, 0))) := hz
      have HKZ : Hid (Kept V4 VZ (fun j => j = rb)) := hkz
      clear hz hkz
      refine wpAnyH_done (by kernel_rfl) ?_ _
      clear hHeld
      go_wp2
      (try simp only [Exit.inBlock, Exit.then]); refine bodyPost_ret (res_flush rfl _ _ rb [.int .i64 f.c.id.e, .int .i64 f.c.id.l, .int .i64 f.c.id.i, .int .i64 f.c.id.c, .int .i64 f.c.base, .slice a7 sn c7, .slice a11 hn c11] rfl rfl (blk_range HZ.out)) rfl ?_
      have h7 : VZ.ownsRow 0 70 2 (.slice a7 sn c7) sn (slCells f.c.sl) := own_ne M4.out hC (by decide) HKZ.out
      have h11 : VZ.ownsRow 0 3 1 (.slice a11 hn c11) hn (ints f.c.hv) := own_ne (own_lower Wq4.out (Nat.zero_le _)) hC (by decide) HKZ.out
      refine ⟨⟨f.c, a7, c7, a11, c11⟩, ?_, ⟨rfl, by rw [Hsn.out]; exact h7, by rw [Hhn.out]; exact h11⟩, ?_⟩
      · show _ = Ending.returned (Value.agg #[.int .i64 f.c.id.e, .int .i64 f.c.id.l, .int .i64 f.c.id.i, .int .i64 f.c.id.c, .int .i64 f.c.base, .slice a7 f.c.sl.length c7, .slice a11 f.c.hv.length c11])
        rw [Hsn.out, Hhn.out]
      · rw [Hkb.out]
        have hk := Hkb.out
        have s1 := HBd.out.size
        have s3 := Hlt.out
        have s4 := Hge.out
        have h1 : Below kb w V4 := HBd.out.trans (O4.out.b.mono (by omega))
        have s5 := O4.out.b.size
        exact h1.trans (HKZ.out.below (by omega) (fun k hk e => by omega))
    · go_simp
      obtain ⟨b5, k5⟩ := bel_new (Z := #[]) (T := 3) V1
      generalize V1.alloc (.cells #[] 3) = V5 at b5 k5 ⊢
      have K5 : Hid (V5.heap[V1.heap.size]? = some (.cells #[] 3 (0, 0))) := k5
      have B5 : Hid (Below V1.heap.size V1 V5) := b5
      have O5 : Hid (Oc f Vd kb rb V5) := O1.out.still b5
      have G5 : Hid (Vd.heap.size ≤ V1.heap.size) := O1.out.b.size
      clear k5 b5
      refine hK.out _ _ O5.out.k (fun hHeld => ?_)
      clear hK K
      try (simp only [Act.put, gA9, gZ9, gC9, sA9, sZ9, sC9])
      refine wpAnyH_ready (rs := [7]) (by kernel_rfl) (by simp) ?_
      refine AllReadyH.cons rfl (fun K hK => ?_) AllReadyH.nil
      refine step_copyA rfl _ _ 25 70 rfl si (.agg #[.int .i64 0, .int .i64 0]) 2 16 Try.underlying25 shi shz0 shz1 shz2 rfl (by omega) rfl (blk_on B5.out K1.out) f.sa sn f.sc (slCells f.c.sl) rfl HSz.out (by rw [slCells_len, Hsn.out]) (rdS_news (HF.out.rd.s.still O5.out.b)) (slCells_one _) (by unfold maxLen; omega) (by omega) ?_
      intro a7 c7 V6 ho6 hk6
      have Wq6 : Hid _ := ho6
      have O6 : Hid (Oc f Vd kb rb V6) := O5.out.kept G1.out (blk_on B5.out K1.out) hk6
      have M6 : Hid (V6.heap[V1.heap.size]? = some (.cells #[] 3 (0, 0))) := hk6.obj K5.out (blk_ne K5.out (blk_on B5.out K1.out) (by decide))
      clear ho6 hk6
      refine hK.out _ _ O6.out.k (fun hHeld => ?_)
      clear hK K
      try (simp only [Act.put, gA9, gZ9, gC9, sA9, sZ9, sC9])
      refine wpAnyH_ready (rs := [11]) (by kernel_rfl) (by simp) ?_
      refine AllReadyH.cons rfl (fun K hK => ?_) AllReadyH.nil
      refine step_copyA rfl _ _ 26 3 rfl ii (.int .i64 0) 1 8 Try.underlying26 ihi ihz0 ihz1 ihz2 rfl (by omega) rfl M6.out f.ha hn f.hc (ints f.c.hv) rfl HHz.out (by rw [ints_len, Hhn.out, Nat.mul_one]) (rdI_news (HF.out.rd.h.still O6.out.b)) (ints_one _) (by unfold maxLen; omega) (by omega) ?_
      intro a11 c11 V7 ho7 hk7
      have Wq7 : Hid _ := ho7
      have O7 : Hid (Oc f Vd kb rb V7) := O6.out.kept G5.out M6.out hk7
      have M7 : Hid (V7.ownsRow 0 70 2 (.slice a7 sn c7) sn (slCells f.c.sl)) := own_ne (own_lower Wq6.out (Nat.zero_le _)) M6.out (by decide) hk7
      clear ho7 hk7
      refine hK.out _ _ O7.out.k (fun hHeld => ?_)
      clear hK K
      try (simp only [Act.put, gA9, gZ9, gC9, sA9, sZ9, sC9])
      refine wpAnyH_take (i := 12) (v := .agg #[.int .i64 f.c.id.e, .int .i64 f.c.id.l, .int .i64 f.c.id.i, .int .i64 f.c.id.c, .int .i64 f.c.base, .slice a7 sn c7, .slice a11 hn c11]) rfl (by kernel_rfl) (by kernel_rfl) (by kernel_rfl) (fun _ _ _ h => h) (Or.inl ⟨by rfl, fun w' hS => by go_simp⟩) hHeld ?_
      simp only [Act.put, gA9, gZ9, gC9, sA9, sZ9, sC9]
      obtain ⟨C, hC7, hC⟩ := O7.out.r
      refine wpAnyH_ready (rs := [13]) (by kernel_rfl) (by simp) ?_
      refine AllReadyH.cons rfl (fun K hK => ?_) AllReadyH.nil
      refine step_storeZ rfl 28 _ _ rfl (L := [.int .i64 f.c.id.e, .int .i64 f.c.id.l, .int .i64 f.c.id.i, .int .i64 f.c.id.c, .int .i64 f.c.base, .slice a7 sn c7, .slice a11 hn c11]) rfl rfl hC info_flush hC7 (by intro u hu; simp only [List.mem_cons, List.not_mem_nil, or_false] at hu; rcases hu with rfl | rfl | rfl | rfl | rfl | rfl | rfl <;> rfl) ?_
      intro VZ hz hkz
      refine hK.out _ _ (hkz.obj O7.out.k Hne.out) (fun hHeld => ?_)
      clear hK K
      have HZ : Hid (VZ.heap[rb]? = some (.cells [.int .i64 f.c.id.e, .int .i64 f.c.id.l, .int .i64 f.c.id.i, .int .i64 f.c.id.c, .int .i64 f.c.base, .slice a7 sn c7, .slice a11 hn c11].toArray 28 (0, 0))) := hz
      have HKZ : Hid (Kept V7 VZ (fun j => j = rb)) := hkz
      clear hz hkz
      refine wpAnyH_done (by kernel_rfl) ?_ _
      clear hHeld
      go_wp2
      (try simp only [Exit.inBlock, Exit.then]); refine bodyPost_ret (res_flush rfl _ _ rb [.int .i64 f.c.id.e, .int .i64 f.c.id.l, .int .i64 f.c.id.i, .int .i64 f.c.id.c, .int .i64 f.c.base, .slice a7 sn c7, .slice a11 hn c11] rfl rfl (blk_range HZ.out)) rfl ?_
      have h7 : VZ.ownsRow 0 70 2 (.slice a7 sn c7) sn (slCells f.c.sl) := own_ne M7.out hC (by decide) HKZ.out
      have h11 : VZ.ownsRow 0 3 1 (.slice a11 hn c11) hn (ints f.c.hv) := own_ne (own_lower Wq7.out (Nat.zero_le _)) hC (by decide) HKZ.out
      refine ⟨⟨f.c, a7, c7, a11, c11⟩, ?_, ⟨rfl, by rw [Hsn.out]; exact h7, by rw [Hhn.out]; exact h11⟩, ?_⟩
      · show _ = Ending.returned (Value.agg #[.int .i64 f.c.id.e, .int .i64 f.c.id.l, .int .i64 f.c.id.i, .int .i64 f.c.id.c, .int .i64 f.c.base, .slice a7 f.c.sl.length c7, .slice a11 f.c.hv.length c11])
        rw [Hsn.out, Hhn.out]
      · rw [Hkb.out]
        have hk := Hkb.out
        have s1 := HBd.out.size
        have s3 := Hlt.out
        have s4 := Hge.out
        have h1 : Below kb w V7 := HBd.out.trans (O7.out.b.mono (by omega))
        have s5 := O7.out.b.size
        exact h1.trans (HKZ.out.below (by omega) (fun k hk e => by omega))
  · go_simp
    obtain ⟨b8, k8⟩ := bel_new (Z := #[]) (T := 3) Vd
    generalize Vd.alloc (.cells #[] 3) = V8 at b8 k8 ⊢
    have K8 : Hid (V8.heap[Vd.heap.size]? = some (.cells #[] 3 (0, 0))) := k8
    have B8 : Hid (Below Vd.heap.size Vd V8) := b8
    have O8 : Hid (Oc f Vd kb rb V8) := HO.out.still b8
    have G8 : Hid (Vd.heap.size ≤ Vd.heap.size) := HO.out.b.size
    clear k8 b8
    refine hK.out _ _ O8.out.k (fun hHeld => ?_)
    clear hK K
    try (simp only [Act.put, gA9, gZ9, gC9, sA9, sZ9, sC9])
    refine wpAnyH_ready (rs := [4]) (by kernel_rfl) (by simp) ?_
    refine AllReadyH.cons rfl (fun K hK => ?_) AllReadyH.nil
    go_simp
    obtain ⟨b9, k9⟩ := bel_new (Z := #[]) (T := 70) V8
    generalize V8.alloc (.cells #[] 70) = V9 at b9 k9 ⊢
    have K9 : Hid (V9.heap[V8.heap.size]? = some (.cells #[] 70 (0, 0))) := k9
    have B9 : Hid (Below V8.heap.size V8 V9) := b9
    have O9 : Hid (Oc f Vd kb rb V9) := O8.out.still b9
    have G9 : Hid (Vd.heap.size ≤ V8.heap.size) := O8.out.b.size
    clear k9 b9
    refine hK.out _ _ O9.out.k (fun hHeld => ?_)
    clear hK K
    try (simp only [Act.put, gA9, gZ9, gC9, sA9, sZ9, sC9])
    refine wpAnyH_ready (rs := [7]) (by kernel_rfl) (by simp) ?_
    refine AllReadyH.cons rfl (fun K hK => ?_) AllReadyH.nil
    refine step_copyA rfl _ _ 25 70 rfl si (.agg #[.int .i64 0, .int .i64 0]) 2 16 Try.underlying25 shi shz0 shz1 shz2 rfl (by omega) rfl K9.out f.sa sn f.sc (slCells f.c.sl) rfl HSz.out (by rw [slCells_len, Hsn.out]) (rdS_news (HF.out.rd.s.still O9.out.b)) (slCells_one _) (by unfold maxLen; omega) (by omega) ?_
    intro a7 c7 V10 ho10 hk10
    have Wq10 : Hid _ := ho10
    have O10 : Hid (Oc f Vd kb rb V10) := O9.out.kept G9.out K9.out hk10
    have M10 : Hid (V10.heap[Vd.heap.size]? = some (.cells #[] 3 (0, 0))) := hk10.obj (blk_on B9.out K8.out) (blk_ne (blk_on B9.out K8.out) K9.out (by decide))
    clear ho10 hk10
    refine hK.out _ _ O10.out.k (fun hHeld => ?_)
    clear hK K
    try (simp only [Act.put, gA9, gZ9, gC9, sA9, sZ9, sC9])
    refine wpAnyH_ready (rs := [11]) (by kernel_rfl) (by simp) ?_
    refine AllReadyH.cons rfl (fun K hK => ?_) AllReadyH.nil
    refine step_copyA rfl _ _ 26 3 rfl ii (.int .i64 0) 1 8 Try.underlying26 ihi ihz0 ihz1 ihz2 rfl (by omega) rfl M10.out f.ha hn f.hc (ints f.c.hv) rfl HHz.out (by rw [ints_len, Hhn.out, Nat.mul_one]) (rdI_news (HF.out.rd.h.still O10.out.b)) (ints_one _) (by unfold maxLen; omega) (by omega) ?_
    intro a11 c11 V11 ho11 hk11
    have Wq11 : Hid _ := ho11
    have O11 : Hid (Oc f Vd kb rb V11) := O10.out.kept G8.out M10.out hk11
    have M11 : Hid (V11.ownsRow 0 70 2 (.slice a7 sn c7) sn (slCells f.c.sl)) := own_ne (own_lower Wq10.out (Nat.zero_le _)) M10.out (by decide) hk11
    clear ho11 hk11
    refine hK.out _ _ O11.out.k (fun hHeld => ?_)
    clear hK K
    try (simp only [Act.put, gA9, gZ9, gC9, sA9, sZ9, sC9])
    refine wpAnyH_take (i := 12) (v := .agg #[.int .i64 f.c.id.e, .int .i64 f.c.id.l, .int .i64 f.c.id.i, .int .i64 f.c.id.c, .int .i64 f.c.base, .slice a7 sn c7, .slice a11 hn c11]) rfl (by kernel_rfl) (by kernel_rfl) (by kernel_rfl) (fun _ _ _ h => h) (Or.inl ⟨by rfl, fun w' hS => by go_simp⟩) hHeld ?_
    simp only [Act.put, gA9, gZ9, gC9, sA9, sZ9, sC9]
    obtain ⟨C, hC7, hC⟩ := O11.out.r
    refine wpAnyH_ready (rs := [13]) (by kernel_rfl) (by simp) ?_
    refine AllReadyH.cons rfl (fun K hK => ?_) AllReadyH.nil
    refine step_storeZ rfl 28 _ _ rfl (L := [.int .i64 f.c.id.e, .int .i64 f.c.id.l, .int .i64 f.c.id.i, .int .i64 f.c.id.c, .int .i64 f.c.base, .slice a7 sn c7, .slice a11 hn c11]) rfl rfl hC info_flush hC7 (by intro u hu; simp only [List.mem_cons, List.not_mem_nil, or_false] at hu; rcases hu with rfl | rfl | rfl | rfl | rfl | rfl | rfl <;> rfl) ?_
    intro VZ hz hkz
    refine hK.out _ _ (hkz.obj O11.out.k Hne.out) (fun hHeld => ?_)
    clear hK K
    have HZ : Hid (VZ.heap[rb]? = some (.cells [.int .i64 f.c.id.e, .int .i64 f.c.id.l, .int .i64 f.c.id.i, .int .i64 f.c.id.c, .int .i64 f.c.base, .slice a7 sn c7, .slice a11 hn c11].toArray 28 (0, 0))) := hz
    have HKZ : Hid (Kept V11 VZ (fun j => j = rb)) := hkz
    clear hz hkz
    refine wpAnyH_done (by kernel_rfl) ?_ _
    clear hHeld
    go_wp2
    (try simp only [Exit.inBlock, Exit.then]); refine bodyPost_ret (res_flush rfl _ _ rb [.int .i64 f.c.id.e, .int .i64 f.c.id.l, .int .i64 f.c.id.i, .int .i64 f.c.id.c, .int .i64 f.c.base, .slice a7 sn c7, .slice a11 hn c11] rfl rfl (blk_range HZ.out)) rfl ?_
    have h7 : VZ.ownsRow 0 70 2 (.slice a7 sn c7) sn (slCells f.c.sl) := own_ne M11.out hC (by decide) HKZ.out
    have h11 : VZ.ownsRow 0 3 1 (.slice a11 hn c11) hn (ints f.c.hv) := own_ne (own_lower Wq11.out (Nat.zero_le _)) hC (by decide) HKZ.out
    refine ⟨⟨f.c, a7, c7, a11, c11⟩, ?_, ⟨rfl, by rw [Hsn.out]; exact h7, by rw [Hhn.out]; exact h11⟩, ?_⟩
    · show _ = Ending.returned (Value.agg #[.int .i64 f.c.id.e, .int .i64 f.c.id.l, .int .i64 f.c.id.i, .int .i64 f.c.id.c, .int .i64 f.c.base, .slice a7 f.c.sl.length c7, .slice a11 f.c.hv.length c11])
      rw [Hsn.out, Hhn.out]
    · rw [Hkb.out]
      have hk := Hkb.out
      have s1 := HBd.out.size
      have s3 := Hlt.out
      have s4 := Hge.out
      have h1 : Below kb w V11 := HBd.out.trans (O11.out.b.mono (by omega))
      have s5 := O11.out.b.size
      exact h1.trans (HKZ.out.below (by omega) (fun k hk e => by omega))
structure My (w0 w : World) (c : Nat) (mv : Value) (xs fs : List Fl) : Prop where
  len : xs.length = c
  o : w.ownsRow w0.heap.size 28 7 mv c (flCells xs)
  ok : ∀ k, k < c → OnOk w (xs.getD k fl0) (fs.getD k fl0)
  b : Below w0.heap.size w0 w
theorem My.still {w0 : World} {c : Nat} {mv : Value} {xs fs : List Fl} (h : My w0 w c mv xs fs) (hb : Below w.heap.size w w') : My w0 w' c mv xs fs := ⟨h.len, own_still h.o hb, fun k hk => (h.ok k hk).still hb, bstep h.b hb⟩
theorem My.app {w0 : World} {c : Nat} {mv v' : Value} {xs fs : List Fl} {x : Fl} (h : My w0 w c mv xs fs) (hx : OnOk w x (fs.getD c fl0)) (ho : w'.ownsRow w0.heap.size 28 7 v' (c + 1) (flCells xs ++ x.cs)) (hk : Kept w w' (fun j => mv.ownBlock = some j)) : My w0 w' (c + 1) v' (xs ++ [x]) fs := by
  refine ⟨by simp [h.len], by rw [flCells_app]; exact ho, fun k hk2 => ?_, ?_⟩
  · by_cases e : k = c
    · subst e
      have : (xs ++ [x]).getD k fl0 = x := by simp [List.getD, ← h.len]
      rw [this]
      exact hx.keep h.o hk
    · have : (xs ++ [x]).getD k fl0 = xs.getD k fl0 := by
        have h2 := h.len
        simp [List.getD, List.getElem?_append, show k < xs.length by omega]
      rw [this]
      exact (h.ok k (by omega)).keep h.o hk
  · refine h.b.trans (hk.below h.b.size (fun k hk2 e => ?_))
    have := (row_cells h.o e).1
    omega
set_option maxHeartbeats 4000000 in
theorem many_any {ao : Option Addr} {cp : Nat} {fs : List Fl} (hr : RdFs w ao fs) (hi : ∀ k, k < fs.length → (fs.getD k fl0).In w) (hn : fs.length ≤ 1048576) : Calls Try.prog 4 #[.slice ao fs.length cp] w fun e w' => ∃ a c xs, e = .returned (.slice a (xs : List Fl).length c) ∧ cos xs = cos fs ∧ RdFs w' a xs ∧ xs.length ≤ c ∧ c ≤ 9223372036854775807 ∧ Below w.heap.size w w' := by
  have HR : Hid (RdFs w ao fs) := hr
  have HI : Hid (∀ k, k < fs.length → (fs.getD k fl0).In w) := hi
  generalize hL : fs.length = L at *
  have HLe : Hid (fs.length = L) := hL
  obtain ⟨ii, ihi, ihz0, ihz1, ihz2⟩ := flush_info
  clear hr hi hL
  generalize hW0 : w.alloc (.cells #[] 28) = W0
  have HT0 : Hid (My w W0 0 (.slice (some ⟨w.heap.size, 0, none⟩) 0 0) [] fs) := ⟨rfl, hW0 ▸ World.ownsRow_made w #[] 0 (by omega) (Nat.zero_le _) (by simp), fun k hk => by omega, hW0 ▸ balloc (Below.refl _ _)⟩
  go_enter Try.func4, Try.ntmps4
  go_wp2
  clear hW0
  go_loopw [3, 4] (fun mv i wr => ∃ c : Nat, ∃ xs, c ≤ L ∧ i = .int .i64 c ∧ (∃ ma mc, mv = .slice (some ma) c mc) ∧ My w wr c mv xs fs) (fun _ i _ => L - (intOf i).toNat)
  case atStart => exact ⟨0, [], Nat.zero_le _, rfl, ⟨_, _, rfl⟩, HT0.out⟩
  case round =>
    obtain ⟨c, xs, hc, rfl, ⟨ma, mc, rfl⟩, ht⟩ := hrel
    have HT : Hid (My w wr c (.slice (some ma) c mc) xs fs) := ht
    clear ht HT0
    have i1 : (0 : Int) ≤ (c : Int) := Int.natCast_nonneg _
    by_cases hlt : c < L
    · obtain ⟨b, off, rfl, hcc⟩ := (HR.out.still HT.out.b).at (i := c) (by rw [HLe.out]; exact hlt)
      have HC : Hid (wr.rangeAt b (off + c * 7) (fs.getD c fl0).cs) := hcc
      have HM := one_any ((HI.out c hlt).still HT.out.b)
      clear hcc
      have i2 : (c : Int) < (L : Int) := by omega
      generalize hf : fs.getD c fl0 = f at HC HM
      have Hf : Hid (fs.getD c fl0 = f) := hf
      clear hf
      have Hl7 : Hid (f.cs.length = 7) := rfl
      go_wp2_with (first
        | (refine load_mid 28 (.tmp 15) HC.out _ Try.underlying28 rfl (by rw [Hl7.out]; exact info_flush) rfl rfl rfl ?_)
        | (go_at_call 13; refine HM.mono ?_; rintro e V ⟨x, rfl, hx, hbv⟩; have HX : Hid (OnOk V x f) := hx; have HBV : Hid (Below wr.heap.size wr V) := hbv; clear hx hbv)
        | (refine wl_bsl rfl 22 28 1 _ rfl Try.underlying22 x.cs.toArray (bsl_eq (by kernel_rfl) (bFl x)) ?_; intro Z1 kz1 bz1 sz1; have KZ1 : Hid _ := kz1; have BZ1 : Hid (Below V.heap.size V Z1) := bz1; have HTz : Hid (My w Z1 c (.slice (some ma) c mc) xs fs) := (HT.out.still HBV.out).still bz1; clear kz1 bz1 sz1)
        | (refine app_g rfl _ _ 22 rfl w.heap.size 28 ii (.agg #[.int .i64 0, .int .i64 0, .int .i64 0, .int .i64 0, .int .i64 0, .slice none 0 0, .slice none 0 0]) 7 88 Try.underlying22 ihi ihz0 ihz1 ihz2 rfl (by omega) (.slice (some ma) c mc) c (flCells xs) rfl HTz.out.o (some ⟨V.heap.size, 0, none⟩) 1 1 x.cs rfl (fun h => by cases h) rfl (fun ad had j u hu => by cases had; rw [Addr.add_lit, Nat.zero_add, blk_cell KZ1.out]; simpa using hu) (by intro u hu; simp only [Fl.cs, List.mem_cons, List.not_mem_nil, or_false] at hu; rcases hu with rfl | rfl | rfl | rfl | rfl | rfl | rfl <;> rfl) (by unfold maxLen; omega) (by omega) HTz.out.b.size ?_; intro v2 Z2 ho2 hk2 hob2)
        | fail)
      have HT2 : Hid (My w Z2 (c + 1) v2 (xs ++ [x]) fs) := HTz.out.app (by rw [Hf.out]; exact HX.out.still BZ1.out) ho2.out hk2.out
      refine ⟨⟨c + 1, xs ++ [x], by omega, by go_num, ?_, HT2.out⟩, by simp [intOf]; omega⟩
      rcases HT2.out.o.2 with ⟨_, e⟩ | ⟨g, cap, cur, e, _⟩
      · omega
      · exact ⟨_, _, e⟩
    · obtain rfl : c = L := by omega
      go_wp2
      go_ret
      refine ⟨some ma, mc, xs, by rw [HT.out.len]; rfl, ?_, ⟨?_, fun i hi => ?_⟩, ?_, ?_, HT.out.b⟩
      · refine List.ext_getElem? (fun i => ?_)
        unfold cos
        rw [List.getElem?_map, List.getElem?_map]
        by_cases hi : i < c
        · have h1 := (HT.out.ok i hi).ce
          have l1 := HT.out.len
          have l2 := HLe.out
          simp only [List.getD, List.getElem?_eq_getElem (show i < xs.length by omega), List.getElem?_eq_getElem (show i < fs.length by omega), Option.getD_some, Option.map_some] at h1 ⊢
          rw [h1]
        · rw [List.getElem?_eq_none (by have := HT.out.len; omega), List.getElem?_eq_none (by have := HLe.out; omega)]
      · have := own_row HT.out.o (fun i hi => flCells_at _ i (by rw [HT.out.len]; exact hi))
        rw [HT.out.len]
        exact this
      · have hi' : i < c := by rw [← HT.out.len]; exact hi
        exact (HT.out.ok i hi').rd (HI.out i hi').rd
      · rcases HT.out.o.2 with ⟨e, _⟩ | ⟨g, cap, cur, e, _, _, h1, _⟩
        · cases e
        · simp at e
          have := HT.out.len
          omega
      · rcases HT.out.o.2 with ⟨e, _⟩ | ⟨g, cap, cur, e, _, _, _, h1, _⟩
        · cases e
        · simp at e
          unfold maxLen at h1
          omega
end
end Go.Proofs.Ytihcaopcfhbofaa.Fm
namespace Go.Proofs.Ytihcaopcfhbofaa.Fm
open Go.RowKit Go.Maps Mb
set_option linter.unusedVariables false
set_option maxRecDepth 100000
set_option linter.unusedSimpArgs false
section
variable {w w' W : World} {B : Nat}
theorem al_map {a b : List Dx} (h : Al a b) : a.map (fun x => (x.s, x.bs)) = b.map (fun x => (x.s, x.bs)) := by
  apply List.ext_getElem?
  intro j
  by_cases hj : j < b.length
  · have hja : j < a.length := by rw [h.len]; exact hj
    have := h.el j hj
    simp [List.getD, hj, hja] at this
    simp [hj, hja, this.1, this.2.2]
  · rw [List.getElem?_eq_none (by simp; rw [h.len]; omega), List.getElem?_eq_none (by simp; omega)]
theorem fnd_map (ds : List Dx) (s : Int × Int) : fndB ds s = ((ds.map (fun x => (x.s, x.bs))).find? (fun p => decide (p.1 = s))).map (·.2) := by
  unfold fndB
  rw [List.find?_map]
  simp [Function.comp_def]
theorem Al.fnd {a b : List Dx} (h : Al a b) (s : Int × Int) : fndB a s = fndB b s := by rw [fnd_map, fnd_map, al_map h]
theorem RsS.al {cs : List Co} {dm ds : List Dx} {d E : Int} {l : List Dx} (h : RsS cs dm d E l) (k : Al dm ds) : RsS cs ds d E l := by
  rcases h with h | h | h | ⟨a1, a2, a3, n, ss, h1, h2, ⟨⟨j, hj, hm⟩, h4, h5⟩ | ⟨h3, h4⟩⟩
  · exact .inl h
  · exact .inr (.inl h)
  · exact .inr (.inr (.inl h))
  · exact .inr (.inr (.inr ⟨a1, a2, a3, n, ss, h1, h2, .inl ⟨⟨j, hj, by rw [← k.fnd]; exact hm⟩, h4, h5⟩⟩))
  · exact .inr (.inr (.inr ⟨a1, a2, a3, n, ss, h1, h2, .inr ⟨⟨h3.len, fun j hj => ⟨(h3.el j hj).1, (h3.el j hj).2.1, by rw [← k.fnd]; exact (h3.el j hj).2.2⟩⟩, h4⟩⟩))
theorem RsS.r64 {cs : List Co} {ds : List Dx} {d E : Int} {l : List Dx} (h : RsS cs ds d E l) : ∀ i, i < l.length → i64B (l.getD i dx0).s.1 ∧ i64B (l.getD i dx0).s.2 := by
  have hlen := h.len
  rcases h with ⟨_, _, rfl⟩ | ⟨_, _, _, rfl⟩ | ⟨_, _, _, _, rfl⟩ | ⟨a1, a2, _, n, ss, h1, h2, ⟨_, _, rfl⟩ | ⟨h3, _⟩⟩
  · intro i hi; simp at hi
  · intro i hi; simp at hi
  · intro i hi; simp at hi
  · intro i hi; simp at hi
  · intro i hi
    have hT := tog_of a2
    unfold lkB at a1
    simp only [Bool.and_eq_true, inR, decide_eq_true_eq] at a1
    have hd := h3.el i (by rw [← h3.len]; exact hi)
    rw [hd.1]
    have hi2 : i < (ss.drop (d - baseOf cs).toNat).length := by rw [← h3.len]; exact hi
    rw [List.length_drop, h2.1] at hi2
    have e1 : (ss.drop (d - baseOf cs).toNat).getD i z2 = ss.getD ((d - baseOf cs).toNat + i) z2 := by simp [List.getD]
    rw [e1]
    have h5 := h2.2 ((d - baseOf cs).toNat + i) (by omega)
    have h6 := tog_pair hT ((atP_iff hT.con _ _).1 h5)
    have h7 := (hT.snd 0 (by omega)).h16
    unfold i64B
    dsimp only at h6 ⊢
    omega
theorem own_putF {g n c i : Nat} {l : List Fl} (h : w.ownsRow B 28 7 (.slice (some ⟨g, 0, none⟩) n c) n (flCells l)) (hl : l.length = n) (hi : i < n) (s : Fl) : w.there g (i * 7) 7 ∧ B ≤ g ∧ (w.setCells g (i * 7) s.cs).ownsRow B 28 7 (.slice (some ⟨g, 0, none⟩) n c) n (flCells (l.set i s)) := by
  rcases h.2 with ⟨h1, h2⟩ | ⟨g', cap, cur, hv, hB, hg, hnc, hcm, hcs, htk⟩
  · cases h1
  · simp only [Value.slice.injEq, Option.some.injEq, Addr.mk.injEq] at hv
    obtain ⟨⟨rfl, -, -⟩, -, rfl⟩ := hv
    have hsz : i * 7 + 7 ≤ cur.size := by omega
    refine ⟨fun j hj => ⟨by rw [blk_cell hg]; simp; omega, frozen_of_row w _ _ _ _ hg⟩, hB, ⟨by rw [flCells_len, List.length_set, hl], .inr ⟨g, c, _, rfl, hB, sets_list s.cs (i * 7) w cur.toList (by simpa using hg) (by rw [Fl.cs_len]; simpa using hsz), hnc, hcm, ?_, ?_⟩⟩⟩
    · simp only [List.size_toArray, List.length_append, List.length_take, List.length_drop, Array.length_toList]
      have : s.cs.length = 7 := rfl
      omega
    · apply List.ext_getElem?
      intro j
      by_cases hj : j < n * 7
      · rw [List.getElem?_take_of_lt hj, flCells_at _ _ (by rw [List.length_set, hl]; exact hj)]
        simp only []
        have hold : cur.toList[j]? = some (flC l j) := by
          have e1 : (cur.toList.take (n * 7))[j]? = (flCells l)[j]? := by rw [htk]
          rw [List.getElem?_take_of_lt hj] at e1
          rw [e1, flCells_at _ _ (by omega)]
        have hlv : s.cs.length = 7 := rfl
        by_cases hji : j / 7 = i
        · have hC : flC (l.set i s) j = s.cs.getD (j % 7) undef := by
            unfold flC
            rw [hji]
            simp [List.getD, show i < l.length by omega]
          rw [hC, List.append_assoc, List.getElem?_append_right (by simp; omega), List.getElem?_append_left (by simp; omega)]
          have e2 : j - (cur.toList.take (i * 7)).length = j % 7 := by simp; omega
          rw [e2, List.getD, List.getElem?_eq_getElem (by rw [hlv]; omega)]
          rfl
        · have hC : flC (l.set i s) j = flC l j := by
            unfold flC
            simp [List.getD, List.getElem?_set, show ¬ i = j / 7 from fun h => hji h.symm]
          rw [hC, ← hold]
          by_cases hlt : j < i * 7
          · rw [List.append_assoc, List.getElem?_append_left (by simp; omega), List.getElem?_take_of_lt hlt]
          · rw [List.getElem?_append_right (by simp; omega), List.getElem?_drop]
            congr 1
            simp
            omega
      · rw [List.getElem?_take_eq_none (by omega), List.getElem?_eq_none (by rw [flCells_len, List.length_set]; omega)]
theorem own_rangeF {B g n c i : Nat} {ys : List Fl} (h : w.ownsRow B 28 7 (.slice (some ⟨g, 0, none⟩) n c) n (flCells ys)) (hl : ys.length = n) (hi : i < n) : w.rangeAt g (i * 7) (ys.getD i fl0).cs := fun j v hv => by
  have hj : j < 7 := by have := (List.getElem?_eq_some_iff.1 hv).1; rwa [Fl.cs_len] at this
  rcases own_row h (fun k hk => flCells_at ys k (by rw [hl]; exact hk)) with h1 | ⟨b, off, h1, h2⟩
  · omega
  · simp only [Option.some.injEq, Addr.mk.injEq, and_true] at h1
    obtain ⟨rfl, rfl⟩ := h1
    have e := h2 (i * 7 + j) (by omega)
    simp only [flC, show (i * 7 + j) / 7 = i by omega, show (i * 7 + j) % 7 = j by omega] at e
    rw [Nat.zero_add] at e
    rw [e, List.getD, hv]
    rfl
theorem own_nil2 {B t k n c : Nat} {a : Option Addr} {l : List Value} (h : w.ownsRow B t k (.slice a n c) n l) : a = none → n = 0 ∧ c = 0 := fun e => by
  subst e
  rcases h.2 with ⟨h1, h2⟩ | ⟨g, cap, cur, hv, _⟩
  · simp at h1
    exact ⟨h2, h1.2⟩
  · simp at hv
theorem flOne (f : Fl) : ∀ u ∈ f.cs, u.oneCell' = true := by
  intro u hu
  simp only [Fl.cs, List.mem_cons, List.not_mem_nil, or_false] at hu
  rcases hu with rfl | rfl | rfl | rfl | rfl | rfl | rfl <;> rfl
end
end Go.Proofs.Ytihcaopcfhbofaa.Fm
namespace Go.Proofs.Ytihcaopcfhbofaa.Fm
open Go.RowKit Go.Maps Mb
set_option linter.unusedVariables false
set_option maxRecDepth 100000
set_option linter.unusedSimpArgs false
section
variable {w w' W : World} {B : Nat}
def updF {α : Type} (f : Nat → α) (i : Nat) (x : α) : Nat → α := fun j => if j = i then x else f j
theorem own_blk (a : Option Addr) (n m c d : Nat) : (Value.slice a n c).ownBlock = (Value.slice a m d).ownBlock := by
  cases a with
  | none => rfl
  | some ad => rfl
theorem own_zero {T k n c : Nat} {a : Option Addr} {l : List Value} (h : w.ownsRow B T k (.slice a n c) n l) : w.ownsRow B T k (.slice a 0 c) 0 [] := by
  refine ⟨by simp, ?_⟩
  rcases h.2 with ⟨e, h0⟩ | ⟨g, cap, cur, e, h1, h2, h3, h4, h5, h6⟩
  · simp only [Value.slice.injEq] at e
    obtain ⟨rfl, -, rfl⟩ := e
    exact .inl ⟨rfl, rfl⟩
  · simp only [Value.slice.injEq] at e
    obtain ⟨rfl, -, rfl⟩ := e
    exact .inr ⟨g, c, cur, rfl, h1, h2, Nat.zero_le _, h4, h5, by simp⟩
structure Fam (B T k : Nat) (w : World) (N : Nat) (v : Nat → Value) (m : Nat → Nat) (l : Nat → List Value) : Prop where
  o : ∀ i, i < N → w.ownsRow B T k (v i) (m i) (l i)
  d : ∀ i j, i < N → j < N → i ≠ j → ∀ g, (v i).ownBlock = some g → (v j).ownBlock ≠ some g
section
variable {T k N : Nat} {v : Nat → Value} {m : Nat → Nat} {l : Nat → List Value}
theorem Fam.still (h : Fam B T k w N v m l) (hb : Below w.heap.size w w') : Fam B T k w' N v m l := ⟨fun i hi => own_still (h.o i hi) hb, h.d⟩
theorem Fam.lower {B' : Nat} (h : Fam B T k w N v m l) (hB : B' ≤ B) : Fam B' T k w N v m l := ⟨fun i hi => own_lower (h.o i hi) hB, h.d⟩
theorem Fam.keptT {T' k' n' B' : Nat} {v' : Value} {l' : List Value} (h : Fam B T k w N v m l) (ho : w.ownsRow B' T' k' v' n' l') (hk : Kept w w' (fun j => v'.ownBlock = some j)) (hne : T ≠ T') : Fam B T k w' N v m l := ⟨fun i hi => own_keptT (h.o i hi) ho hk hne, h.d⟩
theorem Fam.congr {v2 : Nat → Value} {m2 : Nat → Nat} {l2 : Nat → List Value} (h : Fam B T k w N v m l) (e : ∀ i, i < N → v2 i = v i ∧ m2 i = m i ∧ l2 i = l i) : Fam B T k w N v2 m2 l2 := ⟨fun i hi => by rw [(e i hi).1, (e i hi).2.1, (e i hi).2.2]; exact h.o i hi, fun i j hi hj hne g hg => by rw [(e i hi).1] at hg; rw [(e j hj).1]; exact h.d i j hi hj hne g hg⟩
theorem Fam.lt (h : Fam B T k w N v m l) {i : Nat} (hi : i < N) {g : Nat} (hg : (v i).ownBlock = some g) : g < w.heap.size := by
  obtain ⟨_, cur, hc⟩ := row_cells (h.o i hi) hg
  exact (Array.getElem?_eq_some_iff.1 hc).1
theorem Fam.put (h : Fam B T k w N v m l) {i m' : Nat} {v' : Value} {l' : List Value} (hi : i < N) (ho : w'.ownsRow B T k v' m' l') (hk : Kept w w' (fun j => (v i).ownBlock = some j)) (hob : v'.ownBlock = (v i).ownBlock ∨ v'.ownBlock = some w.heap.size) : Fam B T k w' N (updF v i v') (updF m i m') (updF l i l') := by
  refine ⟨fun j hj => ?_, fun a b ha hb hne g hg => ?_⟩
  · unfold updF
    by_cases e : j = i
    · rw [if_pos e, if_pos e, if_pos e]; exact ho
    · rw [if_neg e, if_neg e, if_neg e]
      exact hk.owns (h.o j hj) (fun g hg e2 => h.d i j hi hj (fun x => e x.symm) g e2 hg)
  · unfold updF at hg ⊢
    by_cases e1 : a = i
    · subst e1
      rw [if_pos rfl] at hg
      rw [if_neg (fun x => hne x.symm)]
      rcases hob with h1 | h1
      · rw [h1] at hg
        exact h.d a b ha hb hne g hg
      · rw [h1] at hg
        simp only [Option.some.injEq] at hg
        intro h2
        have := h.lt hb h2
        omega
    · rw [if_neg e1] at hg
      by_cases e2 : b = i
      · subst e2
        rw [if_pos rfl]
        rcases hob with h1 | h1
        · rw [h1]
          exact h.d a b ha hb hne g hg
        · rw [h1]
          intro h2
          simp only [Option.some.injEq] at h2
          have := h.lt ha hg
          omega
      · rw [if_neg e2]
        exact h.d a b ha hb hne g hg
theorem Fam.snoc (h : Fam B T k w N v m l) {m' : Nat} {v' : Value} {l' : List Value} {B2 : Nat} (hB2 : w.heap.size ≤ B2) (hB : B ≤ B2) (hk : Fam B T k w' N v m l) (ho : w'.ownsRow B2 T k v' m' l') : Fam B T k w' (N + 1) (updF v N v') (updF m N m') (updF l N l') := by
  refine ⟨fun j hj => ?_, fun a b ha hb hne g hg => ?_⟩
  · unfold updF
    by_cases e : j = N
    · rw [if_pos e, if_pos e, if_pos e]; exact own_lower ho hB
    · rw [if_neg e, if_neg e, if_neg e]; exact hk.o j (by omega)
  · unfold updF at hg ⊢
    by_cases e1 : a = N
    · subst e1
      rw [if_pos rfl] at hg
      rw [if_neg (fun x => hne x.symm)]
      have h1 := (row_cells ho hg).1
      intro h2
      have := h.lt (show b < a by omega) h2
      omega
    · rw [if_neg e1] at hg
      by_cases e2 : b = N
      · subst e2
        rw [if_pos rfl]
        intro h2
        have h1 := (row_cells ho h2).1
        have := h.lt (show a < b by omega) hg
        omega
      · rw [if_neg e2]
        exact h.d a b (by omega) (by omega) hne g hg
end
def slv (x : Fl) : Value := .slice x.sa x.c.sl.length x.sc
def itv (x : Fl) : Value := .slice x.ha x.c.hv.length x.hc
structure Bd64 (x : Fl) : Prop where
  r : ∀ i, i < x.c.sl.length → i64B (x.c.sl.getD i z2).1 ∧ i64B (x.c.sl.getD i z2).2
  b : i64B x.c.base
  sn : x.c.sl.length ≤ 1048576
  hn : x.c.hv.length ≤ 1048576
structure Rm (B : Nat) (w : World) (L : List Fl) : Prop where
  s : Fam B 70 2 w L.length (fun i => slv (L.getD i fl0)) (fun i => (L.getD i fl0).c.sl.length) (fun i => slCells (L.getD i fl0).c.sl)
  h : Fam B 3 1 w L.length (fun i => itv (L.getD i fl0)) (fun i => (L.getD i fl0).c.hv.length) (fun i => ints (L.getD i fl0).c.hv)
  g : ∀ i, i < L.length → Bd64 (L.getD i fl0)
theorem Rm.still {L : List Fl} (h : Rm B w L) (hb : Below w.heap.size w w') : Rm B w' L := ⟨h.s.still hb, h.h.still hb, h.g⟩
theorem Rm.inn {L : List Fl} (h : Rm B w L) {i : Nat} (hi : i < L.length) : (L.getD i fl0).In w := by
  have g := h.g i hi
  exact ⟨⟨own_rdS (h.s.o i hi) rfl, own_rdI (h.h.o i hi) rfl, g.r, g.b, by have := g.sn; omega, by have := g.hn; omega⟩, fun e => own_nil2 (h.s.o i hi) e, fun e => own_nil2 (h.h.o i hi) e, g.sn, g.hn⟩
theorem getD_setG (L : List Fl) (i j : Nat) (x : Fl) (hj : j < L.length) : (L.set i x).getD j fl0 = if j = i then x else L.getD j fl0 := by
  simp only [List.getD, List.getElem?_set]
  by_cases e : i = j
  · subst e
    simp [hj]
  · simp [e, Ne.symm e]
theorem Rm.set {L : List Fl} {x : Fl} {i : Nat} (hg : ∀ i, i < L.length → Bd64 (L.getD i fl0)) (hx : Bd64 x)
    (hs : Fam B 70 2 w L.length (updF (fun i => slv (L.getD i fl0)) i (slv x)) (updF (fun i => (L.getD i fl0).c.sl.length) i x.c.sl.length) (updF (fun i => slCells (L.getD i fl0).c.sl) i (slCells x.c.sl)))
    (hh : Fam B 3 1 w L.length (updF (fun i => itv (L.getD i fl0)) i (itv x)) (updF (fun i => (L.getD i fl0).c.hv.length) i x.c.hv.length) (updF (fun i => ints (L.getD i fl0).c.hv) i (ints x.c.hv))) : Rm B w (L.set i x) := by
  refine ⟨?_, ?_, fun j hj => ?_⟩
  · rw [List.length_set]
    refine hs.congr (fun j hj => ?_)
    rw [getD_setG _ _ _ _ hj]
    unfold updF
    by_cases e : j = i
    · simp only [if_pos e]; exact ⟨trivial, trivial, trivial⟩
    · simp only [if_neg e]; exact ⟨trivial, trivial, trivial⟩
  · rw [List.length_set]
    refine hh.congr (fun j hj => ?_)
    rw [getD_setG _ _ _ _ hj]
    unfold updF
    by_cases e : j = i
    · simp only [if_pos e]; exact ⟨trivial, trivial, trivial⟩
    · simp only [if_neg e]; exact ⟨trivial, trivial, trivial⟩
  · rw [List.length_set] at hj
    rw [getD_setG _ _ _ _ hj]
    split
    · exact hx
    · exact hg j hj
end
end Go.Proofs.Ytihcaopcfhbofaa.Fm
namespace Go.Proofs.Ytihcaopcfhbofaa.Fm
open Go.RowKit Go.Maps Mb
set_option linter.unusedVariables false
set_option maxRecDepth 100000
set_option linter.unusedSimpArgs false
section
variable {w w' W : World} {B : Nat}
theorem own_setc {t k g n c p : Nat} {l : List Value} (h : w.ownsRow B t k (.slice (some ⟨g, 0, none⟩) n c) n l) (v : Value) : (w.setCell ⟨g, p, none⟩ v).ownsRow B t k (.slice (some ⟨g, 0, none⟩) n c) n (l.set p v) := by
  rcases h.2 with ⟨e, h0⟩ | ⟨g', cap, cur, hv, hB, hg, hnc, hcm, hcs, htk⟩
  · cases e
  · simp only [Value.slice.injEq, Option.some.injEq, Addr.mk.injEq, and_true] at hv
    obtain ⟨⟨rfl, -⟩, -, rfl⟩ := hv
    refine ⟨by rw [List.length_set]; exact h.1, .inr ⟨g, c, cur.setIfInBounds p v, rfl, hB, blk_set hg rfl, hnc, hcm, by simpa using hcs, ?_⟩⟩
    rw [Array.toList_setIfInBounds, List.take_set, htk]
theorem flCells_setc {ys : List Fl} {c j : Nat} {x1 : Fl} {v : Value} (hc : c < ys.length) (hj : j < 7) (hx : x1.cs = (ys.getD c fl0).cs.set j v) : (flCells ys).set (c * 7 + j) v = flCells (ys.set c x1) := by
  apply List.ext_getElem?
  intro q
  rw [List.getElem?_set]
  by_cases hq : q < ys.length * 7
  · rw [flCells_at (ys.set c x1) q (by rw [List.length_set]; exact hq)]
    unfold flC
    rw [getD_setG _ _ _ _ (show q / 7 < ys.length by omega)]
    by_cases e : c * 7 + j = q
    · rw [if_pos e, if_pos (by rw [flCells_len]; omega), if_pos (by omega), hx]
      simp [List.getD, show q % 7 = j by omega, show j < 7 from hj, Fl.cs]
    · rw [if_neg e, flCells_at ys q hq]
      unfold flC
      by_cases e2 : q / 7 = c
      · rw [if_pos e2, hx, e2]
        simp only [List.getD]
        rw [List.getElem?_set_ne (by omega)]
      · rw [if_neg e2]
  · rw [if_neg (by omega), List.getElem?_eq_none (by rw [flCells_len]; omega), List.getElem?_eq_none (by rw [flCells_len, List.length_set]; omega)]
theorem step_appO {ops : Array Oper} {o : Oper} {a : Act} {K : Act → World → Prop} {Q : Exit → Act → World → Prop} {E : Prop} (hgd : o.guard = none) (s x : Operand) (t : TypeId)
    (ho : o.op = .call { callee := .builtin .append, args := #[s, x], argTypes := #[t, t] })
    (base : Nat) (e : TypeId) (i : TypeInfo) (z : Value) (size bytes : Nat) (ht : Try.prog.underlying t = some (.slice e)) (hi : Try.prog.info? e = some i) (hz : i.zero = some z)
    (hsize : i.size = size) (hby : i.bytes = bytes) (hzs : z.cells.size = size) (hsz : 0 < size)
    (v : Value) (hs : a.eval s = v) (hown : w.ownsRow base e size v 0 []) (ao : Option Addr) (m c : Nat) (news : List Value) (hx : a.eval x = .slice ao m c) (hnone : ao = none → m = 0 ∧ c = 0) (hl : news.length = m * size) (hnews : ∀ ad, ao = some ad → ∀ j u, news[j]? = some u → w.cell? (ad.add j) = some u) (h1 : ∀ u ∈ news, u.oneCell' = true)
    (h63 : m ≤ maxLen) (hbytes : m * bytes ≤ 140737488355328) (hbase : base ≤ w.heap.size)
    (h : ∀ a1 c1 w', w'.ownsRow base e size (.slice a1 m c1) m news → Kept w w' (fun k => v.ownBlock = some k) → ((Value.slice a1 m c1).ownBlock = v.ownBlock ∨ (Value.slice a1 m c1).ownBlock = some w.heap.size) → K (a.put o.dst (.slice a1 m c1)) w') : if Region.wanted o (yielded ops a.tmps) = true then Oper.wp Try.prog o a w K Q else E := by
  have hwt : Region.wanted o (yielded ops a.tmps) = true := by simp [Region.wanted, hgd]
  rw [if_pos hwt]
  cases ao with
  | some ad =>
    obtain ⟨v', w', hr, h2, h3, h4, h5⟩ := run_append_own_at (P := Try.prog) w base t o.type e i z size bytes ht hi hz hsize hby hzs hsz v 0 [] hown ad m c news hl (hnews ad rfl) h1 (by omega) (by simpa using hbytes) hbase
    rw [Nat.zero_add, List.nil_append] at h2
    obtain ⟨a1, c1, rfl⟩ : ∃ a1 c1, v' = .slice a1 m c1 := by
      rcases h2.2 with ⟨e1, e2⟩ | ⟨g', cap, cur, hv, _⟩
      · exact ⟨none, 0, by rw [e1, e2]⟩
      · exact ⟨_, _, hv⟩
    unfold Oper.wp execOp
    simp only [ho, resolve, invoke, builtin, Sem.run_bind, Sem.run_pure, Result.andThen_ok, List.map_toArray, List.map_cons, List.map_nil, hs, hx, hr]
    exact h a1 c1 w' h2 ((Kept.ofGrown h3).mono fun k _ hk => hk.symm) h5
  | none =>
    obtain ⟨rfl, rfl⟩ := hnone rfl
    obtain rfl : news = [] := List.eq_nil_of_length_eq_zero (by rw [hl]; omega)
    have hr := run_append_owned_none (P := Try.prog) (w := w) base t o.type e i size ht hi _ 0 [] hown
    obtain ⟨a1, c1, rfl⟩ : ∃ a1 c1, v = .slice a1 0 c1 := by
      rcases hown.2 with ⟨e1, e2⟩ | ⟨g', cap, cur, hv, _⟩
      · exact ⟨none, 0, e1⟩
      · exact ⟨_, _, hv⟩
    unfold Oper.wp execOp
    simp only [ho, resolve, invoke, builtin, Sem.run_bind, Sem.run_pure, Result.andThen_ok, List.map_toArray, List.map_cons, List.map_nil, hs, hx, hr]
    exact h a1 c1 w hown (Kept.refl _ _) (.inl rfl)
structure Kp (B gr : Nat) (w w' : World) : Prop where
  b : Below B w w'
  k : ∀ B' t k n v l, t ≠ 70 → t ≠ 3 → w.ownsRow B' t k v n l → v.ownBlock ≠ some gr → w'.ownsRow B' t k v n l
theorem Kp.refl (B gr : Nat) (w : World) : Kp B gr w w := ⟨Below.refl _ _, fun _ _ _ _ _ _ _ _ h _ => h⟩
theorem Kp.trans {B gr : Nat} {a b c : World} (h : Kp B gr a b) (k : Kp B gr b c) : Kp B gr a c := ⟨h.b.trans k.b, fun B' t q n v l h1 h2 h3 h4 => k.k B' t q n v l h1 h2 (h.k B' t q n v l h1 h2 h3 h4) h4⟩
theorem Kp.row {B gr t' k' n' : Nat} {v' : Value} {l' : List Value} (hB : B ≤ w.heap.size) (ho : w.ownsRow B t' k' v' n' l') (ht : t' = 70 ∨ t' = 3) (hk : Kept w w' (fun j => v'.ownBlock = some j)) : Kp B gr w w' := by
  refine ⟨hk.below hB (fun q hq e => by have := (row_cells ho e).1; omega), fun B' t q n v l h1 h2 h3 h4 => own_keptT h3 ho hk (fun e => ?_)⟩
  rcases ht with h | h
  · exact h1 (by rw [e, h])
  · exact h2 (by rw [e, h])
theorem Kp.gr {B gr k' n' c' : Nat} {l' : List Value} (hB : B ≤ w.heap.size) (ho : w.ownsRow B 28 k' (.slice (some ⟨gr, 0, none⟩) n' c') n' l') (hk : Kept w w' (fun j => j = gr)) : Kp B gr w w' := by
  refine ⟨hk.below hB (fun q hq e => by have := (row_cells ho (show (Value.slice (some ⟨gr, 0, none⟩) n' c').ownBlock = some gr from rfl)).1; omega), fun B' t q n v l h1 h2 h3 h4 => hk.owns h3 (fun g hg e => ?_)⟩
  subst e
  exact h4 hg
theorem row_set {L : List Fl} {o nr c : Nat} {x : Fl} (hL : o + nr ≤ L.length) (hc : c < nr) : ((L.set (o + c) x).drop o).take nr = ((L.drop o).take nr).set c x := by
  rw [List.drop_set, if_neg (by omega), List.take_set]
  congr 1
  omega
theorem row_get {L : List Fl} {o nr c : Nat} (hc : c < nr) : ((L.drop o).take nr).getD c fl0 = L.getD (o + c) fl0 := by
  simp [List.getD, List.getElem?_take, hc]
theorem row_len {L : List Fl} {o nr : Nat} (hL : o + nr ≤ L.length) : ((L.drop o).take nr).length = nr := by
  rw [List.length_take, List.length_drop]
  omega
structure Ld (B gr cr nr o : Nat) (L0 : List Fl) (w0 w : World) (L : List Fl) : Prop where
  len : L.length = L0.length
  out : ∀ i, (i < o ∨ o + nr ≤ i) → L.getD i fl0 = L0.getD i fl0
  m : Rm B w L
  r : w.ownsRow B 28 7 (.slice (some ⟨gr, 0, none⟩) nr cr) nr (flCells ((L.drop o).take nr))
  k : Kp B gr w0 w
theorem Ld.size {B gr cr nr o : Nat} {L0 L : List Fl} {w0 : World} (h : Ld B gr cr nr o L0 w0 w L) : gr < w.heap.size := by
  obtain ⟨_, cur, hc⟩ := row_cells h.r (show (Value.slice (some ⟨gr, 0, none⟩) nr cr).ownBlock = some gr from rfl)
  exact (Array.getElem?_eq_some_iff.1 hc).1
theorem Ld.next {B gr cr nr o c : Nat} {L0 L : List Fl} {w0 w1 w2 w3 : World} {f : Fl} {a1 a2 : Option Addr} {c1 c2 : Nat} (hB : B ≤ w.heap.size) (h : Ld B gr cr nr o L0 w0 w L) (hL : o + nr ≤ L0.length) (hc : c < nr) (hf : Bd64 f)
    (o1 : w1.ownsRow B 70 2 (.slice a1 f.c.sl.length c1) f.c.sl.length (slCells f.c.sl)) (k1 : Kept w w1 (fun j => (slv (L.getD (o + c) fl0)).ownBlock = some j)) (e1 : (Value.slice a1 f.c.sl.length c1).ownBlock = (slv (L.getD (o + c) fl0)).ownBlock ∨ (Value.slice a1 f.c.sl.length c1).ownBlock = some w.heap.size)
    (o2 : w2.ownsRow B 3 1 (.slice a2 f.c.hv.length c2) f.c.hv.length (ints f.c.hv)) (k2 : Kept w1 w2 (fun j => (itv (L.getD (o + c) fl0)).ownBlock = some j)) (e2 : (Value.slice a2 f.c.hv.length c2).ownBlock = (itv (L.getD (o + c) fl0)).ownBlock ∨ (Value.slice a2 f.c.hv.length c2).ownBlock = some w1.heap.size)
    (k3 : Kept w2 w3 (fun j => j = gr)) (o3 : w3.ownsRow B 28 7 (.slice (some ⟨gr, 0, none⟩) nr cr) nr (flCells (((L.drop o).take nr).set c ⟨f.c, a1, c1, a2, c2⟩))) : Ld B gr cr nr o L0 w0 w3 (L.set (o + c) ⟨f.c, a1, c1, a2, c2⟩) := by
  have hLl : o + c < L.length := by rw [h.len]; omega
  have oS := h.m.s.o (o + c) hLl
  have oH := h.m.h.o (o + c) hLl
  have r1 : w1.ownsRow B 28 7 (.slice (some ⟨gr, 0, none⟩) nr cr) nr (flCells ((L.drop o).take nr)) := own_keptT h.r oS k1 (by decide)
  have hH1 := h.m.h.keptT oS k1 (by decide)
  have hS1 := h.m.s.put hLl o1 k1 e1
  have oH1 := hH1.o (o + c) hLl
  have r2 := own_keptT r1 oH1 k2 (by decide)
  have hS2 := hS1.keptT oH1 k2 (by decide)
  have hH2 := hH1.put hLl o2 k2 e2
  have k3' : Kept w2 w3 (fun j => (Value.slice (some ⟨gr, 0, none⟩) nr cr).ownBlock = some j) := k3.mono fun q _ e => by subst e; rfl
  have hS3 := hS2.keptT r2 k3' (by decide)
  have hH3 := hH2.keptT r2 k3' (by decide)
  have b1 : B ≤ w1.heap.size := Nat.le_trans hB k1.size
  have b2 : B ≤ w2.heap.size := Nat.le_trans b1 k2.size
  refine ⟨by rw [List.length_set, h.len], fun i hi => ?_, Rm.set h.m.g ⟨hf.r, hf.b, hf.sn, hf.hn⟩ hS3 hH3, by rw [row_set (by rw [h.len]; exact hL) hc]; exact o3, ?_⟩
  · rw [← h.out i hi]
    simp only [List.getD]
    rw [List.getElem?_set_ne (by omega)]
  · exact ((h.k.trans (Kp.row hB oS (.inl rfl) k1)).trans (Kp.row b1 oH1 (.inr rfl) k2)).trans (Kp.gr b2 r2 k3)
end
end Go.Proofs.Ytihcaopcfhbofaa.Fm
namespace Go.Proofs.Ytihcaopcfhbofaa.Fm
open Go.RowKit Go.Maps Mb
set_option linter.unusedVariables false
set_option maxRecDepth 100000
set_option linter.unusedSimpArgs false
section
variable {w w' W : World} {B : Nat}
theorem own_putD {g n c i : Nat} {l : List Dx} (h : w.ownsRow B 37 4 (.slice (some ⟨g, 0, none⟩) n c) n (msC l)) (hl : l.length = n) (hi : i < n) (s : Dx) : w.there g (i * 4) 4 ∧ B ≤ g ∧ (w.setCells g (i * 4) s.cs).ownsRow B 37 4 (.slice (some ⟨g, 0, none⟩) n c) n (msC (l.set i s)) := by
  rcases h.2 with ⟨h1, h2⟩ | ⟨g', cap, cur, hv, hB, hg, hnc, hcm, hcs, htk⟩
  · cases h1
  · simp only [Value.slice.injEq, Option.some.injEq, Addr.mk.injEq] at hv
    obtain ⟨⟨rfl, -, -⟩, -, rfl⟩ := hv
    have hsz : i * 4 + 4 ≤ cur.size := by omega
    refine ⟨fun j hj => ⟨by rw [blk_cell hg]; simp; omega, frozen_of_row w _ _ _ _ hg⟩, hB, ⟨by rw [msC_len, List.length_set, hl], .inr ⟨g, c, _, rfl, hB, sets_list s.cs (i * 4) w cur.toList (by simpa using hg) (by rw [Dx.cs_len]; simpa using hsz), hnc, hcm, ?_, ?_⟩⟩⟩
    · simp only [List.size_toArray, List.length_append, List.length_take, List.length_drop, Array.length_toList]
      have : s.cs.length = 4 := rfl
      omega
    · apply List.ext_getElem?
      intro j
      by_cases hj : j < n * 4
      · rw [List.getElem?_take_of_lt hj, msC_at _ _ (by rw [List.length_set, hl]; exact hj)]
        simp only []
        have hold : cur.toList[j]? = some (dxC l j) := by
          have e1 : (cur.toList.take (n * 4))[j]? = (msC l)[j]? := by rw [htk]
          rw [List.getElem?_take_of_lt hj] at e1
          rw [e1, msC_at _ _ (by omega)]
        have hlv : s.cs.length = 4 := rfl
        by_cases hji : j / 4 = i
        · have hC : dxC (l.set i s) j = s.cs.getD (j % 4) undef := by
            unfold dxC
            rw [hji]
            simp [List.getD, show i < l.length by omega]
          rw [hC, List.append_assoc, List.getElem?_append_right (by simp; omega), List.getElem?_append_left (by simp; omega)]
          have e2 : j - (cur.toList.take (i * 4)).length = j % 4 := by simp; omega
          rw [e2, List.getD, List.getElem?_eq_getElem (by rw [hlv]; omega)]
          rfl
        · have hC : dxC (l.set i s) j = dxC l j := by
            unfold dxC
            simp [List.getD, List.getElem?_set, show ¬ i = j / 4 from fun h => hji h.symm]
          rw [hC, ← hold]
          by_cases hlt : j < i * 4
          · rw [List.append_assoc, List.getElem?_append_left (by simp; omega), List.getElem?_take_of_lt hlt]
          · rw [List.getElem?_append_right (by simp; omega), List.getElem?_drop]
            congr 1
            simp
            omega
      · rw [List.getElem?_take_eq_none (by omega), List.getElem?_eq_none (by rw [msC_len, List.length_set]; omega)]
theorem getD_setD (L : List Dx) (i j : Nat) (x : Dx) (hj : j < L.length) : (L.set i x).getD j dx0 = if j = i then x else L.getD j dx0 := by
  simp only [List.getD, List.getElem?_set]
  by_cases e : i = j
  · subst e
    simp [hj]
  · simp [e, Ne.symm e]
theorem msC_setc {ys : List Dx} {c j : Nat} {x1 : Dx} {v : Value} (hc : c < ys.length) (hj : j < 4) (hx : x1.cs = (ys.getD c dx0).cs.set j v) : (msC ys).set (c * 4 + j) v = msC (ys.set c x1) := by
  apply List.ext_getElem?
  intro q
  rw [List.getElem?_set]
  by_cases hq : q < ys.length * 4
  · rw [msC_at (ys.set c x1) q (by rw [List.length_set]; exact hq)]
    unfold dxC
    rw [getD_setD _ _ _ _ (show q / 4 < ys.length by omega)]
    by_cases e : c * 4 + j = q
    · rw [if_pos e, if_pos (by rw [msC_len]; omega), if_pos (by omega), hx]
      simp [List.getD, show q % 4 = j by omega, show j < 4 from hj, Dx.cs]
    · rw [if_neg e, msC_at ys q hq]
      unfold dxC
      by_cases e2 : q / 4 = c
      · rw [if_pos e2, hx, e2]
        simp only [List.getD]
        rw [List.getElem?_set_ne (by omega)]
      · rw [if_neg e2]
  · rw [if_neg (by omega), List.getElem?_eq_none (by rw [msC_len]; omega), List.getElem?_eq_none (by rw [msC_len, List.length_set]; omega)]
structure Mg (B : Nat) (w : World) (n : Nat) (v : Value) (ms : List Dx) : Prop where
  len : ms.length = n
  row : w.ownsRow B 37 4 v n (msC ms)
  f : Fam B 5 1 w n (fun i => (ms.getD i dx0).v) (fun i => (ms.getD i dx0).bs.length) (fun i => byts (ms.getD i dx0).bs)
  g : ∀ i, i < n → (i64B (ms.getD i dx0).s.1 ∧ i64B (ms.getD i dx0).s.2) ∧ (ms.getD i dx0).bs.length ≤ 1048576
theorem Mg.of {v : Value} {out : List Dx} (h : MoT 37 B w v out) (g : ∀ i, i < out.length → (i64B (out.getD i dx0).s.1 ∧ i64B (out.getD i dx0).s.2) ∧ (out.getD i dx0).bs.length ≤ 1048576) : Mg B w out.length v out :=
  ⟨rfl, h.row, ⟨h.el, fun i j hi hj hne q hq => by
    rcases Nat.lt_or_gt_of_ne hne with e | e
    · exact h.dis i j e hj q hq
    · exact fun h2 => h.dis j i e hi q h2 hq⟩, g⟩
theorem Mg.still {n : Nat} {v : Value} {ms : List Dx} (h : Mg B w n v ms) (hb : Below w.heap.size w w') : Mg B w' n v ms := ⟨h.len, own_still h.row hb, h.f.still hb, h.g⟩
theorem Mg.rd {n c : Nat} {a : Option Addr} {ms : List Dx} (h : Mg B w n (.slice a n c) ms) : RdDs w a ms := by
  have hm : MoT 37 B w (.slice a ms.length c) ms := ⟨by rw [h.len]; exact h.row, fun i hi => h.f.o i (by rw [← h.len]; exact hi), fun i j hij hj q hq => h.f.d i j (by have := h.len; omega) (by have := h.len; omega) (by omega) q hq⟩
  exact hm.rd rfl (fun i hi => (h.g i (by rw [← h.len]; exact hi)).1)
theorem Mg.bz {n : Nat} {v : Value} {ms : List Dx} (h : Mg B w n v ms) : ∀ i, i < ms.length → ((ms.getD i dx0).ba = none → (ms.getD i dx0).bs.length = 0 ∧ (ms.getD i dx0).bc = 0) ∧ (ms.getD i dx0).bs.length ≤ 1048576 := fun i hi => by
  rw [h.len] at hi
  exact ⟨fun e => own_nil2 (h.f.o i hi) e, (h.g i hi).2⟩
structure Kq (B : Nat) (w w' : World) : Prop where
  b : Below B w w'
  k : ∀ B' t k n v l, t ≠ 5 → t ≠ 37 → w.ownsRow B' t k v n l → w'.ownsRow B' t k v n l
theorem Kq.trans {a b c : World} (h : Kq B a b) (k : Kq B b c) : Kq B a c := ⟨h.b.trans k.b, fun B' t q n v l h1 h2 h3 => k.k B' t q n v l h1 h2 (h.k B' t q n v l h1 h2 h3)⟩
theorem Kq.row {t' k' n' : Nat} {v' : Value} {l' : List Value} (hB : B ≤ w.heap.size) (ho : w.ownsRow B t' k' v' n' l') (ht : t' = 5 ∨ t' = 37) (hk : Kept w w' (fun j => v'.ownBlock = some j)) : Kq B w w' := by
  refine ⟨hk.below hB (fun q hq e => by have := (row_cells ho e).1; omega), fun B' t q n v l h1 h2 h3 => own_keptT h3 ho hk (fun e => ?_)⟩
  rcases ht with h | h
  · exact h1 (by rw [e, h])
  · exact h2 (by rw [e, h])
theorem Mg.next {n c g cc : Nat} {ms : List Dx} {w1 w2 : World} {x : Dx} {a1 : Option Addr} {c1 : Nat} (hB : B ≤ w.heap.size) (h : Mg B w n (.slice (some ⟨g, 0, none⟩) n cc) ms) (hc : c < n) (hx : (i64B x.s.1 ∧ i64B x.s.2) ∧ x.bs.length ≤ 1048576)
    (o1 : w1.ownsRow B 5 1 (.slice a1 x.bs.length c1) x.bs.length (byts x.bs)) (k1 : Kept w w1 (fun j => (ms.getD c dx0).v.ownBlock = some j)) (e1 : (Value.slice a1 x.bs.length c1).ownBlock = (ms.getD c dx0).v.ownBlock ∨ (Value.slice a1 x.bs.length c1).ownBlock = some w.heap.size)
    (k2 : Kept w1 w2 (fun j => j = g)) (o2 : w2.ownsRow B 37 4 (.slice (some ⟨g, 0, none⟩) n cc) n (msC (ms.set c ⟨x.s, x.st, a1, c1, x.bs⟩))) : Mg B w2 n (.slice (some ⟨g, 0, none⟩) n cc) (ms.set c ⟨x.s, x.st, a1, c1, x.bs⟩) ∧ Kq B w w2 := by
  have oS := h.f.o c hc
  have r1 := own_keptT h.row oS k1 (by decide)
  have hS1 := h.f.put hc o1 k1 e1
  have k2' : Kept w1 w2 (fun j => (Value.slice (some ⟨g, 0, none⟩) n cc).ownBlock = some j) := k2.mono fun q _ e => by subst e; rfl
  have hS2 := hS1.keptT r1 k2' (by decide)
  have b1 : B ≤ w1.heap.size := Nat.le_trans hB k1.size
  refine ⟨⟨by rw [List.length_set, h.len], o2, hS2.congr (fun j hj => ?_), fun j hj => ?_⟩, (Kq.row hB oS (.inl rfl) k1).trans (Kq.row b1 r1 (.inr rfl) k2')⟩
  · rw [getD_setD _ _ _ _ (by rw [h.len]; exact hj)]
    unfold updF
    by_cases e : j = c
    · simp only [if_pos e]; exact ⟨rfl, trivial, trivial⟩
    · simp only [if_neg e]; exact ⟨trivial, trivial, trivial⟩
  · rw [getD_setD _ _ _ _ (by rw [h.len]; exact hj)]
    split
    · exact hx
    · exact h.g j hj
end
end Go.Proofs.Ytihcaopcfhbofaa.Fm
