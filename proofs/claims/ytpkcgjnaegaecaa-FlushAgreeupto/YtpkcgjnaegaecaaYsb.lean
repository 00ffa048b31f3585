import Derived.Test.YtpkcgjnaegaecaaYsa
import Derived.Test.YtpkcgjnaegaecaaZ6
import Derived.Test.YtpkcgjnaegaecaaY9
import Derived.Test.YtpkcgjnaegaecaaZn
import Derived.Laws.ResultCell
namespace Go.Proofs.Ytpkcgjnaegaecaa.Fm
open Go.RowKit Go.Maps Mb
set_option linter.unusedVariables false
set_option maxRecDepth 100000
set_option linter.unusedSimpArgs false
section
variable {w w' W : World} {B : Nat}
theorem al_map {a b : List Dx} (h : Al a b) : a.map (fun x => (x.s, x.bs)) = b.map (fun x => (x.s, x.bs)) := by
  apply List.ext_getElem?
  intro j
  by_cases hj : j < b.length
  · have hja : j < a.length := by rw [h.len]; exact hj
    have := h.el j hj
    simp [List.getD, hj, hja] at this
    simp [hj, hja, this.1, this.2.2]
  · rw [List.getElem?_eq_none (by simp; rw [h.len]; omega), List.getElem?_eq_none (by simp; omega)]
theorem fnd_map (ds : List Dx) (s : Int × Int) : fndB ds s = ((ds.map (fun x => (x.s, x.bs))).find? (fun p => decide (p.1 = s))).map (·.2) := by
  unfold fndB
  rw [List.find?_map]
  simp [Function.comp_def]
theorem Al.fnd {a b : List Dx} (h : Al a b) (s : Int × Int) : fndB a s = fndB b s := by rw [fnd_map, fnd_map, al_map h]
theorem RsS.al {cs : List Co} {dm ds : List Dx} {d E : Int} {l : List Dx} (h : RsS cs dm d E l) (k : Al dm ds) : RsS cs ds d E l := by
  rcases h with h | h | h | ⟨a1, a2, a3, n, ss, h1, h2, ⟨⟨j, hj, hm⟩, h4, h5⟩ | ⟨h3, h4⟩⟩
  · exact .inl h
  · exact .inr (.inl h)
  · exact .inr (.inr (.inl h))
  · exact .inr (.inr (.inr ⟨a1, a2, a3, n, ss, h1, h2, .inl ⟨⟨j, hj, by rw [← k.fnd]; exact hm⟩, h4, h5⟩⟩))
  · exact .inr (.inr (.inr ⟨a1, a2, a3, n, ss, h1, h2, .inr ⟨⟨h3.len, fun j hj => ⟨(h3.el j hj).1, (h3.el j hj).2.1, by rw [← k.fnd]; exact (h3.el j hj).2.2⟩⟩, h4⟩⟩))
theorem RsS.r64 {cs : List Co} {ds : List Dx} {d E : Int} {l : List Dx} (h : RsS cs ds d E l) : ∀ i, i < l.length → i64B (l.getD i dx0).s.1 ∧ i64B (l.getD i dx0).s.2 := by
  have hlen := h.len
  rcases h with ⟨_, _, rfl⟩ | ⟨_, _, _, rfl⟩ | ⟨_, _, _, _, rfl⟩ | ⟨a1, a2, _, n, ss, h1, h2, ⟨_, _, rfl⟩ | ⟨h3, _⟩⟩
  · intro i hi; simp at hi
  · intro i hi; simp at hi
  · intro i hi; simp at hi
  · intro i hi; simp at hi
  · intro i hi
    have hT := tog_of a2
    unfold lkB at a1
    simp only [Bool.and_eq_true, inR, decide_eq_true_eq] at a1
    have hd := h3.el i (by rw [← h3.len]; exact hi)
    rw [hd.1]
    have hi2 : i < (ss.drop (d - baseOf cs).toNat).length := by rw [← h3.len]; exact hi
    rw [List.length_drop, h2.1] at hi2
    have e1 : (ss.drop (d - baseOf cs).toNat).getD i z2 = ss.getD ((d - baseOf cs).toNat + i) z2 := by simp [List.getD]
    rw [e1]
    have h5 := h2.2 ((d - baseOf cs).toNat + i) (by omega)
    have h6 := tog_pair hT ((atP_iff hT.con _ _).1 h5)
    have h7 := (hT.snd 0 (by omega)).h16
    unfold i64B
    dsimp only at h6 ⊢
    omega
theorem fnd_len {ds : List Dx} {s : Int × Int} {b : List Int} {M : Nat} (h : fndB ds s = some b) (hd : ∀ q, q < ds.length → (ds.getD q dx0).bs.length ≤ M) : b.length ≤ M := by
  unfold fndB at h
  cases hf : ds.find? (fun x => decide (x.s = s)) with
  | none => rw [hf] at h; cases h
  | some x =>
    rw [hf] at h
    simp at h
    subst h
    obtain ⟨q, hq, e⟩ := List.mem_iff_getElem.1 (List.mem_of_find?_eq_some hf)
    have := hd q hq
    simp [List.getD, hq, e] at this
    exact this
theorem bel_new {Z : Array Value} {T : TypeId} (w : World) : Below w.heap.size w (w.alloc (.cells Z T)) ∧ (w.alloc (.cells Z T)).heap[w.heap.size]? = some (.cells Z T (0, 0)) := ⟨balloc (Below.refl _ _), heap_alloc_new _ _⟩
theorem step_copyA {ops : Array Oper} {o : Oper} {a : Act} {K : Act → World → Prop} {Q : Exit → Act → World → Prop} {E : Prop} (hgd : o.guard = none) (s x : Operand) (t e : TypeId)
    (ho : o.op = .call { callee := .builtin .append, args := #[s, x], argTypes := #[t, t] })
    (i : TypeInfo) (z : Value) (size bytes : Nat) (ht : Try.prog.underlying t = some (.slice e)) (hi : Try.prog.info? e = some i) (hz : i.zero = some z)
    (hsize : i.size = size) (hby : i.bytes = bytes) (hzs : z.cells.size = size) (hsz : 0 < size) {g : Nat}
    (hs : a.eval s = .slice (some ⟨g, 0, none⟩) 0 0) (hg : w.heap[g]? = some (.cells #[] e (0, 0))) (ao : Option Addr) (m c : Nat) (news : List Value) (hx : a.eval x = .slice ao m c) (hnone : ao = none → m = 0 ∧ c = 0) (hl : news.length = m * size) (hnews : ∀ ad, ao = some ad → ∀ j u, news[j]? = some u → w.cell? (ad.add j) = some u) (h1 : ∀ u ∈ news, u.oneCell' = true)
    (h63 : m ≤ maxLen) (hbytes : m * bytes ≤ 140737488355328)
    (h : ∀ a1 c1 w2, w2.ownsRow g e size (.slice a1 m c1) m news → Kept w w2 (fun k => k = g) → K (a.put o.dst (.slice a1 m c1)) w2) : if Region.wanted o (yielded ops a.tmps) = true then Oper.wp Try.prog o a w K Q else E := by
  have hwt : Region.wanted o (yielded ops a.tmps) = true := by simp [Region.wanted, hgd]
  rw [if_pos hwt]
  have hown : w.ownsRow g e size (.slice (some ⟨g, 0, none⟩) 0 0) 0 [] := ⟨by simp, .inr ⟨g, 0, #[], rfl, Nat.le_refl _, hg, Nat.le_refl _, by unfold maxLen; omega, by simp, by simp⟩⟩
  cases ao with
  | some ad =>
    obtain ⟨v', w', hr, h2, h3, h4, h5⟩ := run_append_own_at (P := Try.prog) w g t o.type e i z size bytes ht hi hz hsize hby hzs hsz (.slice (some ⟨g, 0, none⟩) 0 0) 0 [] hown ad m c news hl (hnews ad rfl) h1 (by omega) (by simpa using hbytes) (Nat.le_of_lt (Array.getElem?_eq_some_iff.1 hg).1)
    rw [Nat.zero_add, List.nil_append] at h2
    obtain ⟨a1, c1, rfl⟩ : ∃ a1 c1, v' = .slice a1 m c1 := by
      rcases h2.2 with ⟨e1, e2⟩ | ⟨g', cap, cur, hv, _⟩
      · exact ⟨none, 0, by rw [e1, e2]⟩
      · exact ⟨_, _, hv⟩
    unfold Oper.wp execOp
    simp only [ho, resolve, invoke, builtin, Sem.run_bind, Sem.run_pure, Result.andThen_ok, List.map_toArray, List.map_cons, List.map_nil, hs, hx, hr]
    refine h a1 c1 w' h2 ((Kept.ofGrown h3).mono fun k _ hk => ?_)
    simp [Value.ownBlock] at hk
    exact hk
  | none =>
    obtain ⟨rfl, rfl⟩ := hnone rfl
    obtain rfl : news = [] := List.eq_nil_of_length_eq_zero (by rw [hl]; omega)
    have hr := run_append_owned_none (P := Try.prog) (w := w) g t o.type e i size ht hi _ 0 [] hown
    unfold Oper.wp execOp
    simp only [ho, resolve, invoke, builtin, Sem.run_bind, Sem.run_pure, Result.andThen_ok, List.map_toArray, List.map_cons, List.map_nil, hs, hx, hr]
    exact h _ 0 w hown (Kept.refl _ _)
theorem res_flush {fn : Func} {p : Tmp} (h : fn.results = #[.cell p 35]) (tmps : Array Value) (w : World) (g : Nat) (L : List Value) (hL : L.length = 7)
    (hp : tmps.getD p undef = .pointer (some ⟨g, 0, none⟩)) (hg : w.rangeAt g 0 L) :
    (results fn tmps).run Try.prog w = .ok (.agg L.toArray) w := by
  have e : (results fn tmps).run Try.prog w = ((asAddr (tmps.getD p undef)).run Try.prog w).andThen fun a w₁ => (loadVar 35 a).run Try.prog w₁ := by
    simp only [results, h]
    simp [Sem.run_bind, Result.andThen]
  rw [e, hp]
  simp [asAddr, run_loadVar_mid w g 0 35 L _ hg Try.underlying35 rfl (by rw [hL]; exact info_flush)]
/- the two lists of a copied content, as far as they are there -/
structure Oc (f : Fl) (V : World) (kb rb : Nat) (X : World) : Prop where
  k : X.heap[kb]? = some (.cells f.cs.toArray 35 (0, 0))
  r : ∃ C : Array Value, C.size = 7 ∧ X.heap[rb]? = some (.cells C 35 (0, 0))
  b : Below V.heap.size V X
theorem Oc.still {f : Fl} {V : World} {kb rb : Nat} {X Y : World} (h : Oc f V kb rb X) (hb : Below X.heap.size X Y) : Oc f V kb rb Y := ⟨blk_on hb h.k, by obtain ⟨C, e, q⟩ := h.r; exact ⟨C, e, blk_on hb q⟩, bstep h.b hb⟩
theorem Oc.kept {f : Fl} {V : World} {kb rb g t : Nat} {X Y : World} (h : Oc f V kb rb X) (hg : V.heap.size ≤ g) (hk : X.heap[g]? = some (.cells #[] t (0, 0))) (hk2 : Kept X Y (fun k => k = g)) : Oc f V kb rb Y := by
  refine ⟨hk2.obj h.k (fun e => ?_), ?_, h.b.trans (hk2.below h.b.size (fun k hk e => by omega))⟩
  · rw [← e, h.k] at hk
    simp [Fl.cs] at hk
  · obtain ⟨C, e, q⟩ := h.r
    refine ⟨C, e, hk2.obj q (fun e2 => ?_)⟩
    rw [← e2, q] at hk
    simp at hk
    rw [hk.1] at e
    cases e
structure OnOk (w : World) (x f : Fl) : Prop where
  ce : x.c = f.c
  s : w.ownsRow 0 40 2 (.slice x.sa f.c.sl.length x.sc) f.c.sl.length (slCells f.c.sl)
  h : w.ownsRow 0 3 1 (.slice x.ha f.c.hv.length x.hc) f.c.hv.length (ints f.c.hv)
theorem OnOk.rd {x f : Fl} {W : World} (h : OnOk w x f) (hf : f.Rd W) : x.Rd w := by
  refine ⟨?_, ?_, ?_, ?_, ?_, ?_⟩
  · rw [h.ce]; exact own_rdS h.s rfl
  · rw [h.ce]; exact own_rdI h.h rfl
  · rw [h.ce]; exact hf.r
  · rw [h.ce]; exact hf.b
  · rw [h.ce]; exact hf.sn
  · rw [h.ce]; exact hf.hn
theorem OnOk.still {x f : Fl} (h : OnOk w x f) (hb : Below w.heap.size w w') : OnOk w' x f := ⟨h.ce, own_still h.s hb, own_still h.h hb⟩
theorem own_keptT {t k n t' k' n' : Nat} {v v' : Value} {l l' : List Value} {B B' : Nat} (h : w.ownsRow B t k v n l) (ho : w.ownsRow B' t' k' v' n' l') (hk : Kept w w' (fun j => v'.ownBlock = some j)) (hne : t ≠ t') : w'.ownsRow B t k v n l := by
  refine hk.owns h fun g hg2 e => ?_
  obtain ⟨_, c1, h1⟩ := row_cells h hg2
  obtain ⟨_, c2, h2⟩ := row_cells ho e
  rw [h1] at h2
  simp at h2
  exact hne h2.2
theorem OnOk.keep {x f : Fl} {k' n' : Nat} {v' : Value} {l' : List Value} {B' : Nat} (h : OnOk w x f) (ho : w.ownsRow B' 35 k' v' n' l') (hk : Kept w w' (fun j => v'.ownBlock = some j)) : OnOk w' x f := ⟨h.ce, own_keptT h.s ho hk (by decide), own_keptT h.h ho hk (by decide)⟩
set_option maxHeartbeats 8000000 in
theorem one_any {f : Fl} (hf : f.In w) : Calls Try.prog 11 #[.agg f.cs.toArray] w fun e w' => ∃ x : Fl, e = .returned (.agg x.cs.toArray) ∧ OnOk w' x f ∧ Below w.heap.size w w' := by
  generalize hW1 : w.alloc (.cells f.cs.toArray 35) = W1
  generalize hW2 : W1.alloc (.cells #[.int .i64 0, .int .i64 0, .int .i64 0, .int .i64 0, .int .i64 0, .slice none 0 0, .slice none 0 0] 35) = W2
  have b1 : Below w.heap.size w W1 := hW1 ▸ balloc (Below.refl _ _)
  have b2 : Below W1.heap.size W1 W2 := hW2 ▸ balloc (Below.refl _ _)
  have k1 : W1.heap[w.heap.size]? = some (.cells f.cs.toArray 35 (0, 0)) := by rw [← hW1]; exact heap_alloc_new w _
  have k2 : W2.heap[W1.heap.size]? = some (.cells #[.int .i64 0, .int .i64 0, .int .i64 0, .int .i64 0, .int .i64 0, .slice none 0 0, .slice none 0 0] 35 (0, 0)) := by rw [← hW2]; exact heap_alloc_new W1 _
  have HB : Hid (Below w.heap.size w W2) := bstep b1 b2
  have HBd : Hid (Below w.heap.size w W2.drew) := bstep (bstep b1 b2) (drew_bel W2)
  have HF : Hid (f.In W2.drew) := ((hf.still b1).still b2).still (drew_bel W2)
  have HO : Hid (Oc f W2.drew w.heap.size W1.heap.size W2.drew) := ⟨blk_on (bstep b2 (drew_bel W2)) k1, ⟨_, rfl, blk_on (drew_bel W2) k2⟩, Below.refl _ _⟩
  have Hne : Hid (w.heap.size ≠ W1.heap.size) := (show w.heap.size ≠ W1.heap.size from by have := (Array.getElem?_eq_some_iff.1 k1).1; omega)
  have Hge : Hid (w.heap.size ≤ W1.heap.size) := b1.size
  have Hlt : Hid (W1.heap.size < W2.drew.heap.size) := (Array.getElem?_eq_some_iff.1 k2).1
  obtain ⟨si, shi, shz0, shz1, shz2⟩ := slot_info
  obtain ⟨ii, ihi, ihz0, ihz1, ihz2⟩ := int_info
  have Hck : Hid (∀ V : World, V.heap[w.heap.size]? = some (.cells f.cs.toArray 35 (0, 0)) → V.cell? ⟨w.heap.size, 4, none⟩ = some (.int .i64 f.c.base) ∧ V.cell? ⟨w.heap.size, 5, none⟩ = some (.slice f.sa f.c.sl.length f.sc) ∧ V.cell? ⟨w.heap.size, 6, none⟩ = some (.slice f.ha f.c.hv.length f.hc) ∧ V.rangeAt w.heap.size 0 f.c.id.cs) := fun V hV => ⟨blk_cell hV 4, blk_cell hV 5, blk_cell hV 6, id_range hV⟩
  have hsn := hf.sn
  have hhn := hf.hn
  have HSz : Hid (f.sa = none → f.c.sl.length = 0 ∧ f.sc = 0) := hf.sz
  have HHz : Hid (f.ha = none → f.c.hv.length = 0 ∧ f.hc = 0) := hf.hz
  clear hf b1 b2 k1 k2
  generalize hsl : f.c.sl.length = sn at *
  generalize hhl : f.c.hv.length = hn at *
  have Hsn : Hid (f.c.sl.length = sn) := hsl
  have Hhn : Hid (f.c.hv.length = hn) := hhl
  clear hsl hhl
  generalize hpc : f.cs.toArray = pc at hW1 ⊢
  clear hpc
  go_enter Try.func11, Try.ntmps11
  go_wp2_with (fail)
  clear hW1 hW2
  generalize hkb : w.heap.size = kb at *
  generalize hrb : W1.heap.size = rb at *
  have Hkb : Hid (w.heap.size = kb) := hkb
  clear hkb hrb
  refine wp_region_held_drew (S := (fun w' => w'.heap[kb]? = some (.cells f.cs.toArray 35 (0, 0)))) (by kernel_rfl) (HO.out.k) (fun hHeld => ?_)
  simp only [Act.put, List.size_toArray, List.length_cons, List.length_nil, Nat.zero_add]
  refine wpAnyH_take (i := 0) (v := .pointer (some ⟨kb, 0, none⟩)) rfl (by kernel_rfl) (by kernel_rfl) (by kernel_rfl) (fun _ _ _ h => h) (Or.inl ⟨by rfl, fun w' hS => by go_simp⟩) hHeld ?_
  simp only [Act.put, List.getElem_toArray, List.getElem_cons_zero, List.getElem_cons_succ, List.setIfInBounds_toArray, List.set_cons_zero, List.set_cons_succ]
  refine wpAnyH_take (i := 1) (v := .agg ([.int .i64 f.c.id.e, .int .i64 f.c.id.l, .int .i64 f.c.id.i, .int .i64 f.c.id.c]).toArray) rfl (by kernel_rfl) (by kernel_rfl) (by kernel_rfl) (fun _ _ _ h => h) (yieldsIf_load_mid (by rfl) 33 (.tmp 3) rfl kb (0) (by rfl) ([.int .i64 f.c.id.e, .int .i64 f.c.id.l, .int .i64 f.c.id.i, .int .i64 f.c.id.c]) _ (fun w' hS => (Hck.out w' hS).2.2.2) Try.underlying33 rfl info_id) hHeld ?_
  simp only [Act.put, List.getElem_toArray, List.getElem_cons_zero, List.getElem_cons_succ, List.setIfInBounds_toArray, List.set_cons_zero, List.set_cons_succ]
  refine wpAnyH_take (i := 2) (v := .pointer (some ⟨kb, 4, none⟩)) rfl (by kernel_rfl) (by kernel_rfl) (by kernel_rfl) (fun _ _ _ h => h) (Or.inl ⟨by rfl, fun w' hS => by go_simp⟩) hHeld ?_
  simp only [Act.put, List.getElem_toArray, List.getElem_cons_zero, List.getElem_cons_succ, List.setIfInBounds_toArray, List.set_cons_zero, List.set_cons_succ]
  refine wpAnyH_take (i := 3) (v := .int .i64 f.c.base) rfl (by kernel_rfl) (by kernel_rfl) (by kernel_rfl) (fun _ _ _ h => h) (Or.inl ⟨by rfl, fun w' hS => by (obtain ⟨q4, q5, q6, qi⟩ := Hck.out w' hS; go_simp)⟩) hHeld ?_
  simp only [Act.put, List.getElem_toArray, List.getElem_cons_zero, List.getElem_cons_succ, List.setIfInBounds_toArray, List.set_cons_zero, List.set_cons_succ]
  refine wpAnyH_take (i := 5) (v := .pointer (some ⟨kb, 5, none⟩)) rfl (by kernel_rfl) (by kernel_rfl) (by kernel_rfl) (fun _ _ _ h => h) (Or.inl ⟨by rfl, fun w' hS => by go_simp⟩) hHeld ?_
  simp only [Act.put, List.getElem_toArray, List.getElem_cons_zero, List.getElem_cons_succ, List.setIfInBounds_toArray, List.set_cons_zero, List.set_cons_succ]
  refine wpAnyH_take (i := 6) (v := .slice f.sa sn f.sc) rfl (by kernel_rfl) (by kernel_rfl) (by kernel_rfl) (fun _ _ _ h => h) (Or.inl ⟨by rfl, fun w' hS => by (obtain ⟨q4, q5, q6, qi⟩ := Hck.out w' hS; go_simp)⟩) hHeld ?_
  simp only [Act.put, List.getElem_toArray, List.getElem_cons_zero, List.getElem_cons_succ, List.setIfInBounds_toArray, List.set_cons_zero, List.set_cons_succ]
  refine wpAnyH_take (i := 9) (v := .pointer (some ⟨kb, 6, none⟩)) rfl (by kernel_rfl) (by kernel_rfl) (by kernel_rfl) (fun _ _ _ h => h) (Or.inl ⟨by rfl, fun w' hS => by go_simp⟩) hHeld ?_
  simp only [Act.put, List.getElem_toArray, List.getElem_cons_zero, List.getElem_cons_succ, List.setIfInBounds_toArray, List.set_cons_zero, List.set_cons_succ]
  refine wpAnyH_take (i := 10) (v := .slice f.ha hn f.hc) rfl (by kernel_rfl) (by kernel_rfl) (by kernel_rfl) (fun _ _ _ h => h) (Or.inl ⟨by rfl, fun w' hS => by (obtain ⟨q4, q5, q6, qi⟩ := Hck.out w' hS; go_simp)⟩) hHeld ?_
  simp only [Act.put, List.getElem_toArray, List.getElem_cons_zero, List.getElem_cons_succ, List.setIfInBounds_toArray, List.set_cons_zero, List.set_cons_succ]
  generalize hVd : W2.drew = Vd at *
  clear hVd
  refine wpAnyH_ready (rs := [4, 8]) (by kernel_rfl) (by simp) ?_
  refine AllReadyH.cons rfl (fun K hK => ?_) (AllReadyH.cons rfl (fun K hK => ?_) AllReadyH.nil)
  · go_simp
    obtain ⟨b1, k1⟩ := bel_new (Z := #[]) (T := 40) Vd
    generalize Vd.alloc (.cells #[] 40) = V1 at b1 k1 ⊢
    have K1 : Hid (V1.heap[Vd.heap.size]? = some (.cells #[] 40 (0, 0))) := k1
    have B1 : Hid (Below Vd.heap.size Vd V1) := b1
    have O1 : Hid (Oc f Vd kb rb V1) := HO.out.still b1
    have G1 : Hid (Vd.heap.size ≤ Vd.heap.size) := HO.out.b.size
    clear k1 b1
    refine hK.out _ _ O1.out.k (fun hHeld => ?_)
    clear hK K
    try (simp only [Act.put, List.getElem_toArray, List.getElem_cons_zero, List.getElem_cons_succ, List.setIfInBounds_toArray, List.set_cons_zero, List.set_cons_succ])
    refine wpAnyH_ready (rs := [7, 8]) (by kernel_rfl) (by simp) ?_
    refine AllReadyH.cons rfl (fun K hK => ?_) (AllReadyH.cons rfl (fun K hK => ?_) AllReadyH.nil)
    · refine step_copyA rfl _ _ 29 40 rfl si (.agg #[.int .i64 0, .int .i64 0]) 2 16 Try.underlying29 shi shz0 shz1 shz2 rfl (by omega) rfl K1.out f.sa sn f.sc (slCells f.c.sl) rfl HSz.out (by rw [slCells_len, Hsn.out]) (rdS_news (HF.out.rd.s.still O1.out.b)) (slCells_one _) (by unfold maxLen; omega) (by omega) ?_
      intro a7 c7 V2 ho2 hk2
      have Wq2 : Hid _ := ho2
      have O2 : Hid (Oc f Vd kb rb V2) := O1.out.kept G1.out K1.out hk2
      clear ho2 hk2
      refine hK.out _ _ O2.out.k (fun hHeld => ?_)
      clear hK K
      try (simp only [Act.put, List.getElem_toArray, List.getElem_cons_zero, List.getElem_cons_succ, List.setIfInBounds_toArray, List.set_cons_zero, List.set_cons_succ])
      refine wpAnyH_ready (rs := [8]) (by kernel_rfl) (by simp) ?_
      refine AllReadyH.cons rfl (fun K hK => ?_) AllReadyH.nil
      go_simp
      obtain ⟨b3, k3⟩ := bel_new (Z := #[]) (T := 3) V2
      generalize V2.alloc (.cells #[] 3) = V3 at b3 k3 ⊢
      have K3 : Hid (V3.heap[V2.heap.size]? = some (.cells #[] 3 (0, 0))) := k3
      have B3 : Hid (Below V2.heap.size V2 V3) := b3
      have O3 : Hid (Oc f Vd kb rb V3) := O2.out.still b3
      have G3 : Hid (Vd.heap.size ≤ V2.heap.size) := O2.out.b.size
      clear k3 b3
      refine hK.out _ _ O3.out.k (fun hHeld => ?_)
      clear hK K
      try (simp only [Act.put, List.getElem_toArray, List.getElem_cons_zero, List.getElem_cons_succ, List.setIfInBounds_toArray, List.set_cons_zero, List.set_cons_succ])
      refine wpAnyH_ready (rs := [11]) (by kernel_rfl) (by simp) ?_
      refine AllReadyH.cons rfl (fun K hK => ?_) AllReadyH.nil
      refine step_copyA rfl _ _ 28 3 rfl ii (.int .i64 0) 1 8 Try.underlying28 ihi ihz0 ihz1 ihz2 rfl (by omega) rfl K3.out f.ha hn f.hc (ints f.c.hv) rfl HHz.out (by rw [ints_len, Hhn.out, Nat.mul_one]) (rdI_news (HF.out.rd.h.still O3.out.b)) (ints_one _) (by unfold maxLen; omega) (by omega) ?_
      intro a11 c11 V4 ho4 hk4
      have Wq4 : Hid _ := ho4
      have O4 : Hid (Oc f Vd kb rb V4) := O3.out.kept G3.out K3.out hk4
      have M4 : Hid (V4.ownsRow 0 40 2 (.slice a7 sn c7) sn (slCells f.c.sl)) := own_ne (own_lower (own_still Wq2.out B3.out) (Nat.zero_le _)) K3.out (by decide) hk4
      clear ho4 hk4
      refine hK.out _ _ O4.out.k (fun hHeld => ?_)
      clear hK K
      try (simp only [Act.put, List.getElem_toArray, List.getElem_cons_zero, List.getElem_cons_succ, List.setIfInBounds_toArray, List.set_cons_zero, List.set_cons_succ])
      refine wpAnyH_take (i := 12) (v := .agg #[.int .i64 f.c.id.e, .int .i64 f.c.id.l, .int .i64 f.c.id.i, .int .i64 f.c.id.c, .int .i64 f.c.base, .slice a7 sn c7, .slice a11 hn c11]) rfl (by kernel_rfl) (by kernel_rfl) (by kernel_rfl) (fun _ _ _ h => h) (Or.inl ⟨by rfl, fun w' hS => by go_simp⟩) hHeld ?_
      simp only [Act.put, List.getElem_toArray, List.getElem_cons_zero, List.getElem_cons_succ, List.setIfInBounds_toArray, List.set_cons_zero, List.set_cons_succ]
      obtain ⟨C, hC7, hC⟩ := O4.out.r
      refine wpAnyH_ready (rs := [13]) (by kernel_rfl) (by simp) ?_
      refine AllReadyH.cons rfl (fun K hK => ?_) AllReadyH.nil
      refine step_storeZ rfl 35 _ _ rfl (L := [.int .i64 f.c.id.e, .int .i64 f.c.id.l, .int .i64 f.c.id.i, .int .i64 f.c.id.c, .int .i64 f.c.base, .slice a7 sn c7, .slice a11 hn c11]) rfl rfl hC info_flush hC7 (by intro u hu; simp only [List.mem_cons, List.not_mem_nil, or_false] at hu; rcases hu with rfl | rfl | rfl | rfl | rfl | rfl | rfl <;> rfl) ?_
      intro VZ hz hkz
      refine hK.out _ _ (hkz.obj O4.out.k Hne.out) (fun hHeld => ?_)
      clear hK K
      have HZ : Hid (VZ.heap[rb]? = some (.cells [.int .i64 f.c.id.e, .int .i64 f.c.id.l, .int .i64 f.c.id.i, .int .i64 f.c.id.c, .int .i64 f.c.base, .slice a7 sn c7, .slice a11 hn c11].toArray 35 (0, 0))) := hz
      have HKZ : Hid (Kept V4 VZ (fun j => j = rb)) := hkz
      clear hz hkz
      refine wpAnyH_done (by kernel_rfl) ?_ _
      clear hHeld
      go_wp2
      (try simp only [Exit.inBlock, Exit.then]); refine bodyPost_ret (res_flush rfl _ _ rb [.int .i64 f.c.id.e, .int .i64 f.c.id.l, .int .i64 f.c.id.i, .int .i64 f.c.id.c, .int .i64 f.c.base, .slice a7 sn c7, .slice a11 hn c11] rfl rfl (blk_range HZ.out)) rfl ?_
      have h7 : VZ.ownsRow 0 40 2 (.slice a7 sn c7) sn (slCells f.c.sl) := own_ne M4.out hC (by decide) HKZ.out
      have h11 : VZ.ownsRow 0 3 1 (.slice a11 hn c11) hn (ints f.c.hv) := own_ne (own_lower Wq4.out (Nat.zero_le _)) hC (by decide) HKZ.out
      refine ⟨⟨f.c, a7, c7, a11, c11⟩, ?_, ⟨rfl, by rw [Hsn.out]; exact h7, by rw [Hhn.out]; exact h11⟩, ?_⟩
      · show _ = Ending.returned (Value.agg #[.int .i64 f.c.id.e, .int .i64 f.c.id.l, .int .i64 f.c.id.i, .int .i64 f.c.id.c, .int .i64 f.c.base, .slice a7 f.c.sl.length c7, .slice a11 f.c.hv.length c11])
        rw [Hsn.out, Hhn.out]
      · rw [Hkb.out]
        have hk := Hkb.out
        have s1 := HBd.out.size
        have s3 := Hlt.out
        have s4 := Hge.out
        have h1 : Below kb w V4 := HBd.out.trans (O4.out.b.mono (by omega))
        have s5 := O4.out.b.size
        exact h1.trans (HKZ.out.below (by omega) (fun k hk e => by omega))
    · go_simp
      obtain ⟨b5, k5⟩ := bel_new (Z := #[]) (T := 3) V1
      generalize V1.alloc (.cells #[] 3) = V5 at b5 k5 ⊢
      have K5 : Hid (V5.heap[V1.heap.size]? = some (.cells #[] 3 (0, 0))) := k5
      have B5 : Hid (Below V1.heap.size V1 V5) := b5
      have O5 : Hid (Oc f Vd kb rb V5) := O1.out.still b5
      have G5 : Hid (Vd.heap.size ≤ V1.heap.size) := O1.out.b.size
      clear k5 b5
      refine hK.out _ _ O5.out.k (fun hHeld => ?_)
      clear hK K
      try (simp only [Act.put, List.getElem_toArray, List.getElem_cons_zero, List.getElem_cons_succ, List.setIfInBounds_toArray, List.set_cons_zero, List.set_cons_succ])
      refine wpAnyH_ready (rs := [7]) (by kernel_rfl) (by simp) ?_
      refine AllReadyH.cons rfl (fun K hK => ?_) AllReadyH.nil
      refine step_copyA rfl _ _ 29 40 rfl si (.agg #[.int .i64 0, .int .i64 0]) 2 16 Try.underlying29 shi shz0 shz1 shz2 rfl (by omega) rfl (blk_on B5.out K1.out) f.sa sn f.sc (slCells f.c.sl) rfl HSz.out (by rw [slCells_len, Hsn.out]) (rdS_news (HF.out.rd.s.still O5.out.b)) (slCells_one _) (by unfold maxLen; omega) (by omega) ?_
      intro a7 c7 V6 ho6 hk6
      have Wq6 : Hid _ := ho6
      have O6 : Hid (Oc f Vd kb rb V6) := O5.out.kept G1.out (blk_on B5.out K1.out) hk6
      have M6 : Hid (V6.heap[V1.heap.size]? = some (.cells #[] 3 (0, 0))) := hk6.obj K5.out (blk_ne K5.out (blk_on B5.out K1.out) (by decide))
      clear ho6 hk6
      refine hK.out _ _ O6.out.k (fun hHeld => ?_)
      clear hK K
      try (simp only [Act.put, List.getElem_toArray, List.getElem_cons_zero, List.getElem_cons_succ, List.setIfInBounds_toArray, List.set_cons_zero, List.set_cons_succ])
      refine wpAnyH_ready (rs := [11]) (by kernel_rfl) (by simp) ?_
      refine AllReadyH.cons rfl (fun K hK => ?_) AllReadyH.nil
      refine step_copyA rfl _ _ 28 3 rfl ii (.int .i64 0) 1 8 Try.underlying28 ihi ihz0 ihz1 ihz2 rfl (by omega) rfl M6.out f.ha hn f.hc (ints f.c.hv) rfl HHz.out (by rw [ints_len, Hhn.out, Nat.mul_one]) (rdI_news (HF.out.rd.h.still O6.out.b)) (ints_one _) (by unfold maxLen; omega) (by omega) ?_
      intro a11 c11 V7 ho7 hk7
      have Wq7 : Hid _ := ho7
      have O7 : Hid (Oc f Vd kb rb V7) := O6.out.kept G5.out M6.out hk7
      have M7 : Hid (V7.ownsRow 0 40 2 (.slice a7 sn c7) sn (slCells f.c.sl)) := own_ne (own_lower Wq6.out (Nat.zero_le _)) M6.out (by decide) hk7
      clear ho7 hk7
      refine hK.out _ _ O7.out.k (fun hHeld => ?_)
      clear hK K
      try (simp only [Act.put, List.getElem_toArray, List.getElem_cons_zero, List.getElem_cons_succ, List.setIfInBounds_toArray, List.set_cons_zero, List.set_cons_succ])
      refine wpAnyH_take (i := 12) (v := .agg #[.int .i64 f.c.id.e, .int .i64 f.c.id.l, .int .i64 f.c.id.i, .int .i64 f.c.id.c, .int .i64 f.c.base, .slice a7 sn c7, .slice a11 hn c11]) rfl (by kernel_rfl) (by kernel_rfl) (by kernel_rfl) (fun _ _ _ h => h) (Or.inl ⟨by rfl, fun w' hS => by go_simp⟩) hHeld ?_
      simp only [Act.put, List.getElem_toArray, List.getElem_cons_zero, List.getElem_cons_succ, List.setIfInBounds_toArray, List.set_cons_zero, List.set_cons_succ]
      obtain ⟨C, hC7, hC⟩ := O7.out.r
      refine wpAnyH_ready (rs := [13]) (by kernel_rfl) (by simp) ?_
      refine AllReadyH.cons rfl (fun K hK => ?_) AllReadyH.nil
      refine step_storeZ rfl 35 _ _ rfl (L := [.int .i64 f.c.id.e, .int .i64 f.c.id.l, .int .i64 f.c.id.i, .int .i64 f.c.id.c, .int .i64 f.c.base, .slice a7 sn c7, .slice a11 hn c11]) rfl rfl hC info_flush hC7 (by intro u hu; simp only [List.mem_cons, List.not_mem_nil, or_false] at hu; rcases hu with rfl | rfl | rfl | rfl | rfl | rfl | rfl <;> rfl) ?_
      intro VZ hz hkz
      refine hK.out _ _ (hkz.obj O7.out.k Hne.out) (fun hHeld => ?_)
      clear hK K
      have HZ : Hid (VZ.heap[rb]? = some (.cells [.int .i64 f.c.id.e, .int .i64 f.c.id.l, .int .i64 f.c.id.i, .int .i64 f.c.id.c, .int .i64 f.c.base, .slice a7 sn c7, .slice a11 hn c11].toArray 35 (0, 0))) := hz
      have HKZ : Hid (Kept V7 VZ (fun j => j = rb)) := hkz
      clear hz hkz
      refine wpAnyH_done (by kernel_rfl) ?_ _
      clear hHeld
      go_wp2
      (try simp only [Exit.inBlock, Exit.then]); refine bodyPost_ret (res_flush rfl _ _ rb [.int .i64 f.c.id.e, .int .i64 f.c.id.l, .int .i64 f.c.id.i, .int .i64 f.c.id.c, .int .i64 f.c.base, .slice a7 sn c7, .slice a11 hn c11] rfl rfl (blk_range HZ.out)) rfl ?_
      have h7 : VZ.ownsRow 0 40 2 (.slice a7 sn c7) sn (slCells f.c.sl) := own_ne M7.out hC (by decide) HKZ.out
      have h11 : VZ.ownsRow 0 3 1 (.slice a11 hn c11) hn (ints f.c.hv) := own_ne (own_lower Wq7.out (Nat.zero_le _)) hC (by decide) HKZ.out
      refine ⟨⟨f.c, a7, c7, a11, c11⟩, ?_, ⟨rfl, by rw [Hsn.out]; exact h7, by rw [Hhn.out]; exact h11⟩, ?_⟩
      · show _ = Ending.returned (Value.agg #[.int .i64 f.c.id.e, .int .i64 f.c.id.l, .int .i64 f.c.id.i, .int .i64 f.c.id.c, .int .i64 f.c.base, .slice a7 f.c.sl.length c7, .slice a11 f.c.hv.length c11])
        rw [Hsn.out, Hhn.out]
      · rw [Hkb.out]
        have hk := Hkb.out
        have s1 := HBd.out.size
        have s3 := Hlt.out
        have s4 := Hge.out
        have h1 : Below kb w V7 := HBd.out.trans (O7.out.b.mono (by omega))
        have s5 := O7.out.b.size
        exact h1.trans (HKZ.out.below (by omega) (fun k hk e => by omega))
  · go_simp
    obtain ⟨b8, k8⟩ := bel_new (Z := #[]) (T := 3) Vd
    generalize Vd.alloc (.cells #[] 3) = V8 at b8 k8 ⊢
    have K8 : Hid (V8.heap[Vd.heap.size]? = some (.cells #[] 3 (0, 0))) := k8
    have B8 : Hid (Below Vd.heap.size Vd V8) := b8
    have O8 : Hid (Oc f Vd kb rb V8) := HO.out.still b8
    have G8 : Hid (Vd.heap.size ≤ Vd.heap.size) := HO.out.b.size
    clear k8 b8
    refine hK.out _ _ O8.out.k (fun hHeld => ?_)
    clear hK K
    try (simp only [Act.put, List.getElem_toArray, List.getElem_cons_zero, List.getElem_cons_succ, List.setIfInBounds_toArray, List.set_cons_zero, List.set_cons_succ])
    refine wpAnyH_ready (rs := [4]) (by kernel_rfl) (by simp) ?_
    refine AllReadyH.cons rfl (fun K hK => ?_) AllReadyH.nil
    go_simp
    obtain ⟨b9, k9⟩ := bel_new (Z := #[]) (T := 40) V8
    generalize V8.alloc (.cells #[] 40) = V9 at b9 k9 ⊢
    have K9 : Hid (V9.heap[V8.heap.size]? = some (.cells #[] 40 (0, 0))) := k9
    have B9 : Hid (Below V8.heap.size V8 V9) := b9
    have O9 : Hid (Oc f Vd kb rb V9) := O8.out.still b9
    have G9 : Hid (Vd.heap.size ≤ V8.heap.size) := O8.out.b.size
    clear k9 b9
    refine hK.out _ _ O9.out.k (fun hHeld => ?_)
    clear hK K
    try (simp only [Act.put, List.getElem_toArray, List.getElem_cons_zero, List.getElem_cons_succ, List.setIfInBounds_toArray, List.set_cons_zero, List.set_cons_succ])
    refine wpAnyH_ready (rs := [7]) (by kernel_rfl) (by simp) ?_
    refine AllReadyH.cons rfl (fun K hK => ?_) AllReadyH.nil
    refine step_copyA rfl _ _ 29 40 rfl si (.agg #[.int .i64 0, .int .i64 0]) 2 16 Try.underlying29 shi shz0 shz1 shz2 rfl (by omega) rfl K9.out f.sa sn f.sc (slCells f.c.sl) rfl HSz.out (by rw [slCells_len, Hsn.out]) (rdS_news (HF.out.rd.s.still O9.out.b)) (slCells_one _) (by unfold maxLen; omega) (by omega) ?_
    intro a7 c7 V10 ho10 hk10
    have Wq10 : Hid _ := ho10
    have O10 : Hid (Oc f Vd kb rb V10) := O9.out.kept G9.out K9.out hk10
    have M10 : Hid (V10.heap[Vd.heap.size]? = some (.cells #[] 3 (0, 0))) := hk10.obj (blk_on B9.out K8.out) (blk_ne (blk_on B9.out K8.out) K9.out (by decide))
    clear ho10 hk10
    refine hK.out _ _ O10.out.k (fun hHeld => ?_)
    clear hK K
    try (simp only [Act.put, List.getElem_toArray, List.getElem_cons_zero, List.getElem_cons_succ, List.setIfInBounds_toArray, List.set_cons_zero, List.set_cons_succ])
    refine wpAnyH_ready (rs := [11]) (by kernel_rfl) (by simp) ?_
    refine AllReadyH.cons rfl (fun K hK => ?_) AllReadyH.nil
    refine step_copyA rfl _ _ 28 3 rfl ii (.int .i64 0) 1 8 Try.underlying28 ihi ihz0 ihz1 ihz2 rfl (by omega) rfl M10.out f.ha hn f.hc (ints f.c.hv) rfl HHz.out (by rw [ints_len, Hhn.out, Nat.mul_one]) (rdI_news (HF.out.rd.h.still O10.out.b)) (ints_one _) (by unfold maxLen; omega) (by omega) ?_
    intro a11 c11 V11 ho11 hk11
    have Wq11 : Hid _ := ho11
    have O11 : Hid (Oc f Vd kb rb V11) := O10.out.kept G8.out M10.out hk11
    have M11 : Hid (V11.ownsRow 0 40 2 (.slice a7 sn c7) sn (slCells f.c.sl)) := own_ne (own_lower Wq10.out (Nat.zero_le _)) M10.out (by decide) hk11
    clear ho11 hk11
    refine hK.out _ _ O11.out.k (fun hHeld => ?_)
    clear hK K
    try (simp only [Act.put, List.getElem_toArray, List.getElem_cons_zero, List.getElem_cons_succ, List.setIfInBounds_toArray, List.set_cons_zero, List.set_cons_succ])
    refine wpAnyH_take (i := 12) (v := .agg #[.int .i64 f.c.id.e, .int .i64 f.c.id.l, .int .i64 f.c.id.i, .int .i64 f.c.id.c, .int .i64 f.c.base, .slice a7 sn c7, .slice a11 hn c11]) rfl (by kernel_rfl) (by kernel_rfl) (by kernel_rfl) (fun _ _ _ h => h) (Or.inl ⟨by rfl, fun w' hS => by go_simp⟩) hHeld ?_
    simp only [Act.put, List.getElem_toArray, List.getElem_cons_zero, List.getElem_cons_succ, List.setIfInBounds_toArray, List.set_cons_zero, List.set_cons_succ]
    obtain ⟨C, hC7, hC⟩ := O11.out.r
    refine wpAnyH_ready (rs := [13]) (by kernel_rfl) (by simp) ?_
    refine AllReadyH.cons rfl (fun K hK => ?_) AllReadyH.nil
    refine step_storeZ rfl 35 _ _ rfl (L := [.int .i64 f.c.id.e, .int .i64 f.c.id.l, .int .i64 f.c.id.i, .int .i64 f.c.id.c, .int .i64 f.c.base, .slice a7 sn c7, .slice a11 hn c11]) rfl rfl hC info_flush hC7 (by intro u hu; simp only [List.mem_cons, List.not_mem_nil, or_false] at hu; rcases hu with rfl | rfl | rfl | rfl | rfl | rfl | rfl <;> rfl) ?_
    intro VZ hz hkz
    refine hK.out _ _ (hkz.obj O11.out.k Hne.out) (fun hHeld => ?_)
    clear hK K
    have HZ : Hid (VZ.heap[rb]? = some (.cells [.int .i64 f.c.id.e, .int .i64 f.c.id.l, .int .i64 f.c.id.i, .int .i64 f.c.id.c, .int .i64 f.c.base, .slice a7 sn c7, .slice a11 hn c11].toArray 35 (0, 0))) := hz
    have HKZ : Hid (Kept V11 VZ (fun j => j = rb)) := hkz
    clear hz hkz
    refine wpAnyH_done (by kernel_rfl) ?_ _
    clear hHeld
    go_wp2
    (try simp only [Exit.inBlock, Exit.then]); refine bodyPost_ret (res_flush rfl _ _ rb [.int .i64 f.c.id.e, .int .i64 f.c.id.l, .int .i64 f.c.id.i, .int .i64 f.c.id.c, .int .i64 f.c.base, .slice a7 sn c7, .slice a11 hn c11] rfl rfl (blk_range HZ.out)) rfl ?_
    have h7 : VZ.ownsRow 0 40 2 (.slice a7 sn c7) sn (slCells f.c.sl) := own_ne M11.out hC (by decide) HKZ.out
    have h11 : VZ.ownsRow 0 3 1 (.slice a11 hn c11) hn (ints f.c.hv) := own_ne (own_lower Wq11.out (Nat.zero_le _)) hC (by decide) HKZ.out
    refine ⟨⟨f.c, a7, c7, a11, c11⟩, ?_, ⟨rfl, by rw [Hsn.out]; exact h7, by rw [Hhn.out]; exact h11⟩, ?_⟩
    · show _ = Ending.returned (Value.agg #[.int .i64 f.c.id.e, .int .i64 f.c.id.l, .int .i64 f.c.id.i, .int .i64 f.c.id.c, .int .i64 f.c.base, .slice a7 f.c.sl.length c7, .slice a11 f.c.hv.length c11])
      rw [Hsn.out, Hhn.out]
    · rw [Hkb.out]
      have hk := Hkb.out
      have s1 := HBd.out.size
      have s3 := Hlt.out
      have s4 := Hge.out
      have h1 : Below kb w V11 := HBd.out.trans (O11.out.b.mono (by omega))
      have s5 := O11.out.b.size
      exact h1.trans (HKZ.out.below (by omega) (fun k hk e => by omega))
structure My (w0 w : World) (c : Nat) (mv : Value) (xs fs : List Fl) : Prop where
  len : xs.length = c
  o : w.ownsRow w0.heap.size 35 7 mv c (flCells xs)
  ok : ∀ k, k < c → OnOk w (xs.getD k fl0) (fs.getD k fl0)
  b : Below w0.heap.size w0 w
theorem My.still {w0 : World} {c : Nat} {mv : Value} {xs fs : List Fl} (h : My w0 w c mv xs fs) (hb : Below w.heap.size w w') : My w0 w' c mv xs fs := ⟨h.len, own_still h.o hb, fun k hk => (h.ok k hk).still hb, bstep h.b hb⟩
theorem My.app {w0 : World} {c : Nat} {mv v' : Value} {xs fs : List Fl} {x : Fl} (h : My w0 w c mv xs fs) (hx : OnOk w x (fs.getD c fl0)) (ho : w'.ownsRow w0.heap.size 35 7 v' (c + 1) (flCells xs ++ x.cs)) (hk : Kept w w' (fun j => mv.ownBlock = some j)) : My w0 w' (c + 1) v' (xs ++ [x]) fs := by
  refine ⟨by simp [h.len], by rw [flCells_app]; exact ho, fun k hk2 => ?_, ?_⟩
  · by_cases e : k = c
    · subst e
      have : (xs ++ [x]).getD k fl0 = x := by simp [List.getD, ← h.len]
      rw [this]
      exact hx.keep h.o hk
    · have : (xs ++ [x]).getD k fl0 = xs.getD k fl0 := by
        have h2 := h.len
        simp [List.getD, List.getElem?_append, show k < xs.length by omega]
      rw [this]
      exact (h.ok k (by omega)).keep h.o hk
  · refine h.b.trans (hk.below h.b.size (fun k hk2 e => ?_))
    have := (row_cells h.o e).1
    omega
set_option maxHeartbeats 4000000 in
theorem many_any {ao : Option Addr} {cp : Nat} {fs : List Fl} (hr : RdFs w ao fs) (hi : ∀ k, k < fs.length → (fs.getD k fl0).In w) (hn : fs.length ≤ 1048576) : Calls Try.prog 7 #[.slice ao fs.length cp] w fun e w' => ∃ a c xs, e = .returned (.slice a (xs : List Fl).length c) ∧ cos xs = cos fs ∧ RdFs w' a xs ∧ xs.length ≤ c ∧ c ≤ 9223372036854775807 ∧ Below w.heap.size w w' := by
  have HR : Hid (RdFs w ao fs) := hr
  have HI : Hid (∀ k, k < fs.length → (fs.getD k fl0).In w) := hi
  generalize hL : fs.length = L at *
  have HLe : Hid (fs.length = L) := hL
  obtain ⟨ii, ihi, ihz0, ihz1, ihz2⟩ := flush_info
  clear hr hi hL
  generalize hW0 : w.alloc (.cells #[] 35) = W0
  have HT0 : Hid (My w W0 0 (.slice (some ⟨w.heap.size, 0, none⟩) 0 0) [] fs) := ⟨rfl, hW0 ▸ World.ownsRow_made w #[] 0 (by omega) (Nat.zero_le _) (by simp), fun k hk => by omega, hW0 ▸ balloc (Below.refl _ _)⟩
  go_enter Try.func7, Try.ntmps7
  go_wp2
  clear hW0
  go_loopw [3, 4] (fun mv i wr => ∃ c : Nat, ∃ xs, c ≤ L ∧ i = .int .i64 c ∧ (∃ ma mc, mv = .slice (some ma) c mc) ∧ My w wr c mv xs fs) (fun _ i _ => L - (intOf i).toNat)
  case atStart => exact ⟨0, [], Nat.zero_le _, rfl, ⟨_, _, rfl⟩, HT0.out⟩
  case round =>
    obtain ⟨c, xs, hc, rfl, ⟨ma, mc, rfl⟩, ht⟩ := hrel
    have HT : Hid (My w wr c (.slice (some ma) c mc) xs fs) := ht
    clear ht HT0
    have i1 : (0 : Int) ≤ (c : Int) := Int.natCast_nonneg _
    by_cases hlt : c < L
    · obtain ⟨b, off, rfl, hcc⟩ := (HR.out.still HT.out.b).at (i := c) (by rw [HLe.out]; exact hlt)
      have HC : Hid (wr.rangeAt b (off + c * 7) (fs.getD c fl0).cs) := hcc
      have HM := one_any ((HI.out c hlt).still HT.out.b)
      clear hcc
      have i2 : (c : Int) < (L : Int) := by omega
      generalize hf : fs.getD c fl0 = f at HC HM
      have Hf : Hid (fs.getD c fl0 = f) := hf
      clear hf
      have Hl7 : Hid (f.cs.length = 7) := rfl
      go_wp2_with (first
        | (refine load_mid 35 (.tmp 15) HC.out _ Try.underlying35 rfl (by rw [Hl7.out]; exact info_flush) rfl rfl rfl ?_)
        | (go_at_call 11; refine HM.mono ?_; rintro e V ⟨x, rfl, hx, hbv⟩; have HX : Hid (OnOk V x f) := hx; have HBV : Hid (Below wr.heap.size wr V) := hbv; clear hx hbv)
        | (refine wl_bsl rfl 22 35 1 _ rfl Try.underlying22 x.cs.toArray (bsl_eq (by kernel_rfl) (bFl x)) ?_; intro Z1 kz1 bz1 sz1; have KZ1 : Hid _ := kz1; have BZ1 : Hid (Below V.heap.size V Z1) := bz1; have HTz : Hid (My w Z1 c (.slice (some ma) c mc) xs fs) := (HT.out.still HBV.out).still bz1; clear kz1 bz1 sz1)
        | (refine app_g rfl _ _ 22 rfl w.heap.size 35 ii (.agg #[.int .i64 0, .int .i64 0, .int .i64 0, .int .i64 0, .int .i64 0, .slice none 0 0, .slice none 0 0]) 7 88 Try.underlying22 ihi ihz0 ihz1 ihz2 rfl (by omega) (.slice (some ma) c mc) c (flCells xs) rfl HTz.out.o (some ⟨V.heap.size, 0, none⟩) 1 1 x.cs rfl (fun h => by cases h) rfl (fun ad had j u hu => by cases had; rw [Addr.add_lit, Nat.zero_add, blk_cell KZ1.out]; simpa using hu) (by intro u hu; simp only [Fl.cs, List.mem_cons, List.not_mem_nil, or_false] at hu; rcases hu with rfl | rfl | rfl | rfl | rfl | rfl | rfl <;> rfl) (by unfold maxLen; omega) (by omega) HTz.out.b.size ?_; intro v2 Z2 ho2 hk2 hob2)
        | fail)
      have HT2 : Hid (My w Z2 (c + 1) v2 (xs ++ [x]) fs) := HTz.out.app (by rw [Hf.out]; exact HX.out.still BZ1.out) ho2.out hk2.out
      refine ⟨⟨c + 1, xs ++ [x], by omega, by go_num, ?_, HT2.out⟩, by simp [intOf]; omega⟩
      rcases HT2.out.o.2 with ⟨_, e⟩ | ⟨g, cap, cur, e, _⟩
      · omega
      · exact ⟨_, _, e⟩
    · obtain rfl : c = L := by omega
      go_wp2
      go_ret
      refine ⟨some ma, mc, xs, by rw [HT.out.len]; rfl, ?_, ⟨?_, fun i hi => ?_⟩, ?_, ?_, HT.out.b⟩
      · refine List.ext_getElem? (fun i => ?_)
        unfold cos
        rw [List.getElem?_map, List.getElem?_map]
        by_cases hi : i < c
        · have h1 := (HT.out.ok i hi).ce
          have l1 := HT.out.len
          have l2 := HLe.out
          simp only [List.getD, List.getElem?_eq_getElem (show i < xs.length by omega), List.getElem?_eq_getElem (show i < fs.length by omega), Option.getD_some, Option.map_some] at h1 ⊢
          rw [h1]
        · rw [List.getElem?_eq_none (by have := HT.out.len; omega), List.getElem?_eq_none (by have := HLe.out; omega)]
      · have := own_row HT.out.o (fun i hi => flCells_at _ i (by rw [HT.out.len]; exact hi))
        rw [HT.out.len]
        exact this
      · have hi' : i < c := by rw [← HT.out.len]; exact hi
        exact (HT.out.ok i hi').rd (HI.out i hi').rd
      · rcases HT.out.o.2 with ⟨e, _⟩ | ⟨g, cap, cur, e, _, _, h1, _⟩
        · cases e
        · simp at e
          have := HT.out.len
          omega
      · rcases HT.out.o.2 with ⟨e, _⟩ | ⟨g, cap, cur, e, _, _, _, h1, _⟩
        · cases e
        · simp at e
          unfold maxLen at h1
          omega
set_option maxHeartbeats 4000000 in
theorem many_my {ao : Option Addr} {cp : Nat} {fs : List Fl} (hr : RdFs w ao fs) (hi : ∀ k, k < fs.length → (fs.getD k fl0).In w) (hn : fs.length ≤ 1048576) : Calls Try.prog 7 #[.slice ao fs.length cp] w fun e w' => ∃ a c xs, e = .returned (.slice (some a) fs.length c) ∧ My w w' fs.length (.slice (some a) fs.length c) xs fs := by
  have HR : Hid (RdFs w ao fs) := hr
  have HI : Hid (∀ k, k < fs.length → (fs.getD k fl0).In w) := hi
  generalize hL : fs.length = L at *
  have HLe : Hid (fs.length = L) := hL
  obtain ⟨ii, ihi, ihz0, ihz1, ihz2⟩ := flush_info
  clear hr hi hL
  generalize hW0 : w.alloc (.cells #[] 35) = W0
  have HT0 : Hid (My w W0 0 (.slice (some ⟨w.heap.size, 0, none⟩) 0 0) [] fs) := ⟨rfl, hW0 ▸ World.ownsRow_made w #[] 0 (by omega) (Nat.zero_le _) (by simp), fun k hk => by omega, hW0 ▸ balloc (Below.refl _ _)⟩
  go_enter Try.func7, Try.ntmps7
  go_wp2
  clear hW0
  go_loopw [3, 4] (fun mv i wr => ∃ c : Nat, ∃ xs, c ≤ L ∧ i = .int .i64 c ∧ (∃ ma mc, mv = .slice (some ma) c mc) ∧ My w wr c mv xs fs) (fun _ i _ => L - (intOf i).toNat)
  case atStart => exact ⟨0, [], Nat.zero_le _, rfl, ⟨_, _, rfl⟩, HT0.out⟩
  case round =>
    obtain ⟨c, xs, hc, rfl, ⟨ma, mc, rfl⟩, ht⟩ := hrel
    have HT : Hid (My w wr c (.slice (some ma) c mc) xs fs) := ht
    clear ht HT0
    have i1 : (0 : Int) ≤ (c : Int) := Int.natCast_nonneg _
    by_cases hlt : c < L
    · obtain ⟨b, off, rfl, hcc⟩ := (HR.out.still HT.out.b).at (i := c) (by rw [HLe.out]; exact hlt)
      have HC : Hid (wr.rangeAt b (off + c * 7) (fs.getD c fl0).cs) := hcc
      have HM := one_any ((HI.out c hlt).still HT.out.b)
      clear hcc
      have i2 : (c : Int) < (L : Int) := by omega
      generalize hf : fs.getD c fl0 = f at HC HM
      have Hf : Hid (fs.getD c fl0 = f) := hf
      clear hf
      have Hl7 : Hid (f.cs.length = 7) := rfl
      go_wp2_with (first
        | (refine load_mid 35 (.tmp 15) HC.out _ Try.underlying35 rfl (by rw [Hl7.out]; exact info_flush) rfl rfl rfl ?_)
        | (go_at_call 11; refine HM.mono ?_; rintro e V ⟨x, rfl, hx, hbv⟩; have HX : Hid (OnOk V x f) := hx; have HBV : Hid (Below wr.heap.size wr V) := hbv; clear hx hbv)
        | (refine wl_bsl rfl 22 35 1 _ rfl Try.underlying22 x.cs.toArray (bsl_eq (by kernel_rfl) (bFl x)) ?_; intro Z1 kz1 bz1 sz1; have KZ1 : Hid _ := kz1; have BZ1 : Hid (Below V.heap.size V Z1) := bz1; have HTz : Hid (My w Z1 c (.slice (some ma) c mc) xs fs) := (HT.out.still HBV.out).still bz1; clear kz1 bz1 sz1)
        | (refine app_g rfl _ _ 22 rfl w.heap.size 35 ii (.agg #[.int .i64 0, .int .i64 0, .int .i64 0, .int .i64 0, .int .i64 0, .slice none 0 0, .slice none 0 0]) 7 88 Try.underlying22 ihi ihz0 ihz1 ihz2 rfl (by omega) (.slice (some ma) c mc) c (flCells xs) rfl HTz.out.o (some ⟨V.heap.size, 0, none⟩) 1 1 x.cs rfl (fun h => by cases h) rfl (fun ad had j u hu => by cases had; rw [Addr.add_lit, Nat.zero_add, blk_cell KZ1.out]; simpa using hu) (by intro u hu; simp only [Fl.cs, List.mem_cons, List.not_mem_nil, or_false] at hu; rcases hu with rfl | rfl | rfl | rfl | rfl | rfl | rfl <;> rfl) (by unfold maxLen; omega) (by omega) HTz.out.b.size ?_; intro v2 Z2 ho2 hk2 hob2)
        | fail)
      have HT2 : Hid (My w Z2 (c + 1) v2 (xs ++ [x]) fs) := HTz.out.app (by rw [Hf.out]; exact HX.out.still BZ1.out) ho2.out hk2.out
      refine ⟨⟨c + 1, xs ++ [x], by omega, by go_num, ?_, HT2.out⟩, by simp [intOf]; omega⟩
      rcases HT2.out.o.2 with ⟨_, e⟩ | ⟨g, cap, cur, e, _⟩
      · omega
      · exact ⟨_, _, e⟩
    · obtain rfl : c = L := by omega
      go_wp2
      go_ret
      exact ⟨ma, mc, xs, rfl, HT.out⟩
end
end Go.Proofs.Ytpkcgjnaegaecaa.Fm
