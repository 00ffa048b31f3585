import Derived.Test.YtnhhjelplmdloaaZ40
namespace Go.Proofs.Ytnhhjelplmdloaa.Et
open Go.RowKit Go.Maps
set_option linter.unusedVariables false
set_option linter.unusedSimpArgs false
set_option maxRecDepth 100000
section
variable {E E1 E' : En} {w w' w1 w2 w3 : World} {B K m : Nat} {bb : Nat} {sv dv bv cv : Value} {es : List Be}
theorem rd_keep {P : Nat → Prop} {ao : Option Addr} {n c : Nat} {bs : List Int} (h : Rd w ao n c bs) (k : Kept w w' P) (hp : ∀ b, (Value.slice ao n c).ownBlock = some b → ¬ P b) : Rd w' ao n c bs := ⟨h.1, h.2.1, h.2.2.1.imp id (fun ⟨b, off, e, hc⟩ => ⟨b, off, e, fun i hi => kcell k (hc i hi) (hp b (by rw [e]; rfl))⟩), h.2.2.2⟩
theorem bar_zero {p q : Nat} (h : barE E p q = 0) : E.cut p q = false ∧ E.up q = true := by
  unfold barE at h
  cases h1 : E.cut p q <;> cases h2 : E.up q <;> simp_all
theorem open_yes (h : E.Ok w B m) {f : Fx} {p q : Nat} (h1 : f.src = p) (h2 : f.dst = q) (hp : p < E.nn) (hq : q < E.nn) (hpq : p ≠ q) (hc : E.cut p q = false) : Calls Try.prog 30 #[.pointer (some ⟨E.b, 0, none⟩), .int .i64 f.src, .int .i64 f.dst] w fun e w' => e = .returned (.bool true) ∧ Below w.heap.size w w' := by
  have := open_any h f.src f.dst
  rw [h1, h2, isP_nat hp hq hpq] at this
  simp [hc] at this
  rw [h1, h2]
  exact this
theorem up_yes (h : E.Ok w B m) {f : Fx} {q : Nat} (h2 : f.dst = q) (hq : q < E.nn) (hc : E.up q = true) : Calls Try.prog 13 #[.pointer (some ⟨E.b, 0, none⟩), .int .i64 f.dst] w fun e w' => e = .returned (.bool true) ∧ w = w' := by
  have := up_at h q hq
  rw [hc] at this
  rw [h2]
  exact this
def Came (w0 Z : World) (E : En) (B K bb : Nat) (f : Fx) (G : Nat) : Prop := Calls Try.prog 10 #[.pointer (some ⟨bb, 0, none⟩), .agg f.cs] Z fun e w3 => e = .returned (.bool true) ∧ (∀ (j : Nat) (o : Obj), G ≤ j → Z.heap[j]? = some o → w3.heap[j]? = some o) ∧ Calls Try.prog 30 #[.pointer (some ⟨E.b, 0, none⟩), .int .i64 f.src, .int .i64 f.dst] w3 fun e w4 => e = .returned (.bool true) ∧ (∀ (j : Nat) (o : Obj), G ≤ j → Z.heap[j]? = some o → w4.heap[j]? = some o) ∧ Calls Try.prog 13 #[.pointer (some ⟨E.b, 0, none⟩), .int .i64 f.dst] w4 fun e w5 => e = .returned (.bool true) ∧ w4 = w5 ∧ RunQ w0 w5 E B K bb
theorem take_y {X : World} (h : Jm X E B K bb sv dv bv cv es) (hK : K ≤ 2199023255551) (p : Int) : Calls Try.prog 19 (aN E.b p) X fun e w2 => ∃ f : Fx, ∃ y, e = .returned (.tuple #[.agg f.cs, .int .i64 y]) ∧ Kept X w2 E.own ∧ ((y ≠ 0 ∧ ∀ Z, Below w2.heap.size w2 Z → RunQ X Z E B K bb) ∨ (y = 0 ∧ ∀ Z, Below w2.heap.size w2 Z → Came X Z E B K bb f w2.heap.size)) := by
  have hfew := h.few
  by_cases hk : 0 ≤ p ∧ p < E.fs.length
  · obtain ⟨h0, h1⟩ := hk
    obtain ⟨i, rfl⟩ : ∃ i : Nat, p = i := ⟨p.toNat, by omega⟩
    have hi : i < E.fs.length := by omega
    have hm := mem_getD hi
    obtain ⟨a, q, ha, hq, han, hqn, haq⟩ := h.e.pth _ hm
    by_cases hb0 : barE E a q = 0
    · refine (take_ok h.e i hi hfew a q ha hq han hqn hb0).mono ?_
      rintro e w2 ⟨rfl, ⟨a', c', st⟩, hrd⟩
      refine ⟨_, 0, rfl, st.kept, .inr ⟨rfl, fun Z hZ => ?_⟩⟩
      have g : Go1 X w2 E { E with va := a', vc := c', fs := E.fs.eraseIdx i } B K := ⟨⟨_, st, by omega⟩, ⟨inv_sub h.i a' c' _ (List.eraseIdx_sublist _ _), rfl, rfl, rfl⟩, rfl⟩
      have hh := (h.go1 g).still hZ
      have hlow : Below B X Z := (g.low h).trans (hZ.mono (h.go1 g).hB)
      obtain ⟨k, hk, hid, he1, he2, he3, he4⟩ := h.r.en _ hm
      have hrel : Rel { E with va := a', vc := c', fs := E.fs.eraseIdx i } (es.set k (es.getD k e0).cm) := Rel.come (E1 := { E with va := a', vc := c', fs := E.fs.eraseIdx i }) h.r rfl (fun f hf => by
        have := mem_erase h.i.ids hi hf
        exact ⟨this.1, by rw [← hid]; exact this.2⟩) _
      obtain ⟨hcut, hup⟩ := bar_zero hb0
      have hlen := h.len
      have hbo : ∀ b, (Value.slice (E.fs.getD i f0).a (E.fs.getD i f0).n (E.fs.getD i f0).c).ownBlock = some b → ¬ Bo bb sv dv bv cv b := fun b hb e => h.d b (.inr (.inr (.inr (.inr (.inr ⟨_, hm, hb⟩))))) (.inl e)
      refine (comes_any hh.b hk hid ⟨he1, he2, he3, he4⟩ (fun Y hY => rd_keep (hrd.still hZ) hY hbo) (by omega)).mono ?_
      rintro e w3 ⟨rfl, hb3, hk3⟩
      have hl3 : Below B Z w3 := low_of hh.b hh.hB hk3
      have hfar : ∀ (j : Nat) (o : Obj), w2.heap.size ≤ j → Z.heap[j]? = some o → w3.heap[j]? = some o := fun j o hj ho => hk3.obj ho (fun e => by have := BkO.lt (h.go1 g).b (.inl e); omega)
      have hJ3 := (hh.come hb3 hk3).done hrel
      refine ⟨rfl, hfar, (open_yes (f := E.fs.getD i f0) hJ3.e ha hq han hqn haq hcut).mono ?_⟩
      rintro e w4 ⟨rfl, hb4⟩
      have hJ4 := hJ3.still hb4
      refine ⟨rfl, fun j o hj ho => (hb4.block j (lt_heap (hfar j o hj ho))).trans (hfar j o hj ho), (up_yes (f := E.fs.getD i f0) hJ4.e hq hqn hup).mono ?_⟩
      rintro e w5 ⟨rfl, rfl⟩
      exact ⟨rfl, rfl, _, _, _, _, _, _, hJ4, rfl, rfl, (hlow.trans hl3).trans (hb4.mono hJ3.hB)⟩
    · refine (take_bar h.e i hi a q ha hq han hqn hb0).mono ?_
      rintro e w2 ⟨rfl, hb2⟩
      exact ⟨f0, _, rfl, Kept.ofBelow hb2 _, .inl ⟨hb0, fun Z hZ => runq_none h (bstep hb2 hZ)⟩⟩
  · refine (take_none h.e p hk).mono ?_
    rintro e w2 ⟨rfl, hb2⟩
    exact ⟨f0, 34, rfl, Kept.ofBelow hb2 _, .inl ⟨by decide, fun Z hZ => runq_none h (bstep hb2 hZ)⟩⟩
set_option maxHeartbeats 1000000 in
theorem run_take (h : Jm w E B K bb sv dv bv cv es) (hK : K ≤ 2199023255551) (o : Opx) (hk : o.k = 12) : Calls Try.prog 11 #[.pointer (some ⟨bb, 0, none⟩), .pointer (some ⟨E.b, 0, none⟩), .agg o.cs] w fun e w' => e = .returned (.bool true) ∧ RunQ w w' E B K bb := by
  generalize hW : w.alloc (.cells o.cs 46) = W
  have hbW : Below w.heap.size w W := by rw [← hW]; exact balloc (Below.refl _ w)
  have hblk : W.heap[w.heap.size]? = some (.cells o.cs 46 (0, 0)) := by rw [← hW]; exact heap_alloc_new w _
  obtain ⟨d0, d1, d2, d3, d4, d5⟩ := op_cells hblk
  have Hb : Hid (Below w.heap.size w W) := hbW
  have hlow : Below B w W := hbW.mono h.hB
  have hJ := h.still hbW
  have Hlow : Hid (Below B w W) := hlow
  have HF : Hid (Calls Try.prog 15 #[.pointer (some ⟨E.b, 0, none⟩)] W fun e w1 => ∃ a n c, e = .returned (.slice a n c) ∧ Below W.heap.size W w1) := (flights2_any hJ.e hJ.few hJ.i.szE).mono fun e w1 ⟨a, L, x1, x2, x3, x4⟩ => ⟨a, _, _, x1, x4⟩
  have HOb : Hid (∀ X : World, X.heap[w.heap.size]? = some (.cells o.cs 46 (0, 0)) → X.cell? ⟨w.heap.size, 0, none⟩ = some (.int .i64 o.k) ∧ X.cell? ⟨w.heap.size, 1, none⟩ = some (.int .i64 o.p) ∧ X.cell? ⟨w.heap.size, 2, none⟩ = some (.int .i64 o.q) ∧ X.cell? ⟨w.heap.size, 3, none⟩ = some (.int .i64 o.n) ∧ X.cell? ⟨w.heap.size, 4, none⟩ = some (.slice o.ba o.bn o.bc) ∧ X.cell? ⟨w.heap.size, 5, none⟩ = some (.slice o.sa o.sn o.sc)) := fun X hX => op_cells hX
  have HBk : Hid (W.heap[w.heap.size]? = some (.cells o.cs 46 (0, 0))) := hblk
  have HT : Hid (∀ X, Below W.heap.size W X → X.heap[w.heap.size]? = some (.cells o.cs 46 (0, 0)) → Calls Try.prog 19 #[.pointer (some ⟨E.b, 0, none⟩), .int .i64 o.p] X fun e w2 => ∃ f : Fx, ∃ y, e = .returned (.tuple #[.agg f.cs, .int .i64 y]) ∧ w2.heap[w.heap.size]? = some (.cells o.cs 46 (0, 0)) ∧ ((y ≠ 0 ∧ ∀ Z, Below w2.heap.size w2 Z → RunQ w Z E B K bb) ∨ (y = 0 ∧ ∀ Z, Below w2.heap.size w2 Z → Came w Z E B K bb f w2.heap.size))) := by
    intro X hX hblX
    have hlX : Below B w X := hlow.trans (hX.mono hJ.hB)
    have hno : ¬ E.own w.heap.size := fun e => by have := h.e.ltOwn e; omega
    refine (take_y (hJ.still hX) hK o.p).mono ?_
    rintro e w2 ⟨f, y, rfl, kp, hr⟩
    refine ⟨f, y, rfl, kp.obj hblX hno, ?_⟩
    rcases hr with ⟨hy, hr⟩ | ⟨hy, hr⟩
    · exact .inl ⟨hy, fun Z hZ => (hr Z hZ).pre hlX⟩
    · exact .inr ⟨hy, fun Z hZ => (hr Z hZ).mono fun e w3 ⟨x1, x2, x3⟩ => ⟨x1, x2, x3.mono fun e w4 ⟨y1, y2, y3⟩ => ⟨y1, y2, y3.mono fun e w5 ⟨z1, z2, z3⟩ => ⟨z1, z2, z3.pre hlX⟩⟩⟩⟩
  unfold Opx.cs at hW ⊢
  clear hbW hblk hlow d0 d1 d2 d3 d4 d5
  rw [hk] at hW ⊢
  clear h hJ
  go_enter Try.func11, Try.ntmps11
  go_wp2_with (fail)
  refine HF.out.mono ?_
  rintro e w1 ⟨fa, fn, fc, rfl, hb1⟩
  have hk1 : w1.heap[w.heap.size]? = some (.cells o.cs 46 (0, 0)) := (hb1.block _ (lt_heap HBk.out)).trans HBk.out
  obtain ⟨d0, d1, d2, d3, d4, d5⟩ := HOb.out w1 hk1
  have Hk1 : Hid (w1.heap[w.heap.size]? = some (.cells o.cs 46 (0, 0))) := hk1
  have Hb1 : Hid (Below W.heap.size W w1) := hb1
  clear hk1 hb1 HF
  have HP1 := HT.out w1 Hb1.out Hk1.out
  clear HT
  rw [hk] at d0
  go_wp2_with (fail)
  all_goals first | (exfalso; omega) | skip
  refine HP1.mono ?_
  rintro e w2 ⟨f, y, rfl, hk2, hr⟩
  have Hk2 : Hid (w2.heap[w.heap.size]? = some (.cells o.cs 46 (0, 0))) := hk2
  have Hlt : Hid (w.heap.size < w2.heap.size) := lt_heap hk2
  clear hk2 HP1 d0 d1 d2 d3 d4 d5
  have Hr : Hid ((y ≠ 0 ∧ ∀ Z, Below w2.heap.size w2 Z → RunQ w Z E B K bb) ∨ (y = 0 ∧ ∀ Z, Below w2.heap.size w2 Z → Came w Z E B K bb f w2.heap.size)) := hr
  clear hr
  go_upto_region 16 with (first
    | (refine wl_allocZ rfl 43 rfl zFl ?_; intro W1 k1 b1 s1; have K1 : Hid (W1.heap[w2.heap.size]? = some (.cells f0.cs 43 (0, 0))) := k1; have B1 : Hid (Below w2.heap.size w2 W1) := b1; clear k1 b1 s1)
    | (refine wl_storeZ rfl 43 _ _ rfl (L := f.cs.toList) rfl rfl K1.out iFl rfl (fx_one f) ?_; intro W2 k2 kk2; have K2 : Hid (W2.heap[w2.heap.size]? = some (.cells f.cs 43 (0, 0))) := k2; have KK2 : Hid (Mb.Kept W1 W2 (fun j => j = w2.heap.size)) := kk2; clear k2 kk2)
    | fail)
  have B2 : Hid (Below w2.heap.size w2 W2) := (show Below w2.heap.size w2 W2 from B1.out.trans (KK2.out.below B1.out.size (fun q hq e => by have e' : q = w2.heap.size := e; omega)))
  clear K1 KK2 B1
  have hk3 := (B2.out.block _ Hlt.out).trans Hk2.out
  have d0 := (HOb.out W2 hk3).1
  rw [hk] at d0
  have HRw : Hid (W2.rangeAt w2.heap.size 0 f.cs.toList) := Ln.blk_range K2.out
  rcases Hr.out with ⟨hy, hr⟩ | ⟨hy, hr⟩
  · have HR : Hid (RunQ w W2 E B K bb) := hr W2 B2.out
    clear Hr hr hk3 HRw K2
    go_wp2_with (fail)
    all_goals first | (exfalso; omega) | (go_ret; exact ⟨by simp [hy], HR.out⟩)
  · have hc := hr W2 B2.out
    unfold Came at hc
    subst hy
    clear Hr hr hk3
    go_wp2_with (first | (refine Ln.load_mid 43 _ HRw.out _ Try.underlying43 rfl iFl rfl rfl rfl ?_) | fail)
    refine hc.mono ?_
    rintro e w3 ⟨rfl, hf3, hc3⟩
    have k3 := hf3 _ _ (Nat.le_refl _) K2.out
    have e1 := blk_cell k3 1
    have e2 := blk_cell k3 2
    simp only [Fx.cs, List.getElem?_toArray, List.getElem?_cons_succ, List.getElem?_cons_zero] at e1 e2
    clear hf3 k3
    go_wp2_with (fail)
    refine hc3.mono ?_
    rintro e w4 ⟨rfl, hf4, hc4⟩
    have k4 := hf4 _ _ (Nat.le_refl _) K2.out
    have e1 := blk_cell k4 1
    have e2 := blk_cell k4 2
    simp only [Fx.cs, List.getElem?_toArray, List.getElem?_cons_succ, List.getElem?_cons_zero] at e1 e2
    clear hf4 k4
    go_wp2_with (fail)
    refine hc4.mono ?_
    rintro e w5 ⟨rfl, rfl, hr⟩
    go_wp2_with (fail)
    go_ret
    exact ⟨rfl, hr⟩
end
end Go.Proofs.Ytnhhjelplmdloaa.Et
namespace Go.Proofs.Ytnhhjelplmdloaa.Et
open Go.RowKit Go.Maps
set_option linter.unusedVariables false
set_option linter.unusedSimpArgs false
set_option maxRecDepth 100000
section
variable {E E1 E' : En} {w w' w1 w2 w3 : World} {B K m : Nat} {bb : Nat} {sv dv bv cv : Value} {es : List Be}
structure Rf9 (E1 : En) (L : List Fx) (n : Nat) : Prop where
  len : L.length = n
  ids : (L.map Fx.id).Pairwise (fun a b => a < b)
  far : ∀ f ∈ E1.fs, ∀ j, j < n → f.id ≠ (L.getD j f0).id
  way : ∀ j, j < n → ∃ p q : Nat, (L.getD j f0).src = p ∧ (L.getD j f0).dst = q ∧ p < E1.nn ∧ q < E1.nn ∧ p ≠ q ∧ E1.cut p q = false ∧ E1.up q = true ∧ (L.getD j f0).due = E1.clock
structure Rs9 (w0 X : World) (E1 : En) (B K bb G : Nat) (sv dv bv cv : Value) (L : List Fx) (a : Option Addr) (n c i : Nat) (es : List Be) : Prop where
  h : Jh X E1 B K bb sv dv bv cv es
  la : E1.last = es.length
  en : ∀ f ∈ E1.fs, Ent es f
  ent : ∀ j, i ≤ j → j < n → Ent es (L.getD j f0)
  row : X.ownsRow G 43 5 (.slice a n c) n (flCells L)
  g : ∀ j, BkO bb sv dv bv cv es j → j < G
  rd : ∀ j, j < n → Rd X (L.getD j f0).a (L.getD j f0).n (L.getD j f0).c (L.getD j f0).bs
  rb : ∀ j, j < n → ∀ b, (Value.slice (L.getD j f0).a (L.getD j f0).n (L.getD j f0).c).ownBlock = some b → ¬ BkO bb sv dv bv cv es b
  low : Below B w0 X
variable {w0 X Y : World} {G n c i : Nat} {a : Option Addr} {L : List Fx}
theorem Rs9.still (s : Rs9 w0 X E1 B K bb G sv dv bv cv L a n c i es) (hb : Below X.heap.size X Y) : Rs9 w0 Y E1 B K bb G sv dv bv cv L a n c i es := ⟨s.h.still hb, s.la, s.en, s.ent, own_still s.row hb, s.g, fun j hj => (s.rd j hj).still hb, s.rb, s.low.trans (hb.mono s.h.hB)⟩
theorem Rs9.cells (s : Rs9 w0 X E1 B K bb G sv dv bv cv L a n c i es) (hf : Rf9 E1 L n) (hn : 0 < n) : ∃ g, a = some ⟨g, 0, none⟩ ∧ ∀ k, k < n → X.rangeAt g (k * 5) (L.getD k f0).cs.toList := by
  rcases row_cells s.row hf.len with h0 | ⟨g, rfl, hc⟩
  · omega
  · refine ⟨g, rfl, fun k hk j v hv => ?_⟩
    have hj : j < 5 := (List.getElem?_eq_some_iff.1 hv).1
    rw [hc k hk j hj, ← hv]
    simp
theorem Rs9.step (s : Rs9 w0 X E1 B K bb G sv dv bv cv L a n c i es) (hf : Rf9 E1 L n) (hi : i < n) (hes : es.length ≤ 2199023255552) : Calls Try.prog 10 #[.pointer (some ⟨bb, 0, none⟩), .agg (L.getD i f0).cs] X fun e w3 => e = .returned (.bool true) ∧ ∃ es', es'.length = es.length ∧ Rs9 w0 w3 E1 B K bb G sv dv bv cv L a n c (i + 1) es' := by
  obtain ⟨k, hk, hid, he⟩ := s.ent i (Nat.le_refl _) hi
  refine (comes_any s.h.b hk hid he (fun Z hZ => rd_keep (s.rd i hi) hZ (fun b hb e => s.rb i hi b hb (.inl e))) hes).mono ?_
  rintro e w3 ⟨rfl, hb3, hk3⟩
  have hBk : ∀ j, BkO bb sv dv bv cv (es.set k (es.getD k e0).cm) j → BkO bb sv dv bv cv es j := fun j hj => hj.set (by rfl)
  refine ⟨rfl, _, List.length_set, s.h.come hb3 hk3, by rw [s.la, List.length_set], fun f hf' => (s.en f hf').set _ (by rw [← hid]; exact hf.far f hf' i hi), fun j hj hjn => (s.ent j (by omega) hjn).set _ (by rw [← hid]; exact ids_ne hf.ids (by rw [hf.len]; exact hjn) (by rw [hf.len]; exact hi) (by omega)), hk3.owns s.row (fun j hj e => ?_), fun j hj => s.g j (hBk j hj), fun j hj => rd_keep (s.rd j hj) hk3 (fun b hb e => s.rb j hj b hb (.inl e)), fun j hj b hb e => s.rb j hj b hb (hBk b e), s.low.trans (low_of s.h.b s.h.hB hk3)⟩
  have h1 := (World.ownsRow.lt s.row j hj).1
  have h2 := s.g j (.inl e)
  omega
theorem Rs9.opens (s : Rs9 w0 X E1 B K bb G sv dv bv cv L a n c i es) (hf : Rf9 E1 L n) {j : Nat} (hj : j < n) : Calls Try.prog 30 #[.pointer (some ⟨E1.b, 0, none⟩), .int .i64 (L.getD j f0).src, .int .i64 (L.getD j f0).dst] X fun e w' => e = .returned (.bool true) ∧ Below X.heap.size X w' := by
  obtain ⟨p, q, h1, h2, h3, h4, h5, h6, h7, h8⟩ := hf.way j hj
  exact open_yes (f := L.getD j f0) s.h.e h1 h2 h3 h4 h5 h6
theorem Rs9.ups (s : Rs9 w0 X E1 B K bb G sv dv bv cv L a n c i es) (hf : Rf9 E1 L n) {j : Nat} (hj : j < n) : Calls Try.prog 13 #[.pointer (some ⟨E1.b, 0, none⟩), .int .i64 (L.getD j f0).dst] X fun e w' => e = .returned (.bool true) ∧ X = w' := by
  obtain ⟨p, q, h1, h2, h3, h4, h5, h6, h7, h8⟩ := hf.way j hj
  exact up_yes (f := L.getD j f0) s.h.e h2 h4 h7
theorem Rs9.clocks (s : Rs9 w0 X E1 B K bb G sv dv bv cv L a n c i es) (hf : Rf9 E1 L n) {j : Nat} (hj : j < n) : Calls Try.prog 31 #[.pointer (some ⟨E1.b, 0, none⟩)] X fun e w' => e = .returned (.int .i64 (L.getD j f0).due) ∧ X = w' := by
  obtain ⟨p, q, h1, h2, h3, h4, h5, h6, h7, h8⟩ := hf.way j hj
  rw [h8]
  exact clock_any s.h.e
theorem Rs9.ends (s : Rs9 w0 X E1 B K bb G sv dv bv cv L a n c n es) (hb : E1.b = E.b) (hn : E1.nn = E.nn) : RunQ w0 X E B K bb := ⟨E1, _, _, _, _, es, s.h.done ⟨s.la, s.en⟩, hb, hn, s.low⟩
theorem round_y (h : Jm X E B K bb sv dv bv cv es) (hK : K ≤ 2199023255551) : Calls Try.prog 9 #[.pointer (some ⟨E.b, 0, none⟩)] X fun e w2 => ∃ a n c L E1, e = .returned (.slice a n c) ∧ E1.b = E.b ∧ E1.nn = E.nn ∧ n ≤ 20000 ∧ Rf9 E1 L n ∧ Rs9 X w2 E1 B K bb X.heap.size sv dv bv cv L a n c 0 es ∧ n = (E.fs.filter (comes E)).length := by
  have hfew := h.few
  refine (round_any2 h.e h.hB hfew).mono ?_
  rintro e w2 ⟨a, n, c, rfl, ⟨L, hsub, hmap, hlen, hrow, hbyt⟩, st⟩
  have g : Go1 X w2 E { E with clock := ckN E, fs := E.fs.filter (stays E) } B K := ⟨⟨_, st, by omega⟩, ⟨inv_round h.i hK, rfl, rfl, rfl⟩, rfl⟩
  have hmem : ∀ j, j < n → L.getD j f0 ∈ E.fs := fun j hj => hsub.subset (mem_getD (by rw [hlen]; exact hj))
  have hcom : ∀ j, j < n → (L.getD j f0).due = ckN E ∧ barE E (L.getD j f0).src.toNat (L.getD j f0).dst.toNat = 0 := by
    intro j hj
    have h1 : (L.getD j f0).d ∈ L.map Fx.d := List.mem_map_of_mem (mem_getD (by rw [hlen]; exact hj))
    rw [hmap] at h1
    obtain ⟨x, hx, hd⟩ := List.mem_map.1 h1
    have hc := (List.mem_filter.1 hx).2
    unfold comes at hc
    simp only [Bool.and_eq_true, decide_eq_true_eq] at hc
    have e1 : x.due = (L.getD j f0).due := congrArg Fd.due hd
    have e2 : x.src = (L.getD j f0).src := congrArg Fd.src hd
    have e3 : x.dst = (L.getD j f0).dst := congrArg Fd.dst hd
    rw [← e1, ← e2, ← e3]
    exact hc
  refine ⟨a, n, c, L, { E with clock := ckN E, fs := E.fs.filter (stays E) }, rfl, rfl, rfl, ?_, ⟨hlen, h.i.ids.sublist (hsub.map _), ?_, ?_⟩, ⟨h.go1 g, h.r.la, fun f hf => h.r.en f (List.mem_filter.1 hf).1, fun j _ hj => h.r.en _ (hmem j hj), hrow, fun j hj => BkO.lt h.b hj, fun j hj => (hbyt _ (mem_getD (by rw [hlen]; exact hj))).rd, fun j hj b hb e => h.d b (.inr (.inr (.inr (.inr (.inr ⟨_, hmem j hj, hb⟩))))) e, g.low h⟩, by have h9 := congrArg List.length hmap; rw [List.length_map, List.length_map] at h9; omega⟩
  · have := hsub.length_le
    omega
  · intro f hf j hj e
    obtain ⟨hf1, hf2⟩ := List.mem_filter.1 hf
    unfold stays at hf2
    have hf2 := of_decide_eq_true hf2
    obtain ⟨i1, hi1, rfl⟩ := mem_at hf1
    obtain ⟨i2, hi2, e2⟩ := mem_at (hmem j hj)
    by_cases hne : i1 = i2
    · subst hne
      rw [e2] at hf2
      exact hf2 (hcom j hj).1
    · exact ids_ne h.i.ids hi1 hi2 hne (by rw [e2]; exact e)
  · intro j hj
    obtain ⟨p, q, h1, h2, h3, h4, h5⟩ := h.e.pth _ (hmem j hj)
    obtain ⟨h6, h7⟩ := hcom j hj
    rw [h1, h2] at h7
    obtain ⟨h8, h9⟩ := bar_zero (p := p) (q := q) h7
    exact ⟨p, q, h1, h2, h3, h4, h5, h8, h9, h6⟩
end
end Go.Proofs.Ytnhhjelplmdloaa.Et
