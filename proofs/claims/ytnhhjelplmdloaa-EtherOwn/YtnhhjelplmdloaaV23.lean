import Derived.Test.YtnhhjelplmdloaaV22
import Derived.LoopN
namespace Go.Proofs.Ytnhhjelplmdloaa.Et
open Go.RowKit Go.Maps
set_option linter.unusedVariables false
set_option linter.unusedSimpArgs false
set_option maxRecDepth 100000
section
variable {E E' : En} {w w' W w1 wr wr' : World} {B B0 m g k : Nat} {L : List Value} {av : Value}
def RdO (B0 B : Nat) (E : En) (w : World) (a : Option Addr) (n c : Nat) (ds : List Fd) : Prop := ∃ L : List Fx, L.Sublist E.fs ∧ L.map Fx.d = ds ∧ L.length = n ∧ w.ownsRow B0 43 5 (.slice a n c) n (flCells L) ∧ ∀ f ∈ L, f.byt w B
theorem RdO.rdf {a : Option Addr} {n c : Nat} {ds : List Fd} (h : RdO B0 B E w a n c ds) : RdF w a n ds := by
  obtain ⟨L, h1, h2, h3, h4, h5⟩ := h
  exact ⟨L, h2, h3, fun f hf => (h5 f hf).rd, row_cells h4 h3⟩
theorem RdO.keep {P : Nat → Prop} {a : Option Addr} {n c : Nat} {ds : List Fd} (h : RdO B0 B E w a n c ds) (k : Kept w w' P) (h0 : ∀ j, B0 ≤ j → ¬ P j) (h1 : ∀ j, E.own j → ¬ P j) : RdO B0 B E w' a n c ds := by
  obtain ⟨L, h2, h3, h4, h5, h6⟩ := h
  exact ⟨L, h2, h3, h4, k.owns h5 (fun j hj => h0 j (World.ownsRow.lt h5 j hj).1), fun f hf => (h6 f hf).keep k (fun j hj => h1 j (.inr (.inr (.inr (.inr (.inr ⟨f, h2.subset hf, hj⟩))))))⟩
theorem RI.last2 {WC : World} {L' : List Value} (h0 : E.Ok w B m) (h : RI w wr E B m g k L av) (hva : (Value.slice E.va E.fs.length E.vc).ownBlock = some g) (hBg : B ≤ g) (hvc : E.vc ≤ maxLen) (hfk : (lefts E k).length ≤ E.vc) (kc : Kept wr WC (fun j => j = g)) (hg : WC.heap[g]? = some (.cells L'.toArray 43 (0, 0))) (hl : L'.length = E.vc * 5) (ht : L'.take ((lefts E k).length * 5) = flCells (lefts E k)) :
    Step w (WC.setCell ⟨E.b, 6, none⟩ (.slice (some ⟨g, 0, none⟩) (lefts E k).length E.vc)) E { E with clock := ckN E, va := some ⟨g, 0, none⟩, fs := lefts E k } B m ∧
    (∃ a n c, av = .slice a n c ∧ RdO w.heap.size B E (WC.setCell ⟨E.b, 6, none⟩ (.slice (some ⟨g, 0, none⟩) (lefts E k).length E.vc)) a n c ((arrs E k).map Fx.d) ∧ n = (arrs E k).length) := by
  have hgr := h0.row_ne hva
  have hko := h.ko.keep kc h.core
  have ks : Kept WC (WC.setCell ⟨E.b, 6, none⟩ (.slice (some ⟨g, 0, none⟩) (lefts E k).length E.vc)) (fun j => j = E.b) := kset WC E.b 6 _ rfl
  have k4 : Kept w (WC.setCell ⟨E.b, 6, none⟩ (.slice (some ⟨g, 0, none⟩) (lefts E k).length E.vc)) (fun j => j = g ∨ j = E.b) := (h.kept.trans (kc.mono (fun _ _ e => .inl e))).trans (ks.mono (fun _ _ e => .inr e))
  have kr : Kept wr (WC.setCell ⟨E.b, 6, none⟩ (.slice (some ⟨g, 0, none⟩) (lefts E k).length E.vc)) (fun j => j = g ∨ j = E.b) := (kc.mono (fun _ _ e => .inl e)).trans (ks.mono (fun _ _ e => .inr e))
  have hsub := lefts_sub E k
  have hbyt : ∀ f ∈ E.fs, f.byt (WC.setCell ⟨E.b, 6, none⟩ (.slice (some ⟨g, 0, none⟩) (lefts E k).length E.vc)) B := fun f hf => (h.byt f hf).keep kr (fun j hj e => by
    rcases e with e | e
    · exact (h0.byt_ne hf hj).2.2.2.2 (by rw [e]; exact hva)
    · exact (h0.byt_ne hf hj).1 e)
  refine ⟨⟨⟨?_, ?_, ?_, ?_, ⟨?_, ?_, ?_⟩, h0.ge, h0.ne, h0.n16, ?_, h0.dly⟩, ?_, ?_⟩, ?_⟩
  · have := blk_set (i := 6) (v := .slice (some ⟨g, 0, none⟩) (lefts E k).length E.vc) hko.blk rfl
    rw [this]
    simp [En.cs]
  · exact hko.nod.keep ks (fun e => h0.b_bn e.symm)
  · exact hko.cut.keep ks (fun e => h0.b_bc e.symm)
  · exact hko.del.keep ks (fun e => h0.b_bd e.symm)
  · exact own_set (list_row hBg hg hl ht hfk hvc) (by simp [Value.ownBlock]; exact hgr.1)
  · exact fun f hf => hbyt f (hsub.subset hf)
  · exact h0.fls.apt.sublist hsub
  · exact fun f hf => h0.pth f (hsub.subset hf)
  · exact k4.mono (fun j _ e => e.elim (fun e => .inr (.inr (.inr (.inr (.inl (by rw [e]; exact hva)))))) (fun e => .inl e))
  · intro j hj
    left
    rcases hj with e | e | e | e | e | ⟨x, hx, e⟩
    · exact .inl e
    · exact .inr (.inl e)
    · exact .inr (.inr (.inl e))
    · exact .inr (.inr (.inr (.inl e)))
    · simp [Value.ownBlock] at e
      exact .inr (.inr (.inr (.inr (.inl (by rw [hva, e])))))
    · exact .inr (.inr (.inr (.inr (.inr ⟨x, hsub.subset hx, e⟩))))
  · have hg0 : g < w.heap.size := by
      obtain ⟨cur, hc⟩ := row_ty h0.fls.row hva
      exact lt_heap hc
    have hb0 := lt_heap h0.blk
    have ho := kr.owns h.arr (fun j hj e => by
      have := (World.ownsRow.lt h.arr j hj).1
      rcases e with e | e <;> omega)
    obtain ⟨a, c, hav⟩ : ∃ a c, av = Value.slice a (arrs E k).length c := by
      rcases h.arr.2 with ⟨h3, h4⟩ | ⟨g', cap, cur, hv, _⟩
      · exact ⟨none, 0, by rw [h4]; exact h3⟩
      · exact ⟨_, _, hv⟩
    subst hav
    exact ⟨a, _, c, rfl, ⟨arrs E k, arrs_sub E k, rfl, rfl, ho, fun f hf => hbyt f ((arrs_sub E k).subset hf)⟩, rfl⟩
set_option maxHeartbeats 1000000 in
theorem round_cons2 (h : E.Ok w B m) (hB : B ≤ w.heap.size) (hpos : 0 < E.fs.length) (hlen : E.fs.length ≤ 20000) : Calls Try.prog 9 #[.pointer (some ⟨E.b, 0, none⟩)] w fun e w' => ∃ a n c, e = .returned (.slice a n c) ∧ RdO w.heap.size B E w' a n c ((E.fs.filter (comes E)).map Fx.d) ∧ Step w w' E { E with clock := ckN E, fs := E.fs.filter (stays E) } B m := by
  obtain ⟨i0, hi, hz0, hz1, hz2⟩ := info_parts info_fl
  obtain ⟨g, L0, hva, hBg, hg, hL, ht, hn, hc⟩ := h.shape hpos
  have hgw : g < w.heap.size := lt_heap hg
  have hbw : E.b < w.heap.size := lt_heap h.blk
  have hvo : (Value.slice E.va E.fs.length E.vc).ownBlock = some g := by rw [hva]; rfl
  have hgb := (h.row_ne hvo).1
  have c0 := h.c0
  have c6 := h.c6
  rw [hva] at c6
  have z0 := h.fz 0
  have hcap : (0 : Int) ≤ (E.vc : Int) := Int.natCast_nonneg _
  have H0 : Hid (RI w (w.setCell ⟨E.b, 0, none⟩ (.int .i64 (ckN E))) E B m g 0 L0 (.slice none 0 0)) := by
    have h1 := h.setB (E' := { E with clock := ckN E }) 0 (.int .i64 (ckN E)) rfl rfl
    have kp := kset (P := fun j => j = E.b) w E.b 0 (.int .i64 (ckN E)) rfl
    refine ⟨h1.ko, kp.obj hg hgb, hL, by simp [lefts, flCells], ?_, fun f hf => h1.fls.byt f hf, ⟨by simp [arrs, flCells], .inl ⟨rfl, by simp [arrs]⟩⟩, kp.mono (fun _ _ e => .inr e)⟩
    intro j _ hj
    rw [← ht, List.getElem?_take_of_lt hj]
  have Hpth : Hid (∀ f ∈ E.fs, ∃ p q : Nat, f.src = p ∧ f.dst = q ∧ p < E.nn ∧ q < E.nn ∧ p ≠ q) := h.pth
  have Hco : Hid (∀ j, En.core { E with clock := ckN E } j → j < w.heap.size) := fun j hj => h.ltOwn (by rcases hj with e | e | e | e; exact .inl e; exact .inr (.inl e); exact .inr (.inr (.inl e)); exact .inr (.inr (.inr (.inl e))))
  have Hbl : Hid (∀ f ∈ E.fs, ∀ j, f.v.ownBlock = some j → j < w.heap.size) := fun f hf j hj => h.ltOwn (.inr (.inr (.inr (.inr (.inr ⟨f, hf, hj⟩)))))
  have Hh : Hid (E.Ok w B m) := h
  clear h hg hL ht
  go_enter Try.func9, Try.ntmps9
  go_wp2
  have hck : wrap64 (E.clock + 1) = ckN E := rfl
  rw [hck]
  generalize hcN : ckN E = cN at H0 ⊢
  generalize hN : E.fs.length = N at *
  go_loopw [3, 4, 24] (fun av lv i wr => ∃ (k : Nat) (L : List Value), k ≤ N ∧ i = .int .i64 k ∧ lv = .slice (some ⟨g, 0, none⟩) (lefts E k).length E.vc ∧ RI w wr E B m g k L av) (fun _ _ i _ => N - (intOf i).toNat)
  case atStart => exact ⟨0, L0, Nat.zero_le _, rfl, rfl, by rw [← hcN] at H0 ⊢; exact H0.out⟩
  case round =>
    obtain ⟨k, L, hk, rfl, rfl, hri⟩ := hrel
    by_cases hlt : k < N
    · obtain ⟨x0, x1, x2, x3, x4⟩ := hri.at (by omega)
      have hfm : E.fs.getD k f0 ∈ E.fs := mem_getD (by omega)
      obtain ⟨p, q, hsp, hdq, hp, hq, hpq⟩ := Hpth.out _ hfm
      have hk0 : wr.cell? ⟨E.b, 0, none⟩ = some (.int .i64 cN) := by rw [← hcN]; exact hri.ko.c0
      have i1 : (0 : Int) ≤ (k : Int) := Int.natCast_nonneg _
      have i2 : (k : Int) < (N : Int) := by omega
      have hll := lefts_le E k
      have hal := arrs_le E k
      have HRI : Hid (RI w wr E B m g k L u3) := hri
      have Hst : Hid (stays E (E.fs.getD k f0) = decide ((E.fs.getD k f0).due ≠ cN)) := by rw [← hcN]; rfl
      have Hcm : Hid (comes E (E.fs.getD k f0) = (decide ((E.fs.getD k f0).due = cN) && decide (barE E p q = 0))) := by rw [← hcN]; unfold comes; rw [hsp, hdq]; rfl
      have Hf : Hid (E.fs.getD k f0 = E.fs.getD k f0) := rfl
      have HBa : Hid (∀ w', Below wr.heap.size wr w' → Calls Try.prog 27 #[.pointer (some ⟨E.b, 0, none⟩), .agg (E.fs.getD k f0).cs] w' fun e w2 => e = .returned (.int .i64 (barE E p q)) ∧ Below w'.heap.size w' w2) := fun w' hb' => barrier_ko (E := { E with clock := ckN E }) (hri.ko.still hb') (E.fs.getD k f0) p q hsp hdq hp hq
      have Hpush : Hid (∀ X, Below wr.heap.size wr X → (E.fs.getD k f0).due ≠ cN → RI w (X.setCells g (0 + (lefts E k).length * 5) (E.fs.getD k f0).cs.toList) E B m g (k + 1) (splice L (0 + (lefts E k).length * 5) (E.fs.getD k f0).cs.toList) u3 ∧ (lefts E (k + 1)).length = (lefts E k).length + 1) := by
        intro X hX hd
        have hs : stays E (E.fs.getD k f0) = true := Hst.out.trans (decide_eq_true hd)
        exact ⟨RI.push (hri.still hX) (by omega) (by omega) hgw hs, by rw [lefts_next (by omega), hs]; simp⟩
      have Holds : Hid (∀ X, Below wr.heap.size wr X → ∀ j u, (flCells (lefts E k))[j]? = some u → X.cell? ⟨g, 0 + j, none⟩ = some u) := fun X hX => (hri.still hX).olds
      have Hspare : Hid (∀ X, Below wr.heap.size wr X → ∀ j, j < (E.fs.getD k f0).cs.toList.length → (X.cell? ⟨g, 0 + (lefts E k).length * 5 + j, none⟩).isSome = true ∧ X.frozen? ⟨g, 0 + (lefts E k).length * 5 + j, none⟩ = false) := fun X hX => (hri.still hX).spare (by omega) (by omega)
      have Hskip : Hid (∀ X, Below wr.heap.size wr X → (E.fs.getD k f0).due = cN → barE E p q ≠ 0 → RI w X E B m g (k + 1) L u3 ∧ (lefts E (k + 1)).length = (lefts E k).length) := by
        intro X hX hd hb
        have hs : stays E (E.fs.getD k f0) = false := Hst.out.trans (decide_eq_false (fun x => x hd))
        have hc : comes E (E.fs.getD k f0) = false := Hcm.out.trans (by rw [decide_eq_false hb, Bool.and_false])
        exact ⟨(hri.still hX).skip (by omega) hs hc, by rw [lefts_next (by omega), hs]; simp⟩
      have Hcome : Hid (∀ X X' av', Below wr.heap.size wr X → (E.fs.getD k f0).due = cN → barE E p q = 0 → X'.ownsRow w.heap.size 43 5 av' ((arrs E k).length + 1) (flCells (arrs E k) ++ (E.fs.getD k f0).cs.toList) → X.grownBy X' u3.ownBlock → RI w X' E B m g (k + 1) L av' ∧ (lefts E (k + 1)).length = (lefts E k).length) := by
        intro X X' av' hX hd hb ho hgr
        have hs : stays E (E.fs.getD k f0) = false := Hst.out.trans (decide_eq_false (fun x => x hd))
        have hc : comes E (E.fs.getD k f0) = true := Hcm.out.trans (by rw [decide_eq_true hd, decide_eq_true hb]; rfl)
        exact ⟨RI.come (hri.still hX) (by omega) hgw hbw Hco.out Hbl.out hs hc ho hgr, by rw [lefts_next (by omega), hs]; simp⟩
      have Harr : Hid (∀ X, Below wr.heap.size wr X → X.ownsRow w.heap.size 43 5 u3 (arrs E k).length (flCells (arrs E k))) := fun X hX => own_still hri.arr hX
      have hwz : w.heap.size ≤ wr.heap.size := hri.kept.size
      generalize E.fs.getD k f0 = f at *
      generalize barE E p q = bE at *
      generalize lefts E k = LL at *
      generalize arrs E k = AA at *
      unfold Fx.cs at HBa
      rw [hsp, hdq] at HBa
      rw [hsp] at x1
      rw [hdq] at x2
      clear hri hfm Hf
      generalize hW1 : wr.alloc (.cells #[.int .i64 f.id, .int .i64 p, .int .i64 q, .int .i64 f.due, .slice f.a f.n f.c] 43) = W1
      have HB1 : Hid (Below wr.heap.size wr W1) := by rw [← hW1]; exact balloc (Below.refl _ wr)
      have hblk1 : W1.heap[wr.heap.size]? = some (.cells #[.int .i64 f.id, .int .i64 p, .int .i64 q, .int .i64 f.due, .slice f.a f.n f.c] 43 (0, 0)) := by rw [← hW1]; exact heap_alloc_new wr _
      obtain ⟨e0, e1, e2, e3, e4⟩ := fl_cells hblk1
      have k01 := below_at HB1.out hk0
      have hcs : f.cs.toList = [.int .i64 f.id, .int .i64 p, .int .i64 q, .int .i64 f.due, .slice f.a f.n f.c] := by unfold Fx.cs; rw [hsp, hdq]
      have HF1 : Hid (W1.heap[wr.heap.size]? = some (.cells #[.int .i64 f.id, .int .i64 p, .int .i64 q, .int .i64 f.due, .slice f.a f.n f.c] 43 (0, 0))) := hblk1
      rw [hcs] at Hpush Hspare Hcome
      clear hblk1
      by_cases hd : f.due = cN
      · subst hd
        by_cases hbE : bE = 0
        · rw [hbE] at HBa
          go_wp2
          go_quiet (fail)
          go_wp2_with (first
            | (go_at_call 27; refine (HBa.out _ (by repeat (first | exact HB1.out | apply below_drewN | apply Below.drew | apply balloc))).mono ?_; rintro e w2 ⟨rfl, hb2⟩; have HB2 : Hid (Below wr.heap.size wr w2) := (bstep (by repeat (first | exact HB1.out | apply below_drewN | apply Below.drew | apply balloc)) hb2); have m0 := below_at hb2 e0; have m1 := below_at hb2 e1; have m2 := below_at hb2 e2; have m3 := below_at hb2 e3; have m4 := below_at hb2 e4; clear hb2)
            | (at_builtin; refine wpList_append_lies _ rfl _ _ 39 rfl w.heap.size 43 i0 (.agg #[.int .i64 0, .int .i64 0, .int .i64 0, .int .i64 0, .slice none 0 0]) 5 56 Try.underlying39 hi hz0 hz1 hz2 rfl (by omega) u3 AA.length (flCells AA) rfl (Harr.out _ (balloc HB2.out)) _ 1 1 _ rfl rfl (World.news_of_block (heap_alloc_new _ _)) (by simp [Value.oneCell']) (by omega) (by unfold maxLen; omega) (by omega) (by have := HB2.out.size; simp; omega) _ rfl ?_; intro g3 cap3 w3 hown3 hgrow3 hat3 hlt3)
            | fail)
          obtain ⟨hn1, hn2⟩ := Hcome.out _ w3 _ (balloc HB2.out) (by first | rfl | trivial) hbE hown3 hgrow3
          exact ⟨⟨k + 1, _, by omega, by go_num, by rw [hn2], hn1⟩, by simp [intOf]; omega⟩
        · go_wp2
          go_quiet (fail)
          go_wp2_with (first
            | (go_at_call 27; refine (HBa.out _ (by repeat (first | exact HB1.out | apply below_drewN | apply Below.drew | apply balloc))).mono ?_; rintro e w2 ⟨rfl, hb2⟩; have HB2 : Hid (Below wr.heap.size wr w2) := (bstep (by repeat (first | exact HB1.out | apply below_drewN | apply Below.drew | apply balloc)) hb2); clear hb2)
            | fail)
          obtain ⟨hn1, hn2⟩ := Hskip.out w2 HB2.out (by first | rfl | trivial) hbE
          exact ⟨⟨k + 1, _, by omega, by go_num, by rw [hn2], hn1⟩, by simp [intOf]; omega⟩
      · go_wp2
        go_quiet (fail)
        go_wp2_with (first
          | (at_builtin; refine wpList_append_arg _ rfl _ _ 39 rfl 43 i0 (.agg #[.int .i64 0, .int .i64 0, .int .i64 0, .int .i64 0, .slice none 0 0]) 5 56 Try.underlying39 hi hz0 hz1 hz2 rfl (by omega) g 0 LL.length E.vc (flCells LL) rfl (flCells_len LL) (Holds.out _ (by repeat (first | exact HB1.out | apply below_drewN | apply Below.drew | apply balloc))) _ 1 1 _ rfl rfl (World.news_of_block (heap_alloc_new _ _)) (by simp [Value.oneCell']) (fun _ => Hspare.out _ (by repeat (first | exact HB1.out | apply below_drewN | apply Below.drew | apply balloc))) (by unfold maxLen; omega) (by omega) (fun _ => ?_) (fun hx => absurd hx (by omega)))
          | fail)
        obtain ⟨hn1, hn2⟩ := Hpush.out ((W1.drewN nq).alloc (.cells #[.int .i64 f.id, .int .i64 p, .int .i64 q, .int .i64 f.due, .slice f.a f.n f.c] 43)) (by repeat (first | exact HB1.out | apply below_drewN | apply Below.drew | apply balloc)) hd
        rw [Nat.zero_add] at hn1
        exact ⟨⟨k + 1, _, by omega, by go_num, by rw [hn2], hn1⟩, by simp [intOf]; omega⟩
    · obtain rfl : k = N := by omega
      have hll := lefts_le E k
      have hc6 : wr.cell? ⟨E.b, 6, none⟩ = some (.slice (some ⟨g, 0, none⟩) k E.vc) := by
        have := hri.ko.c6
        rw [← hva, ← hN]
        exact this
      have hz6 := hri.ko.fz 6
      have HRI : Hid (RI w wr E B m g k L u3) := hri
      have hlk : lefts E k = E.fs.filter (stays E) := by unfold lefts; rw [List.take_of_length_le (by omega)]
      have hak : arrs E k = E.fs.filter (comes E) := by unfold arrs; rw [List.take_of_length_le (by omega)]
      have hfin : Hid (∀ (WC : World) (L' : List Value), Kept wr WC (fun j => j = g) → WC.heap[g]? = some (.cells L'.toArray 43 (0, 0)) → L'.length = E.vc * 5 → L'.take ((lefts E k).length * 5) = flCells (lefts E k) → ∃ a n c, u3 = .slice a n c ∧ RdO w.heap.size B E (WC.setCell ⟨E.b, 6, none⟩ (.slice (some ⟨g, 0, none⟩) (lefts E k).length E.vc)) a n c ((E.fs.filter (comes E)).map Fx.d) ∧ Step w (WC.setCell ⟨E.b, 6, none⟩ (.slice (some ⟨g, 0, none⟩) (lefts E k).length E.vc)) E { E with clock := ckN E, fs := E.fs.filter (stays E) } B m) := by
        intro WC L' k1 k2 k3 k4
        obtain ⟨r1, a, n, c, r2, r3, _⟩ := RI.last2 Hh.out hri (by rw [hN]; exact hvo) hBg hc (by omega) k1 k2 k3 k4
        rw [hak] at r3
        rw [← hva, hlk] at r1
        rw [hlk] at r3 ⊢
        exact ⟨a, n, c, r2, r3, by rw [← hva]; exact r1⟩
      have hcel : Hid (∀ WC : World, Kept wr WC (fun j => j = g) → WC.cell? ⟨E.b, 6, none⟩ = some (.slice (some ⟨g, 0, none⟩) k E.vc) ∧ WC.frozen? ⟨E.b, 6, none⟩ = false) := by
        intro WC k1
        have := hri.ko.keep k1 hri.core
        refine ⟨?_, this.fz 6⟩
        have h6 := this.c6
        rw [← hva, ← hN]
        exact h6
      have hL := hri.len
      have hblk := hri.blk
      have htk := hri.tk
      by_cases hvp : E.vc = (lefts E k).length
      · have hcl : (Builtin.clear_ #[39] 0 #[.slice (some ⟨g, 0, none⟩) (k - (lefts E k).length) 0]).run Try.prog wr = .ok (.tuple #[]) wr := by
          have h1 := run_clearF wr 0 g 0 (k - (lefts E k).length) 0 (fun j hj => by omega) (fun j hj => by omega)
          have e : (Builtin.zeroCells (Value.agg #[.int .i64 0, .int .i64 0, .int .i64 0, .int .i64 0, .slice none 0 0]).cells (k - (lefts E k).length)).toList = [] := List.eq_nil_of_length_eq_zero (by rw [zc_len]; omega)
          rw [e] at h1
          exact h1
        have hdone := hfin.out wr L (Kept.refl _ _) hblk hL htk
        have HDn : Hid (∃ a n c, u3 = .slice a n c ∧ RdO w.heap.size B E (wr.setCell ⟨E.b, 6, none⟩ (.slice (some ⟨g, 0, none⟩) (lefts E k).length E.vc)) a n c ((E.fs.filter (comes E)).map Fx.d) ∧ Step w (wr.setCell ⟨E.b, 6, none⟩ (.slice (some ⟨g, 0, none⟩) (lefts E k).length E.vc)) E { E with clock := ckN E, fs := E.fs.filter (stays E) } B m) := hdone
        clear hdone hfin hblk hL htk hlk hak
        generalize hp : (lefts E k).length = p at *
        have i1 : (0 : Int) ≤ (p : Int) := Int.natCast_nonneg _
        have i2 : (p : Int) ≤ (k : Int) := by omega
        have i3 : (k : Int) ≤ (E.vc : Int) := by omega
        clear hri
        go_wp2
        obtain ⟨a, n, c, r1, r2, r3⟩ := HDn.out
        go_ret
        rw [hvp] at r2
        exact ⟨a, n, c, by rw [← r1]; rfl, r2, by simpa only [hva, hvp, hcN] using r3⟩
      · have hb5 : ∀ j, j < (k - (lefts E k).length) * 5 → (wr.cell? ⟨g, (lefts E k).length * 5 + j, none⟩).isSome = true := fun j hj => by
          rw [blk_cell hblk _]
          simp only [List.getElem?_toArray]
          rw [List.getElem?_eq_getElem (by omega)]
          rfl
        have hcl := run_clearF wr 0 g ((lefts E k).length * 5) (k - (lefts E k).length) (E.vc - (lefts E k).length) hb5 (fun j hj => frozen_of_row wr _ _ _ _ hblk)
        have hzl := zc_len (k - (lefts E k).length)
        generalize hzs : (Builtin.zeroCells (Value.agg #[.int .i64 0, .int .i64 0, .int .i64 0, .int .i64 0, .slice none 0 0]).cells (k - (lefts E k).length)).toList = zs at hcl hzl
        have hfit : (lefts E k).length * 5 + zs.length ≤ L.length := by omega
        have hdone := hfin.out (wr.setCells g ((lefts E k).length * 5) zs) (splice L ((lefts E k).length * 5) zs) (kept_setCells _ _ _) (heap_setCells _ _ wr L hblk hfit) (by rw [length_splice _ _ _ hfit, hL]) (by rw [splice_take _ _ _ (by omega)]; exact htk)
        obtain ⟨t6, tz⟩ := hcel.out (wr.setCells g ((lefts E k).length * 5) zs) (kept_setCells _ _ _)
        generalize hWC : wr.setCells g ((lefts E k).length * 5) zs = WC at hdone hcl t6 tz
        have HDn : Hid (∃ a n c, u3 = .slice a n c ∧ RdO w.heap.size B E (WC.setCell ⟨E.b, 6, none⟩ (.slice (some ⟨g, 0, none⟩) (lefts E k).length E.vc)) a n c ((E.fs.filter (comes E)).map Fx.d) ∧ Step w (WC.setCell ⟨E.b, 6, none⟩ (.slice (some ⟨g, 0, none⟩) (lefts E k).length E.vc)) E { E with clock := ckN E, fs := E.fs.filter (stays E) } B m) := hdone
        clear hdone hfin hblk hL htk hlk hak hb5 hzs hfit hWC
        generalize hp : (lefts E k).length = p at *
        have i1 : (0 : Int) ≤ (p : Int) := Int.natCast_nonneg _
        have i2 : (p : Int) ≤ (k : Int) := by omega
        have i3 : (k : Int) ≤ (E.vc : Int) := by omega
        clear hri
        go_wp2
        obtain ⟨a, n, c, r1, r2, r3⟩ := HDn.out
        go_ret
        exact ⟨a, n, c, by rw [← r1]; rfl, r2, by simpa only [hva, hcN] using r3⟩
set_option maxHeartbeats 400000 in
theorem round_nil2 (h : E.Ok w B m) (hno : E.fs = []) : Calls Try.prog 9 #[.pointer (some ⟨E.b, 0, none⟩)] w fun e w' => ∃ a n c, e = .returned (.slice a n c) ∧ RdO w.heap.size B E w' a n c ((E.fs.filter (comes E)).map Fx.d) ∧ Step w w' E { E with clock := ckN E, fs := E.fs.filter (stays E) } B m := by
  have c0 := h.c0
  have c6 := h.c6
  have z0 := h.fz 0
  have z6 := h.fz 6
  have hl : E.fs.length = 0 := by rw [hno]; rfl
  rw [hl] at c6
  have hres : Hid (Step w ((w.setCell ⟨E.b, 0, none⟩ (.int .i64 (ckN E))).setCell ⟨E.b, 6, none⟩ (.slice E.va 0 E.vc)) E { E with clock := ckN E } B m) := by
    have s1 : Step w (w.setCell ⟨E.b, 0, none⟩ (.int .i64 (ckN E))) E { E with clock := ckN E } B m := ⟨h.setB 0 _ rfl rfl, kset _ _ _ _ (.inl rfl), fun j hj => .inl hj⟩
    have s2 : Step (w.setCell ⟨E.b, 0, none⟩ (.int .i64 (ckN E))) ((w.setCell ⟨E.b, 0, none⟩ (.int .i64 (ckN E))).setCell ⟨E.b, 6, none⟩ (.slice E.va 0 E.vc)) { E with clock := ckN E } { E with clock := ckN E } B m := ⟨s1.ok.setB (E' := { E with clock := ckN E }) 6 _ (by simp [En.cs, hl]) rfl, kset _ _ _ _ (.inl rfl), fun j hj => .inl hj⟩
    exact s1.trans s2
  have hfs : E.fs.filter (stays E) = E.fs := by rw [hno]; rfl
  rw [hfs]
  rw [hno]
  have hck : wrap64 (E.clock + 1) = ckN E := rfl
  generalize ckN E = cN at *
  have hcl : ∀ (W : World) (a : Option Addr) (c : Nat) (ty : TypeId), (Builtin.clear_ #[39] ty #[.slice a 0 c]).run Try.prog W = .ok (.tuple #[]) W := by
    intro W a c ty
    cases a <;> simp [Builtin.clear_, run_underlying Try.underlying39]
  have hrow := h.fls.row
  rw [hl] at hrow
  have hn : E.va = none ∧ E.vc = 0 ∨ ∃ g, E.va = some ⟨g, 0, none⟩ := by
    rcases hrow.2 with ⟨h1, h2⟩ | ⟨g, cap, cur, hv, _⟩
    · simp at h1; exact .inl h1
    · simp at hv; exact .inr ⟨g, hv.1⟩
  clear h hrow
  rcases hn with ⟨hva, hvc⟩ | ⟨g, hva⟩
  · rw [hva, hvc] at c6
    have HR := hres.out
    simp only [hva, hvc, hno] at HR
    clear hres hfs
    go_enter Try.func9, Try.ntmps9
    go_wp2
    refine wp_loop_rounds 1 ?_
    rw [rounds_succ]
    go_wp2
    go_ret
    exact ⟨none, 0, 0, rfl, ⟨[], List.nil_sublist _, rfl, rfl, row_nil _ _ _ _, fun f hf => (by cases hf)⟩, by simpa only [hva, hvc] using HR⟩
  · rw [hva] at c6
    have HR := hres.out
    simp only [hva, hno] at HR
    clear hres hfs
    have hcap : (0 : Int) ≤ (E.vc : Int) := Int.natCast_nonneg _
    go_enter Try.func9, Try.ntmps9
    go_wp2
    refine wp_loop_rounds 1 ?_
    rw [rounds_succ]
    go_wp2
    all_goals (go_ret; exact ⟨none, 0, 0, rfl, ⟨[], List.nil_sublist _, rfl, rfl, row_nil _ _ _ _, fun f hf => (by cases hf)⟩, by simpa only [hva] using HR⟩)
end
end Go.Proofs.Ytnhhjelplmdloaa.Et
