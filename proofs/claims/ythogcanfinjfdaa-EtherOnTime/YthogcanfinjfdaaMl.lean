import Derived.Test.YthogcanfinjfdaaMk
import Derived.LoopN
namespace Go.Proofs.Ythogcanfinjfdaa.Et
open Go.RowKit Go.Maps
set_option linter.unusedVariables false
set_option linter.unusedSimpArgs false
set_option maxRecDepth 100000
section
variable {E E' : En} {w w' W w1 wr wr' : World} {B B0 m g k : Nat} {L : List Value} {av : Value}
def RdO (B0 B : Nat) (E : En) (w : World) (a : Option Addr) (n c : Nat) (ds : List Fd) : Prop := ∃ L : List Fx, L.Sublist E.fs ∧ L.map Fx.d = ds ∧ L.length = n ∧ w.ownsRow B0 48 5 (.slice a n c) n (flCells L) ∧ ∀ f ∈ L, f.byt w B
theorem RdO.rdf {a : Option Addr} {n c : Nat} {ds : List Fd} (h : RdO B0 B E w a n c ds) : RdF w a n ds := by
  obtain ⟨L, h1, h2, h3, h4, h5⟩ := h
  exact ⟨L, h2, h3, fun f hf => (h5 f hf).rd, row_cells h4 h3⟩
theorem RdO.keep {P : Nat → Prop} {a : Option Addr} {n c : Nat} {ds : List Fd} (h : RdO B0 B E w a n c ds) (k : Kept w w' P) (h0 : ∀ j, B0 ≤ j → ¬ P j) (h1 : ∀ j, E.own j → ¬ P j) : RdO B0 B E w' a n c ds := by
  obtain ⟨L, h2, h3, h4, h5, h6⟩ := h
  exact ⟨L, h2, h3, h4, k.owns h5 (fun j hj => h0 j (World.ownsRow.lt h5 j hj).1), fun f hf => (h6 f hf).keep k (fun j hj => h1 j (.inr (.inr (.inr (.inr (.inr ⟨f, h2.subset hf, hj⟩))))))⟩
theorem RI.last2 {WC : World} {L' : List Value} (h0 : E.Ok w B m) (h : RI w wr E B m g k L av) (hva : (Value.slice E.va E.fs.length E.vc).ownBlock = some g) (hBg : B ≤ g) (hvc : E.vc ≤ maxLen) (hfk : (lefts E k).length ≤ E.vc) (kc : Kept wr WC (fun j => j = g)) (hg : WC.heap[g]? = some (.cells L'.toArray 48 (0, 0))) (hl : L'.length = E.vc * 5) (ht : L'.take ((lefts E k).length * 5) = flCells (lefts E k)) :
    Step w (WC.setCell ⟨E.b, 6, none⟩ (.slice (some ⟨g, 0, none⟩) (lefts E k).length E.vc)) E { E with clock := ckN E, va := some ⟨g, 0, none⟩, fs := lefts E k } B m ∧
    (∃ a n c, av = .slice a n c ∧ RdO w.heap.size B E (WC.setCell ⟨E.b, 6, none⟩ (.slice (some ⟨g, 0, none⟩) (lefts E k).length E.vc)) a n c ((arrs E k).map Fx.d) ∧ n = (arrs E k).length) := by
  have hgr := h0.row_ne hva
  have hko := h.ko.keep kc h.core
  have ks : Kept WC (WC.setCell ⟨E.b, 6, none⟩ (.slice (some ⟨g, 0, none⟩) (lefts E k).length E.vc)) (fun j => j = E.b) := kset WC E.b 6 _ rfl
  have k4 : Kept w (WC.setCell ⟨E.b, 6, none⟩ (.slice (some ⟨g, 0, none⟩) (lefts E k).length E.vc)) (fun j => j = g ∨ j = E.b) := (h.kept.trans (kc.mono (fun _ _ e => .inl e))).trans (ks.mono (fun _ _ e => .inr e))
  have kr : Kept wr (WC.setCell ⟨E.b, 6, none⟩ (.slice (some ⟨g, 0, none⟩) (lefts E k).length E.vc)) (fun j => j = g ∨ j = E.b) := (kc.mono (fun _ _ e => .inl e)).trans (ks.mono (fun _ _ e => .inr e))
  have hsub := lefts_sub E k
  have hbyt : ∀ f ∈ E.fs, f.byt (WC.setCell ⟨E.b, 6, none⟩ (.slice (some ⟨g, 0, none⟩) (lefts E k).length E.vc)) B := fun f hf => (h.byt f hf).keep kr (fun j hj e => by
    rcases e with e | e
    · exact (h0.byt_ne hf hj).2.2.2.2 (by rw [e]; exact hva)
    · exact (h0.byt_ne hf hj).1 e)
  refine ⟨⟨⟨?_, ?_, ?_, ?_, ⟨?_, ?_, ?_⟩, h0.ge, h0.ne, h0.n16, ?_, h0.dly⟩, ?_, ?_⟩, ?_⟩
  · have := blk_set (i := 6) (v := .slice (some ⟨g, 0, none⟩) (lefts E k).length E.vc) hko.blk rfl
    rw [this]
    simp [En.cs]
  · exact hko.nod.keep ks (fun e => h0.b_bn e.symm)
  · exact hko.cut.keep ks (fun e => h0.b_bc e.symm)
  · exact hko.del.keep ks (fun e => h0.b_bd e.symm)
  · exact own_set (list_row hBg hg hl ht hfk hvc) (by simp [Value.ownBlock]; exact hgr.1)
  · exact fun f hf => hbyt f (hsub.subset hf)
  · exact h0.fls.apt.sublist hsub
  · exact fun f hf => h0.pth f (hsub.subset hf)
  · exact k4.mono (fun j _ e => e.elim (fun e => .inr (.inr (.inr (.inr (.inl (by rw [e]; exact hva)))))) (fun e => .inl e))
  · intro j hj
    left
    rcases hj with e | e | e | e | e | ⟨x, hx, e⟩
    · exact .inl e
    · exact .inr (.inl e)
    · exact .inr (.inr (.inl e))
    · exact .inr (.inr (.inr (.inl e)))
    · simp [Value.ownBlock] at e
      exact .inr (.inr (.inr (.inr (.inl (by rw [hva, e])))))
    · exact .inr (.inr (.inr (.inr (.inr ⟨x, hsub.subset hx, e⟩))))
  · have hg0 : g < w.heap.size := by
      obtain ⟨cur, hc⟩ := row_ty h0.fls.row hva
      exact lt_heap hc
    have hb0 := lt_heap h0.blk
    have ho := kr.owns h.arr (fun j hj e => by
      have := (World.ownsRow.lt h.arr j hj).1
      rcases e with e | e <;> omega)
    obtain ⟨a, c, hav⟩ : ∃ a c, av = Value.slice a (arrs E k).length c := by
      rcases h.arr.2 with ⟨h3, h4⟩ | ⟨g', cap, cur, hv, _⟩
      · exact ⟨none, 0, by rw [h4]; exact h3⟩
      · exact ⟨_, _, hv⟩
    subst hav
    exact ⟨a, _, c, rfl, ⟨arrs E k, arrs_sub E k, rfl, rfl, ho, fun f hf => hbyt f ((arrs_sub E k).subset hf)⟩, rfl⟩

set_option maxHeartbeats 1000000 in
theorem round_cons2 (h : E.Ok w B m) (hB : B ≤ w.heap.size) (hpos : 0 < E.fs.length) (hlen : E.fs.length ≤ 20000) : Calls Try.prog 15 #[.pointer (some ⟨E.b, 0, none⟩)] w fun e w' => ∃ a n c, e = .returned (.slice a n c) ∧ RdO w.heap.size B E w' a n c ((E.fs.filter (comes E)).map Fx.d) ∧ Step w w' E { E with clock := ckN E, fs := E.fs.filter (stays E) } B m := by
  obtain ⟨i0, hi, hz0, hz1, hz2⟩ := info_parts info_fl
  obtain ⟨g, L0, hva, hBg, hg, hL, ht, hn, hc⟩ := h.shape hpos
  have hgw : g < w.heap.size := lt_heap hg
  have hbw : E.b < w.heap.size := lt_heap h.blk
  have hvo : (Value.slice E.va E.fs.length E.vc).ownBlock = some g := by rw [hva]; rfl
  have hgb := (h.row_ne hvo).1
  have c0 := h.c0
  have c6 := h.c6
  rw [hva] at c6
  have z0 := h.fz 0
  have hcap : (0 : Int) ≤ (E.vc : Int) := Int.natCast_nonneg _
  have H0 : Hid (RI w (w.setCell ⟨E.b, 0, none⟩ (.int .i64 (ckN E))) E B m g 0 L0 (.slice none 0 0)) := by
    have h1 := h.setB (E' := { E with clock := ckN E }) 0 (.int .i64 (ckN E)) rfl rfl
    have kp := kset (P := fun j => j = E.b) w E.b 0 (.int .i64 (ckN E)) rfl
    refine ⟨h1.ko, kp.obj hg hgb, hL, by simp [lefts, flCells], ?_, fun f hf => h1.fls.byt f hf, ⟨by simp [arrs, flCells], .inl ⟨rfl, by simp [arrs]⟩⟩, kp.mono (fun _ _ e => .inr e)⟩
    intro j _ hj
    rw [← ht, List.getElem?_take_of_lt hj]
  have Hpth : Hid (∀ f ∈ E.fs, ∃ p q : Nat, f.src = p ∧ f.dst = q ∧ p < E.nn ∧ q < E.nn ∧ p ≠ q) := h.pth
  have Hco : Hid (∀ j, En.core { E with clock := ckN E } j → j < w.heap.size) := fun j hj => h.ltOwn (by rcases hj with e | e | e | e; exact .inl e; exact .inr (.inl e); exact .inr (.inr (.inl e)); exact .inr (.inr (.inr (.inl e))))
  have Hbl : Hid (∀ f ∈ E.fs, ∀ j, f.v.ownBlock = some j → j < w.heap.size) := fun f hf j hj => h.ltOwn (.inr (.inr (.inr (.inr (.inr ⟨f, hf, hj⟩)))))
  have Hh : Hid (E.Ok w B m) := h
  clear h hg hL ht
  go_enter Try.func15, Try.ntmps15
  go_wp2
  have hck : wrap64 (E.clock + 1) = ckN E := rfl
  rw [hck]
  generalize hcN : ckN E = cN at H0 ⊢
  generalize hN : E.fs.length = N at *
  go_loopw [3, 4, 24] (fun av lv i wr => ∃ (k : Nat) (L : List Value), k ≤ N ∧ i = .int .i64 k ∧ lv = .slice (some ⟨g, 0, none⟩) (lefts E k).length E.vc ∧ RI w wr E B m g k L av) (fun _ _ i _ => N - (intOf i).toNat)
  case atStart => exact ⟨0, L0, Nat.zero_le _, rfl, rfl, by rw [← hcN] at H0 ⊢; exact H0.out⟩
  case round =>
    obtain ⟨k, L, hk, rfl, rfl, hri⟩ := hrel
    by_cases hlt : k < N
    · obtain ⟨x0, x1, x2, x3, x4⟩ := hri.at (by omega)
      have hfm : E.fs.getD k f0 ∈ E.fs := mem_getD (by omega)
      obtain ⟨p, q, hsp, hdq, hp, hq, hpq⟩ := Hpth.out _ hfm
      have hk0 : wr.cell? ⟨E.b, 0, none⟩ = some (.int .i64 cN) := by rw [← hcN]; exact hri.ko.c0
      have i1 : (0 : Int) ≤ (k : Int) := Int.natCast_nonneg _
      have i2 : (k : Int) < (N : Int) := by omega
      have hll := lefts_le E k
      have hal := arrs_le E k
      have HRI : Hid (RI w wr E B m g k L u3) := hri
      have Hst : Hid (stays E (E.fs.getD k f0) = decide ((E.fs.getD k f0).due ≠ cN)) := by rw [← hcN]; rfl
      have Hcm : Hid (comes E (E.fs.getD k f0) = (decide ((E.fs.getD k f0).due = cN) && decide (barE E p q = 0))) := by rw [← hcN]; unfold comes; rw [hsp, hdq]; rfl
      have Hf : Hid (E.fs.getD k f0 = E.fs.getD k f0) := rfl
      have HBa : Hid (∀ w', Below wr.heap.size wr w' → Calls Try.prog 44 #[.pointer (some ⟨E.b, 0, none⟩), .agg (E.fs.getD k f0).cs] w' fun e w2 => e = .returned (.int .i64 (barE E p q)) ∧ Below w'.heap.size w' w2) := fun w' hb' => barrier_ko (E := { E with clock := ckN E }) (hri.ko.still hb') (E.fs.getD k f0) p q hsp hdq hp hq
      have Hpush : Hid (∀ X, Below wr.heap.size wr X → (E.fs.getD k f0).due ≠ cN → RI w (X.setCells g (0 + (lefts E k).length * 5) (E.fs.getD k f0).cs.toList) E B m g (k + 1) (splice L (0 + (lefts E k).length * 5) (E.fs.getD k f0).cs.toList) u3 ∧ (lefts E (k + 1)).length = (lefts E k).length + 1) := by
        intro X hX hd
        have hs : stays E (E.fs.getD k f0) = true := Hst.out.trans (decide_eq_true hd)
        exact ⟨RI.push (hri.still hX) (by omega) (by omega) hgw hs, by rw [lefts_next (by omega), hs]; simp⟩
      have Holds : Hid (∀ X, Below wr.heap.size wr X → ∀ j u, (flCells (lefts E k))[j]? = some u → X.cell? ⟨g, 0 + j, none⟩ = some u) := fun X hX => (hri.still hX).olds
      have Hspare : Hid (∀ X, Below wr.heap.size wr X → ∀ j, j < (E.fs.getD k f0).cs.toList.length → (X.cell? ⟨g, 0 + (lefts E k).length * 5 + j, none⟩).isSome = true ∧ X.frozen? ⟨g, 0 + (lefts E k).length * 5 + j, none⟩ = false) := fun X hX => (hri.still hX).spare (by omega) (by omega)
      have Hskip : Hid (∀ X, Below wr.heap.size wr X → (E.fs.getD k f0).due = cN → barE E p q ≠ 0 → RI w X E B m g (k + 1) L u3 ∧ (lefts E (k + 1)).length = (lefts E k).length) := by
        intro X hX hd hb
        have hs : stays E (E.fs.getD k f0) = false := Hst.out.trans (decide_eq_false (fun x => x hd))
        have hc : comes E (E.fs.getD k f0) = false := Hcm.out.trans (by rw [decide_eq_false hb, Bool.and_false])
        exact ⟨(hri.still hX).skip (by omega) hs hc, by rw [lefts_next (by omega), hs]; simp⟩
      have Hcome : Hid (∀ X X' av', Below wr.heap.size wr X → (E.fs.getD k f0).due = cN → barE E p q = 0 → X'.ownsRow w.heap.size 48 5 av' ((arrs E k).length + 1) (flCells (arrs E k) ++ (E.fs.getD k f0).cs.toList) → X.grownBy X' u3.ownBlock → RI w X' E B m g (k + 1) L av' ∧ (lefts E (k + 1)).length = (lefts E k).length) := by
        intro X X' av' hX hd hb ho hgr
        have hs : stays E (E.fs.getD k f0) = false := Hst.out.trans (decide_eq_false (fun x => x hd))
        have hc : comes E (E.fs.getD k f0) = true := Hcm.out.trans (by rw [decide_eq_true hd, decide_eq_true hb]; rfl)
        exact ⟨RI.come (hri.still hX) (by omega) hgw hbw Hco.out Hbl.out hs hc ho hgr, by rw [lefts_next (by omega), hs]; simp⟩
      have Harr : Hid (∀ X, Below wr.heap.size wr X → X.ownsRow w.heap.size 48 5 u3 (arrs E k).length (flCells (arrs E k))) := fun X hX => own_still hri.arr hX
      have hwz : w.heap.size ≤ wr.heap.size := hri.kept.size
      generalize E.fs.getD k f0 = f at *
      generalize barE E p q = bE at *
      generalize lefts E k = LL at *
      generalize arrs E k = AA at *
      unfold Fx.cs at HBa
      rw [hsp, hdq] at HBa
      rw [hsp] at x1
      rw [hdq] at x2
      clear hri hfm Hf
      generalize hW1 : wr.alloc (.cells #[.int .i64 f.id, .int .i64 p, .int .i64 q, .int .i64 f.due, .slice f.a f.n f.c] 48) = W1
      have HB1 : Hid (Below wr.heap.size wr W1) := by rw [← hW1]; exact balloc (Below.refl _ wr)
      have hblk1 : W1.heap[wr.heap.size]? = some (.cells #[.int .i64 f.id, .int .i64 p, .int .i64 q, .int .i64 f.due, .slice f.a f.n f.c] 48 (0, 0)) := by rw [← hW1]; exact heap_alloc_new wr _
      obtain ⟨e0, e1, e2, e3, e4⟩ := fl_cells hblk1
      have k01 := below_at HB1.out hk0
      have hcs : f.cs.toList = [.int .i64 f.id, .int .i64 p, .int .i64 q, .int .i64 f.due, .slice f.a f.n f.c] := by unfold Fx.cs; rw [hsp, hdq]
      have HF1 : Hid (W1.heap[wr.heap.size]? = some (.cells #[.int .i64 f.id, .int .i64 p, .int .i64 q, .int .i64 f.due, .slice f.a f.n f.c] 48 (0, 0))) := hblk1
      rw [hcs] at Hpush Hspare Hcome
      clear hblk1
      by_cases hd : f.due = cN
      · subst hd
        by_cases hbE : bE = 0
        · rw [hbE] at HBa
          go_wp2
          go_quiet (fail)
          go_wp2_with (first
            | (go_at_call 44; refine (HBa.out _ (by repeat (first | exact HB1.out | apply below_drewN | apply Below.drew | apply balloc))).mono ?_; rintro e w2 ⟨rfl, hb2⟩; have HB2 : Hid (Below wr.heap.size wr w2) := (bstep (by repeat (first | exact HB1.out | apply below_drewN | apply Below.drew | apply balloc)) hb2); have m0 := below_at hb2 e0; have m1 := below_at hb2 e1; have m2 := below_at hb2 e2; have m3 := below_at hb2 e3; have m4 := below_at hb2 e4; clear hb2)
            | (at_builtin; refine wpList_append_lies _ rfl _ _ 43 rfl w.heap.size 48 i0 (.agg #[.int .i64 0, .int .i64 0, .int .i64 0, .int .i64 0, .slice none 0 0]) 5 56 Try.underlying43 hi hz0 hz1 hz2 rfl (by omega) u3 AA.length (flCells AA) rfl (Harr.out _ (balloc HB2.out)) _ 1 1 _ rfl rfl (World.news_of_block (heap_alloc_new _ _)) (by simp [Value.oneCell']) (by omega) (by unfold maxLen; omega) (by omega) (by have := HB2.out.size; simp; omega) _ rfl ?_; intro g3 cap3 w3 hown3 hgrow3 hat3 hlt3)
            | fail)
          obtain ⟨hn1, hn2⟩ := Hcome.out _ w3 _ (balloc HB2.out) (by first | rfl | trivial) hbE hown3 hgrow3
          exact ⟨⟨k + 1, _, by omega, by go_num, by rw [hn2], hn1⟩, by simp [intOf]; omega⟩
        · go_wp2
          go_quiet (fail)
          go_wp2_with (first
            | (go_at_call 44; refine (HBa.out _ (by repeat (first | exact HB1.out | apply below_drewN | apply Below.drew | apply balloc))).mono ?_; rintro e w2 ⟨rfl, hb2⟩; have HB2 : Hid (Below wr.heap.size wr w2) := (bstep (by repeat (first | exact HB1.out | apply below_drewN | apply Below.drew | apply balloc)) hb2); clear hb2)
            | fail)
          obtain ⟨hn1, hn2⟩ := Hskip.out w2 HB2.out (by first | rfl | trivial) hbE
          exact ⟨⟨k + 1, _, by omega, by go_num, by rw [hn2], hn1⟩, by simp [intOf]; omega⟩
      · go_wp2
        go_quiet (fail)
        go_wp2_with (first
          | (at_builtin; refine wpList_append_arg _ rfl _ _ 43 rfl 48 i0 (.agg #[.int .i64 0, .int .i64 0, .int .i64 0, .int .i64 0, .slice none 0 0]) 5 56 Try.underlying43 hi hz0 hz1 hz2 rfl (by omega) g 0 LL.length E.vc (flCells LL) rfl (flCells_len LL) (Holds.out _ (by repeat (first | exact HB1.out | apply below_drewN | apply Below.drew | apply balloc))) _ 1 1 _ rfl rfl (World.news_of_block (heap_alloc_new _ _)) (by simp [Value.oneCell']) (fun _ => Hspare.out _ (by repeat (first | exact HB1.out | apply below_drewN | apply Below.drew | apply balloc))) (by unfold maxLen; omega) (by omega) (fun _ => ?_) (fun hx => absurd hx (by omega)))
          | fail)
        obtain ⟨hn1, hn2⟩ := Hpush.out ((W1.drewN nq).alloc (.cells #[.int .i64 f.id, .int .i64 p, .int .i64 q, .int .i64 f.due, .slice f.a f.n f.c] 48)) (by repeat (first | exact HB1.out | apply below_drewN | apply Below.drew | apply balloc)) hd
        rw [Nat.zero_add] at hn1
        exact ⟨⟨k + 1, _, by omega, by go_num, by rw [hn2], hn1⟩, by simp [intOf]; omega⟩
    · obtain rfl : k = N := by omega
      have hll := lefts_le E k
      have hc6 : wr.cell? ⟨E.b, 6, none⟩ = some (.slice (some ⟨g, 0, none⟩) k E.vc) := by
        have := hri.ko.c6
        rw [← hva, ← hN]
        exact this
      have hz6 := hri.ko.fz 6
      have HRI : Hid (RI w wr E B m g k L u3) := hri
      have hlk : lefts E k = E.fs.filter (stays E) := by unfold lefts; rw [List.take_of_length_le (by omega)]
      have hak : arrs E k = E.fs.filter (comes E) := by unfold arrs; rw [List.take_of_length_le (by omega)]
      have hfin : Hid (∀ (WC : World) (L' : List Value), Kept wr WC (fun j => j = g) → WC.heap[g]? = some (.cells L'.toArray 48 (0, 0)) → L'.length = E.vc * 5 → L'.take ((lefts E k).length * 5) = flCells (lefts E k) → ∃ a n c, u3 = .slice a n c ∧ RdO w.heap.size B E (WC.setCell ⟨E.b, 6, none⟩ (.slice (some ⟨g, 0, none⟩) (lefts E k).length E.vc)) a n c ((E.fs.filter (comes E)).map Fx.d) ∧ Step w (WC.setCell ⟨E.b, 6, none⟩ (.slice (some ⟨g, 0, none⟩) (lefts E k).length E.vc)) E { E with clock := ckN E, fs := E.fs.filter (stays E) } B m) := by
        intro WC L' k1 k2 k3 k4
        obtain ⟨r1, a, n, c, r2, r3, _⟩ := RI.last2 Hh.out hri (by rw [hN]; exact hvo) hBg hc (by omega) k1 k2 k3 k4
        rw [hak] at r3
        rw [← hva, hlk] at r1
        rw [hlk] at r3 ⊢
        exact ⟨a, n, c, r2, r3, by rw [← hva]; exact r1⟩
      have hcel : Hid (∀ WC : World, Kept wr WC (fun j => j = g) → WC.cell? ⟨E.b, 6, none⟩ = some (.slice (some ⟨g, 0, none⟩) k E.vc) ∧ WC.frozen? ⟨E.b, 6, none⟩ = false) := by
        intro WC k1
        have := hri.ko.keep k1 hri.core
        refine ⟨?_, this.fz 6⟩
        have h6 := this.c6
        rw [← hva, ← hN]
        exact h6
      have hL := hri.len
      have hblk := hri.blk
      have htk := hri.tk
      by_cases hvp : E.vc = (lefts E k).length
      · have hcl : (Builtin.clear_ #[43] 0 #[.slice (some ⟨g, 0, none⟩) (k - (lefts E k).length) 0]).run Try.prog wr = .ok (.tuple #[]) wr := by
          have h1 := run_clearF wr 0 g 0 (k - (lefts E k).length) 0 (fun j hj => by omega) (fun j hj => by omega)
          have e : (Builtin.zeroCells (Value.agg #[.int .i64 0, .int .i64 0, .int .i64 0, .int .i64 0, .slice none 0 0]).cells (k - (lefts E k).length)).toList = [] := List.eq_nil_of_length_eq_zero (by rw [zc_len]; omega)
          rw [e] at h1
          exact h1
        have hdone := hfin.out wr L (Kept.refl _ _) hblk hL htk
        have HDn : Hid (∃ a n c, u3 = .slice a n c ∧ RdO w.heap.size B E (wr.setCell ⟨E.b, 6, none⟩ (.slice (some ⟨g, 0, none⟩) (lefts E k).length E.vc)) a n c ((E.fs.filter (comes E)).map Fx.d) ∧ Step w (wr.setCell ⟨E.b, 6, none⟩ (.slice (some ⟨g, 0, none⟩) (lefts E k).length E.vc)) E { E with clock := ckN E, fs := E.fs.filter (stays E) } B m) := hdone
        clear hdone hfin hblk hL htk hlk hak
        generalize hp : (lefts E k).length = p at *
        have i1 : (0 : Int) ≤ (p : Int) := Int.natCast_nonneg _
        have i2 : (p : Int) ≤ (k : Int) := by omega
        have i3 : (k : Int) ≤ (E.vc : Int) := by omega
        clear hri
        go_wp2
        obtain ⟨a, n, c, r1, r2, r3⟩ := HDn.out
        go_ret
        rw [hvp] at r2
        exact ⟨a, n, c, by rw [← r1]; rfl, r2, by simpa only [hva, hvp, hcN] using r3⟩
      · have hb5 : ∀ j, j < (k - (lefts E k).length) * 5 → (wr.cell? ⟨g, (lefts E k).length * 5 + j, none⟩).isSome = true := fun j hj => by
          rw [blk_cell hblk _]
          simp only [List.getElem?_toArray]
          rw [List.getElem?_eq_getElem (by omega)]
          rfl
        have hcl := run_clearF wr 0 g ((lefts E k).length * 5) (k - (lefts E k).length) (E.vc - (lefts E k).length) hb5 (fun j hj => frozen_of_row wr _ _ _ _ hblk)
        have hzl := zc_len (k - (lefts E k).length)
        generalize hzs : (Builtin.zeroCells (Value.agg #[.int .i64 0, .int .i64 0, .int .i64 0, .int .i64 0, .slice none 0 0]).cells (k - (lefts E k).length)).toList = zs at hcl hzl
        have hfit : (lefts E k).length * 5 + zs.length ≤ L.length := by omega
        have hdone := hfin.out (wr.setCells g ((lefts E k).length * 5) zs) (splice L ((lefts E k).length * 5) zs) (kept_setCells _ _ _) (heap_setCells _ _ wr L hblk hfit) (by rw [length_splice _ _ _ hfit, hL]) (by rw [splice_take _ _ _ (by omega)]; exact htk)
        obtain ⟨t6, tz⟩ := hcel.out (wr.setCells g ((lefts E k).length * 5) zs) (kept_setCells _ _ _)
        generalize hWC : wr.setCells g ((lefts E k).length * 5) zs = WC at hdone hcl t6 tz
        have HDn : Hid (∃ a n c, u3 = .slice a n c ∧ RdO w.heap.size B E (WC.setCell ⟨E.b, 6, none⟩ (.slice (some ⟨g, 0, none⟩) (lefts E k).length E.vc)) a n c ((E.fs.filter (comes E)).map Fx.d) ∧ Step w (WC.setCell ⟨E.b, 6, none⟩ (.slice (some ⟨g, 0, none⟩) (lefts E k).length E.vc)) E { E with clock := ckN E, fs := E.fs.filter (stays E) } B m) := hdone
        clear hdone hfin hblk hL htk hlk hak hb5 hzs hfit hWC
        generalize hp : (lefts E k).length = p at *
        have i1 : (0 : Int) ≤ (p : Int) := Int.natCast_nonneg _
        have i2 : (p : Int) ≤ (k : Int) := by omega
        have i3 : (k : Int) ≤ (E.vc : Int) := by omega
        clear hri
        go_wp2
        obtain ⟨a, n, c, r1, r2, r3⟩ := HDn.out
        go_ret
        exact ⟨a, n, c, by rw [← r1]; rfl, r2, by simpa only [hva, hcN] using r3⟩

set_option maxHeartbeats 400000 in
theorem round_nil2 (h : E.Ok w B m) (hno : E.fs = []) : Calls Try.prog 15 #[.pointer (some ⟨E.b, 0, none⟩)] w fun e w' => ∃ a n c, e = .returned (.slice a n c) ∧ RdO w.heap.size B E w' a n c ((E.fs.filter (comes E)).map Fx.d) ∧ Step w w' E { E with clock := ckN E, fs := E.fs.filter (stays E) } B m := by
  have c0 := h.c0
  have c6 := h.c6
  have z0 := h.fz 0
  have z6 := h.fz 6
  have hl : E.fs.length = 0 := by rw [hno]; rfl
  rw [hl] at c6
  have hres : Hid (Step w ((w.setCell ⟨E.b, 0, none⟩ (.int .i64 (ckN E))).setCell ⟨E.b, 6, none⟩ (.slice E.va 0 E.vc)) E { E with clock := ckN E } B m) := by
    have s1 : Step w (w.setCell ⟨E.b, 0, none⟩ (.int .i64 (ckN E))) E { E with clock := ckN E } B m := ⟨h.setB 0 _ rfl rfl, kset _ _ _ _ (.inl rfl), fun j hj => .inl hj⟩
    have s2 : Step (w.setCell ⟨E.b, 0, none⟩ (.int .i64 (ckN E))) ((w.setCell ⟨E.b, 0, none⟩ (.int .i64 (ckN E))).setCell ⟨E.b, 6, none⟩ (.slice E.va 0 E.vc)) { E with clock := ckN E } { E with clock := ckN E } B m := ⟨s1.ok.setB (E' := { E with clock := ckN E }) 6 _ (by simp [En.cs, hl]) rfl, kset _ _ _ _ (.inl rfl), fun j hj => .inl hj⟩
    exact s1.trans s2
  have hfs : E.fs.filter (stays E) = E.fs := by rw [hno]; rfl
  rw [hfs]
  rw [hno]
  have hck : wrap64 (E.clock + 1) = ckN E := rfl
  generalize ckN E = cN at *
  have hcl : ∀ (W : World) (a : Option Addr) (c : Nat) (ty : TypeId), (Builtin.clear_ #[43] ty #[.slice a 0 c]).run Try.prog W = .ok (.tuple #[]) W := by
    intro W a c ty
    cases a <;> simp [Builtin.clear_, run_underlying Try.underlying43]
  have hrow := h.fls.row
  rw [hl] at hrow
  have hn : E.va = none ∧ E.vc = 0 ∨ ∃ g, E.va = some ⟨g, 0, none⟩ := by
    rcases hrow.2 with ⟨h1, h2⟩ | ⟨g, cap, cur, hv, _⟩
    · simp at h1; exact .inl h1
    · simp at hv; exact .inr ⟨g, hv.1⟩
  clear h hrow
  rcases hn with ⟨hva, hvc⟩ | ⟨g, hva⟩
  · rw [hva, hvc] at c6
    have HR := hres.out
    simp only [hva, hvc, hno] at HR
    clear hres hfs
    go_enter Try.func15, Try.ntmps15
    go_wp2
    refine wp_loop_rounds 1 ?_
    rw [rounds_succ]
    go_wp2
    go_ret
    exact ⟨none, 0, 0, rfl, ⟨[], List.nil_sublist _, rfl, rfl, row_nil _ _ _ _, fun f hf => (by cases hf)⟩, by simpa only [hva, hvc] using HR⟩
  · rw [hva] at c6
    have HR := hres.out
    simp only [hva, hno] at HR
    clear hres hfs
    have hcap : (0 : Int) ≤ (E.vc : Int) := Int.natCast_nonneg _
    go_enter Try.func15, Try.ntmps15
    go_wp2
    refine wp_loop_rounds 1 ?_
    rw [rounds_succ]
    go_wp2
    all_goals (go_ret; exact ⟨none, 0, 0, rfl, ⟨[], List.nil_sublist _, rfl, rfl, row_nil _ _ _ _, fun f hf => (by cases hf)⟩, by simpa only [hva] using HR⟩)
end
end Go.Proofs.Ythogcanfinjfdaa.Et
namespace Go.Proofs.Ythogcanfinjfdaa.Et
open Go.RowKit Go.Maps
set_option linter.unusedVariables false
set_option linter.unusedSimpArgs false
set_option maxRecDepth 100000
section
variable {E E' : En} {R R' : Rn} {w w' w1 w2 w3 wa : World} {B K m : Nat}
theorem Rd.keep {P : Nat → Prop} {ao : Option Addr} {n c : Nat} {bs : List Int} (h : Rd w ao n c bs) (k : Kept w w' P) (hp : ∀ b off, ao = some ⟨b, off, none⟩ → ¬ P b) : Rd w' ao n c bs := by
  obtain ⟨h1, h2, h3, h4⟩ := h
  refine ⟨h1, h2, h3.elim (fun hh => Or.inl hh) (fun hh => Or.inr ?_), h4⟩
  obtain ⟨b, off, hb, hc⟩ := hh
  exact ⟨b, off, hb, fun i hi => kcell k (hc i hi) (hp b off hb)⟩
theorem rd_none (w : World) : Rd w none 0 0 [] := ⟨rfl, fun _ => ⟨rfl, rfl⟩, .inl rfl, fun i => by simp⟩
theorem round_any2 (h : E.Ok w B m) (hB : B ≤ w.heap.size) (hlen : E.fs.length ≤ 20000) : Calls Try.prog 15 #[.pointer (some ⟨E.b, 0, none⟩)] w fun e w' => ∃ a n c, e = .returned (.slice a n c) ∧ RdO w.heap.size B E w' a n c ((E.fs.filter (comes E)).map Fx.d) ∧ Step w w' E { E with clock := ckN E, fs := E.fs.filter (stays E) } B m := by
  by_cases hl : 0 < E.fs.length
  · exact round_cons2 h hB hl hlen
  · exact round_nil2 h (List.eq_nil_of_length_eq_zero (by omega))
theorem pair_round (h : Duo E R w B K) (hK : K ≤ 2199023255551) : ∀ w', Below w.heap.size w w' → Calls Try.prog 15 #[.pointer (some ⟨E.b, 0, none⟩)] w' fun e w1 => ∃ a n c, e = .returned (.slice a n c) ∧ n ≤ 2199023255552 ∧ ∀ w2, Below w1.heap.size w1 w2 → Calls Try.prog 83 #[.pointer (some ⟨R.b, 0, none⟩)] w2 fun e w3 => ∃ a' n' c', e = .returned (.slice a' n' c') ∧ (∃ ds, RdF w3 a n ds ∧ RdF w3 a' n' ds) ∧ ∃ E' R', Dtep w' w3 E E' R R' B K := by
  intro w' hb
  have hD := h.still hb
  have hfew : E.fs.length ≤ 20000 := by have := h.s.few; have := h.s.r1; omega
  have hlen := h.s.len
  refine (round_any2 hD.e hD.hB hfew).mono ?_
  rintro e w1 ⟨a, n, c, rfl, hro, st⟩
  have hn : n ≤ 20000 := by
    obtain ⟨L, h1, _, h3, _⟩ := hro
    have := h1.length_le
    omega
  refine ⟨a, n, c, rfl, by omega, fun w2 hb2 => ?_⟩
  have st2 := st.post hb2
  have hR2 := hD.rAt st2
  refine (rround_any hR2 (by omega) h.s.szR).mono ?_
  rintro e w3 ⟨a', n', c', rfl, hrd, rt⟩
  have hck := h.s.clock
  rw [hck] at hrd rt
  rw [h.s.come hR2] at hrd
  refine ⟨a', n', c', rfl, ⟨_, ?_, hrd⟩, _, _, hD.done st2 rt ⟨h.s.round, rfl, rfl⟩ (by omega)⟩
  have hro2 : RdO w'.heap.size B E w2 a n c ((E.fs.filter (comes E)).map Fx.d) := hro.keep (Kept.ofBelow hb2 (fun _ => False)) (fun _ _ => id) (fun _ _ => id)
  exact (hro2.keep rt.kept (fun j hj e => by have := hD.r.ltOwn e; omega) (fun j hj e => hD.d j hj e)).rdf
theorem pair_flights (h : Duo E R w B K) (hK : K ≤ 2199023255551) : ∀ w', Below w.heap.size w w' → Calls Try.prog 17 #[.pointer (some ⟨E.b, 0, none⟩)] w' fun e w1 => ∃ a n c, e = .returned (.slice a n c) ∧ n ≤ 2199023255552 ∧ ∀ w2, Below w1.heap.size w1 w2 → Calls Try.prog 85 #[.pointer (some ⟨R.b, 0, none⟩)] w2 fun e w3 => ∃ a' n' c', e = .returned (.slice a' n' c') ∧ (∃ ds, RdF w3 a n ds ∧ RdF w3 a' n' ds) ∧ ∃ E' R', Dtep w' w3 E E' R R' B K := by
  intro w' hb
  have hD := h.still hb
  have hfew : E.fs.length ≤ 20000 := by have := h.s.few; have := h.s.r1; omega
  have hlen := h.s.len
  refine (flights_any hD.e hfew h.s.szE).mono ?_
  rintro e w1 ⟨a, rfl, hrd, hb1⟩
  refine ⟨a, _, _, rfl, by omega, fun w2 hb2 => ?_⟩
  have hb3 : Below w'.heap.size w' w2 := bstep hb1 hb2
  refine (rflights_any (hD.r.still hb3) (by omega) (by rw [h.s.lvl]; exact hfew) h.s.szR).mono ?_
  rintro e w3 ⟨a', n', c', rfl, hrd2, hb4⟩
  rw [← h.s.fs] at hrd2
  exact ⟨a', n', c', rfl, ⟨_, (hrd.still hb2).still hb4, hrd2⟩, _, _, hD.none (bstep hb3 hb4)⟩
theorem pair_take (h : Duo E R w B K) (hK : K ≤ 2199023255551) (k : Int) : ∃ fi fs fd fu n y, ∀ w', Below w.heap.size w w' → Calls Try.prog 26 (aN E.b k) w' fun e w1 => ∃ a c, e = .returned (.tuple #[.agg #[.int .i64 fi, .int .i64 fs, .int .i64 fd, .int .i64 fu, .slice a n c], .int .i64 y]) ∧ Kept w' w1 E.own ∧ ∀ w2, Below w1.heap.size w1 w2 → Calls Try.prog 84 (aN R.b k) w2 fun e w3 => ∃ a' c', e = .returned (.tuple #[.agg #[.int .i64 fi, .int .i64 fs, .int .i64 fd, .int .i64 fu, .slice a' n c'], .int .i64 y]) ∧ Kept w2 w3 R.own ∧ (∃ bs, Rd w3 a n c bs ∧ Rd w3 a' n c' bs) ∧ ∃ E' R', Dtep w' w3 E E' R R' B K := by
  have hfew : E.fs.length ≤ 20000 := by have := h.s.few; have := h.s.r1; omega
  have hlen := h.s.len
  by_cases hk : 0 ≤ k ∧ k < E.fs.length
  · obtain ⟨h0, h1⟩ := hk
    obtain ⟨i, rfl⟩ : ∃ i : Nat, k = i := ⟨k.toNat, by omega⟩
    have hi : i < E.fs.length := by omega
    have hat := h.s.place i hi
    obtain ⟨hd, hil⟩ := h.s.at i hi
    have hfE : E.fs.getD i f0 ∈ E.fs := mem_getD hi
    have hfR := pmem_getD hil
    obtain ⟨p, q, hp, hq, hpn, hqn, hpq⟩ := h.e.pth _ hfE
    have e1 : (R.all.getD ((live R).getD i 0) p0).f.id = (E.fs.getD i f0).id := (congrArg Fd.id hd).symm
    have e2 : (R.all.getD ((live R).getD i 0) p0).f.src = p := (congrArg Fd.src hd).symm.trans hp
    have e3 : (R.all.getD ((live R).getD i 0) p0).f.dst = q := (congrArg Fd.dst hd).symm.trans hq
    have e4 : (R.all.getD ((live R).getD i 0) p0).f.due = (E.fs.getD i f0).due := (congrArg Fd.due hd).symm
    have e5 : (R.all.getD ((live R).getD i 0) p0).f.bs = (E.fs.getD i f0).bs := (congrArg Fd.bs hd).symm
    have hbE := h.e.fls.byt _ hfE
    have hbR := h.r.byt _ hfR
    have e6 : (R.all.getD ((live R).getD i 0) p0).f.n = (E.fs.getD i f0).n := by rw [← hbR.rd.1, ← hbE.rd.1, e5]
    have hbar := h.s.bar hpn hqn hpq
    by_cases hb0 : barE E p q = 0
    · refine ⟨(E.fs.getD i f0).id, p, q, (E.fs.getD i f0).due, (E.fs.getD i f0).n, 0, fun w' hb => ?_⟩
      have hD := h.still hb
      refine (take_ok hD.e i hi hfew p q hp hq hpn hqn hb0).mono ?_
      rintro e w1 ⟨rfl, ⟨a, c, st⟩, hrd⟩
      refine ⟨_, _, by unfold Fx.cs; rw [hp, hq], st.kept, fun w2 hb2 => ?_⟩
      have st2 := st.post hb2
      have hR2 := hD.rAt st2
      refine (rtake_ok hR2 (Nat.le_trans hD.hB st2.kept.size) (by omega) i _ hat hil p q e2 e3 (by rw [h.s.nn]; exact hpn) (by rw [h.s.nn]; exact hqn) (by rw [hbar]; exact hb0) (h.s.szR _ hfR)).mono ?_
      rintro e w3 ⟨a', c', rfl, ho, rt⟩
      rw [e6, e5] at ho
      refine ⟨a', c', by rw [e1, e4, e6], rt.kept, ⟨_, (hrd.still hb2).keep rt.kept (fun b off hbo ho2 => ?_), row_rd ho hbE.2⟩, _, _, hD.done st2 rt ⟨h.s.erase i hi a c, rfl, rfl⟩ (by omega)⟩
      refine h.d b ?_ ho2
      exact .inr (.inr (.inr (.inr (.inr ⟨_, hfE, by show (Value.slice _ _ _).ownBlock = _; rw [hbo]; rfl⟩))))
    · refine ⟨0, 0, 0, 0, 0, barE E p q, fun w' hb => ?_⟩
      have hD := h.still hb
      refine (take_bar hD.e i hi p q hp hq hpn hqn hb0).mono ?_
      rintro e w1 ⟨rfl, hb1⟩
      refine ⟨none, 0, rfl, Kept.ofBelow hb1 _, fun w2 hb2 => ?_⟩
      have hb3 := bstep hb1 hb2
      refine (rtake_bar (hD.r.still hb3) (by omega) i _ hat hil p q e2 e3 (by rw [h.s.nn]; exact hpn) (by rw [h.s.nn]; exact hqn) (by rw [hbar]; exact hb0)).mono ?_
      rintro e w3 ⟨rfl, hb4⟩
      exact ⟨none, 0, by rw [hbar]; rfl, Kept.ofBelow hb4 _, ⟨[], rd_none _, rd_none _⟩, _, _, hD.none (bstep hb3 hb4)⟩
  · refine ⟨0, 0, 0, 0, 0, 34, fun w' hb => ?_⟩
    have hD := h.still hb
    refine (take_none hD.e k hk).mono ?_
    rintro e w1 ⟨rfl, hb1⟩
    refine ⟨none, 0, rfl, Kept.ofBelow hb1 _, fun w2 hb2 => ?_⟩
    have hb3 := bstep hb1 hb2
    have hno := h.s.noPlace k hk
    refine (rtake_none (hD.r.still hb3) (by omega) k (by rw [hno]; omega)).mono ?_
    rintro e w3 ⟨rfl, hb4⟩
    exact ⟨none, 0, rfl, Kept.ofBelow hb4 _, ⟨[], rd_none _, rd_none _⟩, _, _, hD.none (bstep hb3 hb4)⟩
end
end Go.Proofs.Ythogcanfinjfdaa.Et
namespace Go.Proofs.Ythogcanfinjfdaa.Et
open Go.RowKit Go.Maps
set_option linter.unusedVariables false
set_option linter.unusedSimpArgs false
set_option maxRecDepth 100000
section
variable {E E' : En} {R R' : Rn} {w w' w1 w2 w3 wa : World} {B K m : Nat}
def tup (x y : Int) : Value := .tuple #[.int .i64 x, .int .i64 y]
def aL (b a c : Nat) (ao : Option Addr) (n cp : Nat) : Array Value := #[.pointer (some ⟨b, 0, none⟩), .agg #[.int .i64 a, .int .i64 c], .slice ao n cp]
def aP (b : Nat) (p q : Int) (ao : Option Addr) (n cp : Nat) (lv : Bool) : Array Value := #[.pointer (some ⟨b, 0, none⟩), .int .i64 p, .int .i64 q, .slice ao n cp, .bool lv]
def aQ (b : Nat) (p q : Int) (ao : Option Addr) (n cp : Nat) : Array Value := #[.pointer (some ⟨b, 0, none⟩), .int .i64 p, .int .i64 q, .slice ao n cp]
theorem way_pair (h : Duo E R w B K) (hK : K ≤ 2199023255551) (a b : Nat) (ha : a < E.nn) (hb : b < E.nn) (hab : a ≠ b) (n : Nat) (hn : n ≤ 40000) (bs : List Int) (ea : Option Addr) (ec : Nat) (he : Rd w ea n ec bs) :
    ∃ (x y : Int) (C : En → Prop) (D : Rn → Prop), PE 43 (aL E.b a b ea n ec) E w B K (tup x y) C ∧ (∀ lv, (lv = false ∨ E.up a = true) → ∀ ra rc w', R.Ok w' B → B ≤ w'.heap.size → Rd w' ra n rc bs → Calls Try.prog 89 (aP R.b a b ra n rc lv) w' fun e w1 => e = .returned (tup x y) ∧ ∃ R1, Rtep w' w1 R R1 B ∧ D R1) ∧ ∀ E1 R1, C E1 → D R1 → Sim E1 R1 (K + 1) ∧ E1.b = E.b ∧ R1.b = R.b := by
  have hn16 := h.e.n16
  have hlen := h.s.len
  obtain ⟨hcut, hdl⟩ := h.s.pat a b ha hb hab
  have ha' : a < R.nn := by rw [h.s.nn]; exact ha
  have hb' : b < R.nn := by rw [h.s.nn]; exact hb
  have hup := (h.s.nod a ha).1
  cases hc : E.cut a b with
  | true =>
    refine ⟨0, 30, (fun E1 => E1 = E), (fun R1 => R1 = R), ?_, ?_, ?_⟩
    · exact pe_none h (fun w' hE => launch_cut hE a b (by omega) (by omega) hc _)
    · exact fun lv hl ra rc w' hR hB hrd => (rpost_cut hR a b ra n rc lv ha' hb' hab hn (by rw [hup]; exact hl) (by rw [hcut]; exact hc)).mono fun e w1 ⟨x1, x2⟩ => ⟨x1, R, by subst x2; exact Rtep.same hR, rfl⟩
    · rintro E1 R1 rfl rfl
      exact ⟨h.s.same, rfl, rfl⟩
  | false =>
    by_cases hl : E.room ≤ E.fs.length
    · refine ⟨0, 31, (fun E1 => E1 = E), (fun R1 => R1 = R), ?_, ?_, ?_⟩
      · exact pe_none h (fun w' hE => launch_full hE a b (by omega) (by omega) hc _ _ _ hl)
      · exact fun lv hlv ra rc w' hR hB hrd => (rpost_room hR (by omega) a b ra n rc lv ha' hb' hab hn (by rw [hup]; exact hlv) (by rw [hcut]; exact hc) (by rw [h.s.room, h.s.lvl]; exact hl)).mono fun e w1 ⟨x1, x2⟩ => ⟨x1, R, Rtep.none hR x2, rfl⟩
      · rintro E1 R1 rfl rfl
        exact ⟨h.s.same, rfl, rfl⟩
    · refine ⟨(R.all.length : Int) + 1, 0, (fun E1 => ∃ g a' c', E1 = added E (nf E a b n bs g) a' c'), (fun R1 => ∃ g a' va vc, R1 = { R with va := va, vc := vc, all := R.all ++ [⟨⟨R.all.length + 1, a, b, wrap64 (R.now + R.slow a b), a', n, g, bs⟩, false⟩] }), ?_, ?_, ?_⟩
      · intro w' hbw
        have hD := h.still hbw
        refine (launch_ok hD.e hD.hB a b ha hb hab hc ea n ec bs (he.still hbw) (by omega) (by omega) h.s.r1.2).mono ?_
        rintro e w1 ⟨rfl, g, a', c', st⟩
        exact ⟨by rw [h.s.nxt hK]; rfl, _, _, st, by omega, g, a', c', rfl⟩
      · intro lv hlv ra rc w' hR hB hrd
        refine (rpost_ok hR hB (by omega) a b ra n rc bs hrd lv ha' hb' hab hn (by rw [hup]; exact hlv) (by rw [hcut]; exact hc) (by rw [h.s.room, h.s.lvl]; omega)).mono ?_
        rintro e w1 ⟨rfl, g, a', va, vc, rt⟩
        exact ⟨rfl, _, rt, g, a', va, vc, rfl⟩
      · rintro E1 R1 ⟨g, a', c', rfl⟩ ⟨g2, a2, va, vc, rfl⟩
        refine ⟨h.s.add hK _ _ rfl ?_ hn hn (by omega) _ _ _ _, rfl, rfl⟩
        simp only [Fx.d, nf]
        rw [h.s.nxt hK, h.s.now, hdl, wrap_eq]
theorem pair_post (h : Duo E R w B K) (hK : K ≤ 2199023255551) (p q : Int) (n : Nat) (bs : List Int) (ea ra : Option Addr) (ec rc : Nat) (he : Rd w ea n ec bs) (hr : ∀ w', Below B w w' → Rd w' ra n rc bs) : ∃ x y, Pair 14 81 (aQ E.b p q ea n ec) (aQ R.b p q ra n rc) E R w B K (tup x y) := by
  cases hno : (isP E p q && decide ((n : Int) ≤ 40000)) with
  | false =>
    have hno2 : rP R p q = false ∨ 40000 < n := by
      rw [h.s.pq]
      cases hp : isP E p q with
      | false => exact .inl rfl
      | true => right; rw [hp] at hno; simp at hno; omega
    exact ⟨0, 1, pair_none h (fun w' hE => post_arg hE p q ea n ec hno) (fun w' hR => rPost_of p q ra n rc 0 1 _ (calls_same (rpost_arg hR p q ra n rc true hno2)))⟩
  | true =>
    have hno' := hno
    rw [Bool.and_eq_true] at hno'
    obtain ⟨hp, hn⟩ := hno'
    have hn : n ≤ 40000 := by have := of_decide_eq_true hn; omega
    obtain ⟨a, b, rfl, rfl, ha, hb, hab⟩ := isP_true hp
    have hup := (h.s.nod a ha).1
    cases hu : E.up a with
    | false =>
      exact ⟨0, 32, pair_none h (fun w' hE => post_down hE a b ea n ec ha hno hu) (fun w' hR => rPost_of a b ra n rc 0 32 _ (calls_same (rpost_down hR a b ra n rc (by rw [h.s.nn]; exact ha) (by rw [h.s.nn]; exact hb) hab hn (by rw [hup]; exact hu))))⟩
    | true =>
      obtain ⟨x, y, C, D, h1, h2, h3⟩ := way_pair h hK a b ha hb hab n hn bs ea ec he
      refine ⟨x, y, pair_of h (C := C) (D := D) (fun w' hbw => ?_) (fun w' hR hB hlow => ?_) h3⟩
      · refine post_go (h.still hbw).e a b ea n ec ha hno hu _ (fun w2 hb2 => ?_)
        refine (h1 w2 (bstep hbw hb2)).mono ?_
        rintro e w3 ⟨rfl, E1, m1, st, hm, hc⟩
        exact ⟨⟨_, _, rfl⟩, rfl, E1, m1, st.pre hb2, hm, hc⟩
      · exact rPost_of a b ra n rc x y (fun w1 => ∃ R1, Rtep w' w1 R R1 B ∧ D R1) (h2 true (.inr hu) ra rc w' hR hB (hr w' hlow))
end
end Go.Proofs.Ythogcanfinjfdaa.Et
namespace Go.Proofs.Ythogcanfinjfdaa.Et
open Go.RowKit Go.Maps
set_option linter.unusedVariables false
set_option linter.unusedSimpArgs false
set_option maxRecDepth 100000
section
variable {E E' : En} {R R' : Rn} {w w' w1 w2 w3 wa : World} {B K m : Nat}
def aD (b : Nat) (v : Ev) : Array Value := #[.pointer (some ⟨b, 0, none⟩), .agg v.cs]
structure GoodV (w : World) (own : Nat → Prop) (v : Ev) (k a b n : Int) (bn sn : Nat) (bs xs : List Int) : Prop where
  hk : v.k = k
  ha : v.a = a
  hb : v.b = b
  hn : v.n = n
  hbn : v.bn = bn
  hsn : v.sn = sn
  rd : Rd w v.ba bn v.bc bs
  sd : ∃ gs, v.sa = some ⟨gs, 0, none⟩ ∧ (∀ i, i < sn → w.cell? ⟨gs, 0 + i, none⟩ = some (.int .i64 (xs.getD i 0))) ∧ ¬ own gs
theorem GoodV.still {own : Nat → Prop} {v : Ev} {k a b n : Int} {bn sn : Nat} {bs xs : List Int} (g : GoodV w own v k a b n bn sn bs xs) (hb : Below w.heap.size w w') : GoodV w' own v k a b n bn sn bs xs := by
  obtain ⟨gs, h1, h2, h3⟩ := g.sd
  exact ⟨g.hk, g.ha, g.hb, g.hn, g.hbn, g.hsn, g.rd.still hb, gs, h1, fun i hi => below_at hb (h2 i hi), h3⟩
def PairDo (vE : Ev) (E : En) (R : Rn) (w : World) (B K : Nat) (x : Int) (k a b n : Int) (bn sn : Nat) (bs xs : List Int) : Prop :=
  ∀ w', Below w.heap.size w w' → Calls Try.prog 13 (aD E.b vE) w' fun e w1 => e = .returned (.int .i64 x) ∧ Kept w' w1 E.own ∧
    ∀ w2 vR, Below w1.heap.size w1 w2 → GoodV w2 R.own vR k a b n bn sn bs xs → Calls Try.prog 86 (aD R.b vR) w2 fun e w3 => e = .returned (.int .i64 x) ∧ Kept w2 w3 R.own ∧ ∃ E' R', Dtep w' w3 E E' R R' B K
def RDoes (R : Rn) (B : Nat) (x : Int) (D : Rn → Prop) (k a b n : Int) (bn sn : Nat) (bs xs : List Int) : Prop :=
  ∀ w2 vR, R.Ok w2 B → B ≤ w2.heap.size → GoodV w2 R.own vR k a b n bn sn bs xs → Calls Try.prog 86 (aD R.b vR) w2 fun e w3 => e = .returned (.int .i64 x) ∧ ∃ R1, Rtep w2 w3 R R1 B ∧ D R1
theorem pairdo_of {vE : Ev} {x k a b n : Int} {bn sn : Nat} {bs xs : List Int} {C : En → Prop} {D : Rn → Prop} (h : Duo E R w B K) (he : PE 13 (aD E.b vE) E w B K (.int .i64 x) C) (hr : RDoes R B x D k a b n bn sn bs xs) (hs : ∀ E1 R1, C E1 → D R1 → Sim E1 R1 (K + 1) ∧ E1.b = E.b ∧ R1.b = R.b) : PairDo vE E R w B K x k a b n bn sn bs xs := by
  intro w' hb
  refine (he w' hb).mono ?_
  rintro e w1 ⟨rfl, E1, m1, st, hm, hc⟩
  refine ⟨rfl, st.kept, fun w2 vR hb2 hg => ?_⟩
  have hD := h.still hb
  have st2 := st.post hb2
  refine (hr w2 vR (hD.rAt st2) (Nat.le_trans hD.hB st2.kept.size) hg).mono ?_
  rintro e w3 ⟨rfl, R1, rt, hd⟩
  exact ⟨rfl, rt.kept, E1, R1, hD.done st2 rt (hs E1 R1 hc hd) hm⟩
theorem simNone (h : Duo E R w B K) : ∀ E1 R1, E1 = E → R1 = R → Sim E1 R1 (K + 1) ∧ E1.b = E.b ∧ R1.b = R.b := fun E1 R1 h1 h2 => by subst h1 h2; exact ⟨h.s.same, rfl, rfl⟩
theorem pe_path {vE : Ev} {x : Int} {C : En → Prop} (hk : vE.k = 8 ∨ vE.k = 9 ∨ vE.k = 10) (he : PE 38 (aD E.b vE) E w B K (.int .i64 x) C) : PE 13 (aD E.b vE) E w B K (.int .i64 x) C := fun w' hb =>
  do_path E.b vE hk _ (fun w2 hb2 => (he w2 (bstep hb hb2)).mono fun e w3 ⟨x1, E1, m1, st, hm, hc⟩ => ⟨⟨_, x1⟩, x1, E1, m1, st.pre hb2, hm, hc⟩)
theorem pe_packet {vE : Ev} {x : Int} {C : En → Prop} (hk : vE.k = 12 ∨ vE.k = 13 ∨ vE.k = 15 ∨ vE.k = 16) (he : PE 40 (aD E.b vE) E w B K (.int .i64 x) C) : PE 13 (aD E.b vE) E w B K (.int .i64 x) C := fun w' hb =>
  do_packet E.b vE hk _ (fun w2 hb2 => (he w2 (bstep hb hb2)).mono fun e w3 ⟨x1, E1, m1, st, hm, hc⟩ => ⟨⟨_, x1⟩, x1, E1, m1, st.pre hb2, hm, hc⟩)
theorem rd_path {x k a b n : Int} {bn sn : Nat} {bs xs : List Int} {D : Rn → Prop} (hk : k = 8 ∨ k = 9 ∨ k = 10) (hr : ∀ w2 vR, R.Ok w2 B → GoodV w2 R.own vR k a b n bn sn bs xs → Calls Try.prog 93 (aD R.b vR) w2 fun e w3 => e = .returned (.int .i64 x) ∧ ∃ R1, Rtep w2 w3 R R1 B ∧ D R1) : RDoes R B x D k a b n bn sn bs xs := fun w2 vR hR hB hg =>
  rdo_path R.b vR (by rw [hg.hk]; exact hk) _ (fun w3 hb3 => (hr w3 vR (hR.still hb3) (hg.still hb3)).mono fun e w4 ⟨x1, R1, rt, hd⟩ => ⟨⟨_, x1⟩, x1, R1, rt.pre hb3, hd⟩)
theorem rd_packet {x k a b n : Int} {bn sn : Nat} {bs xs : List Int} {D : Rn → Prop} (hA : R.all.length ≤ 2199023255551) (hk : k = 12 ∨ k = 13 ∨ k = 15 ∨ k = 16) (i : Nat) (hi : atN R a = i) (hr : ∀ w2 vR, R.Ok w2 B → B ≤ w2.heap.size → GoodV w2 R.own vR k a b n bn sn bs xs → Calls Try.prog 95 #[.pointer (some ⟨R.b, 0, none⟩), .agg vR.cs, .int .i64 i] w2 fun e w3 => e = .returned (.int .i64 x) ∧ ∃ R1, Rtep w2 w3 R R1 B ∧ D R1) : RDoes R B x D k a b n bn sn bs xs := fun w2 vR hR hB hg =>
  rdo_packet hR hA vR (by rw [hg.hk]; exact hk) i (by rw [hg.ha]; exact hi) _ (fun w3 hb3 => (hr w3 vR (hR.still hb3) (Nat.le_trans hB hb3.size) (hg.still hb3)).mono fun e w4 ⟨x1, R1, rt, hd⟩ => ⟨⟨_, x1⟩, x1, R1, rt.pre hb3, hd⟩)
theorem rt_below {x : Int} {f : Nat} {aR : Array Value} (hR : R.Ok w B) (h : Calls Try.prog f aR w fun e w' => e = .returned (.int .i64 x) ∧ Below w.heap.size w w') : Calls Try.prog f aR w fun e w3 => e = .returned (.int .i64 x) ∧ ∃ R1, Rtep w w3 R R1 B ∧ R1 = R := h.mono fun e w3 ⟨x1, x2⟩ => ⟨x1, R, Rtep.none hR x2, rfl⟩
theorem rt_step {x : Int} {f : Nat} {aR : Array Value} {R1 : Rn} (h : Calls Try.prog f aR w fun e w' => e = .returned (.int .i64 x) ∧ Rtep w w' R R1 B) : Calls Try.prog f aR w fun e w3 => e = .returned (.int .i64 x) ∧ ∃ R2, Rtep w w3 R R2 B ∧ R2 = R1 := h.mono fun e w3 ⟨x1, x2⟩ => ⟨x1, R1, x2, rfl⟩
theorem do_paths (h : Duo E R w B K) (hK : K ≤ 2199023255551) (v : Ev) (bn sn : Nat) (bs xs : List Int) (hk : v.k = 8 ∨ v.k = 9 ∨ v.k = 10) : ∃ x, PairDo v E R w B K x v.k v.a v.b v.n bn sn bs xs := by
  cases hp : isP E v.a v.b with
  | false =>
    exact ⟨1, pairdo_of h (pe_path hk (pe_none h (fun w' hE => doPath_no hE v hp))) (rd_path hk (fun w2 vR hR hg => rt_below hR (rdoPath_no hR vR (by rw [hg.ha, hg.hb, h.s.pq]; exact hp)))) (simNone h)⟩
  | true =>
    obtain ⟨a, b, ha, hb, han, hbn, hab⟩ := isP_true hp
    have han' : a < R.nn := by rw [h.s.nn]; exact han
    have hbn' : b < R.nn := by rw [h.s.nn]; exact hbn
    by_cases h10 : v.k = 10
    · by_cases hx : v.n < 1 ∨ 16 < v.n
      · exact ⟨1, pairdo_of h (pe_path hk (pe_none h (fun w' hE => doPath_dno hE v a b ha hb han hbn hab h10 hx))) (rd_path hk (fun w2 vR hR hg => rt_below hR (rdoPath_dno hR vR a b (by rw [hg.ha]; exact ha) (by rw [hg.hb]; exact hb) han' hbn' hab (by rw [hg.hk]; exact h10) (by rw [hg.hn]; exact hx)))) (simNone h)⟩
      · refine ⟨0, pairdo_of h (C := fun E1 => E1 = { E with dl := upd2 E.dl a b v.n }) (D := fun R1 => R1 = { R with slow := upd2 R.slow a b v.n }) (pe_path hk (fun w' hb' => ?_)) (rd_path hk (fun w2 vR hR hg => ?_)) ?_⟩
        · exact (doPath_dly (h.still hb').e v a b ha hb han hbn hab h10 (by omega) (by omega) (by unfold maxLen; omega)).mono fun e w1 ⟨x1, x2⟩ => ⟨x1, _, _, x2, by omega, rfl⟩
        · have := rt_step (rdoPath_dly hR vR a b (by rw [hg.ha]; exact ha) (by rw [hg.hb]; exact hb) han' hbn' hab (by rw [hg.hk]; exact h10) (by rw [hg.hn]; omega) (by rw [hg.hn]; omega))
          rw [hg.hn] at this
          exact this
        · rintro E1 R1 rfl rfl
          exact ⟨h.s.slowing a b v.n, rfl, rfl⟩
    · refine ⟨0, pairdo_of h (C := fun E1 => E1 = { E with cut := upd2 E.cut a b (!(v.k == 9)) }) (D := fun R1 => R1 = { R with shut := upd2 R.shut a b (!(v.k == 9)) }) (pe_path hk (fun w' hb' => ?_)) (rd_path hk (fun w2 vR hR hg => ?_)) ?_⟩
      · exact (doPath_open (h.still hb').e v a b ha hb han hbn hab h10 (by unfold maxLen; omega)).mono fun e w1 ⟨x1, x2⟩ => ⟨x1, _, _, x2, by omega, rfl⟩
      · refine rt_step (rdoPath_open hR vR a b (by rw [hg.ha]; exact ha) (by rw [hg.hb]; exact hb) han' hbn' hab _ ?_)
        rw [hg.hk]
        rcases hk with hk | hk | hk
        · exact .inl ⟨by rw [hk]; rfl, hk⟩
        · exact .inr ⟨by rw [hk]; rfl, hk⟩
        · exact absurd hk h10
      · rintro E1 R1 rfl rfl
        exact ⟨h.s.cutting a b _, rfl, rfl⟩
theorem do_splits (h : Duo E R w B K) (hK : K ≤ 2199023255551) (v : Ev) (bs xs : List Int) (hk : v.k = 11) (hxs : xs.length = v.sn) (gs : Nat) (hsa : v.sa = some ⟨gs, 0, none⟩) (hcs : ∀ i, i < v.sn → w.cell? ⟨gs, 0 + i, none⟩ = some (.int .i64 (xs.getD i 0))) (hgs : ¬ E.own gs) : ∃ x, PairDo v E R w B K x v.k v.a v.b v.n v.bn v.sn bs xs := by
  have pe : ∀ {x : Int} {C : En → Prop}, (∀ w', Below w.heap.size w w' → Calls Try.prog 39 #[.pointer (some ⟨E.b, 0, none⟩), .slice v.sa v.sn v.sc] w' fun e w1 => e = .returned (.int .i64 x) ∧ ∃ E1 m1, Step w' w1 E E1 B m1 ∧ m1 ≤ 256 * (K + 1) ∧ C E1) → PE 13 (aD E.b v) E w B K (.int .i64 x) C := fun {x} {C} he w' hb =>
    do_split E.b v hk _ (fun w2 hb2 => (he w2 (bstep hb hb2)).mono fun e w3 ⟨x1, E1, m1, st, hm, hc⟩ => ⟨⟨_, x1⟩, x1, E1, m1, st.pre hb2, hm, hc⟩)
  have pr : ∀ {x : Int} {D : Rn → Prop}, (∀ w2 vR, R.Ok w2 B → GoodV w2 R.own vR v.k v.a v.b v.n v.bn v.sn bs xs → Calls Try.prog 94 #[.pointer (some ⟨R.b, 0, none⟩), .slice vR.sa vR.sn vR.sc] w2 fun e w3 => e = .returned (.int .i64 x) ∧ ∃ R1, Rtep w2 w3 R R1 B ∧ D R1) → RDoes R B x D v.k v.a v.b v.n v.bn v.sn bs xs := fun {x} {D} hr w2 vR hR hB hg =>
    rdo_split R.b vR (by rw [hg.hk]; exact hk) _ (fun w3 hb3 => (hr w3 vR (hR.still hb3) (hg.still hb3)).mono fun e w4 ⟨x1, R1, rt, hd⟩ => ⟨⟨_, x1⟩, x1, R1, rt.pre hb3, hd⟩)
  by_cases hn : v.sn = E.nn
  · have hxl : xs.length = E.nn := hxs.trans hn
    by_cases hok : ∀ i, i < E.nn → okSide (xs.getD i 0)
    · refine ⟨0, pairdo_of h (C := fun E1 => E1 = { E with cut := spl E.cut xs E.nn E.nn 0 }) (D := fun R1 => R1 = { R with shut := rspl R.shut xs R.nn R.nn 0 }) (pe (fun w' hb => ?_)) (pr (fun w2 vR hR hg => ?_)) ?_⟩
      · rw [hsa, hn]
        exact (split_ok (h.still hb).e gs 0 v.sc xs hxl (fun i hi => below_at hb (hcs i (by omega))) hgs hok (by unfold maxLen; omega)).mono fun e w1 ⟨x1, x2⟩ => ⟨x1, _, _, x2, by omega, rfl⟩
      · obtain ⟨g2, e1, e2, e3⟩ := hg.sd
        rw [e1, hg.hsn, hn, ← h.s.nn]
        exact rt_step (rsplit_ok hR g2 0 vR.sc xs (fun i hi => e2 i (by rw [hn, ← h.s.nn]; exact hi)) e3 (fun i hi => hok i (by rw [← h.s.nn]; exact hi)))
      · rintro E1 R1 rfl rfl
        exact ⟨h.s.splits xs, rfl, rfl⟩
    · obtain ⟨i0, hi0⟩ := Classical.not_forall.1 hok
      obtain ⟨hi1, hbad⟩ := Classical.not_imp.1 hi0
      refine ⟨1, pairdo_of h (C := fun E1 => E1 = E) (D := fun R1 => R1 = R) (pe (fun w' hb => ?_)) (pr (fun w2 vR hR hg => ?_)) (simNone h)⟩
      · rw [hsa, hn]
        exact (split_bad (h.still hb).e gs 0 v.sc xs hxl (fun i hi => below_at hb (hcs i (by omega))) i0 hi1 hbad).mono fun e w1 ⟨x1, x2⟩ => ⟨x1, E, 256 * K, by subst x2; exact Step.same (h.still hb).e, by omega, rfl⟩
      · obtain ⟨g2, e1, e2, e3⟩ := hg.sd
        rw [e1, hg.hsn, hn, ← h.s.nn]
        exact rt_below hR (rsplit_bad hR g2 0 vR.sc xs (fun i hi => e2 i (by rw [hn, ← h.s.nn]; exact hi)) i0 (by rw [h.s.nn]; exact hi1) hbad)
  · refine ⟨1, pairdo_of h (C := fun E1 => E1 = E) (D := fun R1 => R1 = R) (pe (fun w' hb => ?_)) (pr (fun w2 vR hR hg => ?_)) (simNone h)⟩
    · exact (split_len (h.still hb).e v.sa v.sn v.sc hn).mono fun e w1 ⟨x1, x2⟩ => ⟨x1, E, 256 * K, by subst x2; exact Step.same (h.still hb).e, by omega, rfl⟩
    · rw [hg.hsn]
      exact rt_below hR (calls_same (rsplit_len hR vR.sa v.sn vR.sc (by rw [h.s.nn]; exact hn)))
theorem do_injects (h : Duo E R w B K) (hK : K ≤ 2199023255551) (v : Ev) (sn : Nat) (bs xs : List Int) (hk : v.k = 17) (hrd : Rd w v.ba v.bn v.bc bs) : ∃ x, PairDo v E R w B K x v.k v.a v.b v.n v.bn sn bs xs := by
  cases hno : (isP E v.a v.b && decide ((v.bn : Int) ≤ 40000)) with
  | false =>
    have hno2 : rP R v.a v.b = false ∨ 40000 < v.bn := by
      rw [h.s.pq]
      cases hp : isP E v.a v.b with
      | false => exact .inl rfl
      | true => right; rw [hp] at hno; simp at hno; omega
    refine ⟨1, pairdo_of h (C := fun E1 => E1 = E) (D := fun R1 => R1 = R) (fun w' hb => ?_) (fun w2 vR hR hB hg => ?_) (simNone h)⟩
    · exact do_inject E.b v hk _ (fun w2 hb2 => (inject_arg ((h.still hb).still hb2).e v.a v.b v.ba v.bn v.bc hno).mono fun e w3 ⟨x1, x2⟩ => ⟨⟨_, x1⟩, x1, E, 256 * K, Step.none (h.still hb).e (bstep hb2 x2), by omega, rfl⟩)
    · have := rdo_inject R.b vR (by rw [hg.hk]; exact hk) (fun y w1 => y = 1 ∧ ∃ R1, Rtep w2 w1 R R1 B ∧ R1 = R) (fun w3 hb3 => by
        rw [hg.ha, hg.hb, hg.hbn]
        exact (rpost_arg (hR.still hb3) v.a v.b vR.ba v.bn vR.bc false hno2).mono fun e w4 ⟨x1, x2⟩ => ⟨0, 1, x1, rfl, R, by subst x2; exact Rtep.none hR hb3, rfl⟩)
      exact this.mono fun e w3 ⟨y, x1, x2, x3⟩ => ⟨by rw [x1, x2], x3⟩
  | true =>
    have hno' := hno
    rw [Bool.and_eq_true] at hno'
    obtain ⟨hp, hn⟩ := hno'
    have hn : v.bn ≤ 40000 := by have := of_decide_eq_true hn; omega
    obtain ⟨a, b, ha, hb, han, hbn, hab⟩ := isP_true hp
    obtain ⟨x, y, C, D, h1, h2, h3⟩ := way_pair h hK a b han hbn hab v.bn hn bs v.ba v.bc hrd
    refine ⟨y, pairdo_of h (C := C) (D := D) (fun w' hbw => ?_) (fun w2 vR hR hB hg => ?_) h3⟩
    · refine do_inject E.b v hk _ (fun w2 hb2 => ?_)
      have := inject_go ((h.still hbw).still hb2).e v.a v.b v.ba v.bn v.bc hno (fun z w1 => z = y ∧ ∃ E1 m1, Step w' w1 E E1 B m1 ∧ m1 ≤ 256 * (K + 1) ∧ C E1) (fun w3 hb3 => by
        rw [ha, hb]
        refine (h1 w3 (bstep (bstep hbw hb2) hb3)).mono ?_
        rintro e w4 ⟨rfl, E1, m1, st, hm, hc⟩
        exact ⟨x, y, rfl, rfl, E1, m1, st.pre (bstep hb2 hb3), hm, hc⟩)
      exact this.mono fun e w3 ⟨z, x1, x2, x3⟩ => ⟨⟨_, x1⟩, by rw [x1, x2], x3⟩
    · have := rdo_inject R.b vR (by rw [hg.hk]; exact hk) (fun z w1 => z = y ∧ ∃ R1, Rtep w2 w1 R R1 B ∧ D R1) (fun w3 hb3 => by
        rw [hg.ha, hg.hb, hg.hbn, ha, hb]
        refine (h2 false (.inl rfl) vR.ba vR.bc w3 (hR.still hb3) (Nat.le_trans hB hb3.size) (hg.rd.still hb3)).mono ?_
        rintro e w4 ⟨rfl, R1, rt, hd⟩
        exact ⟨x, y, rfl, rfl, R1, rt.pre hb3, hd⟩)
      exact this.mono fun e w3 ⟨z, x1, x2, x3⟩ => ⟨by rw [x1, x2], x3⟩
end
end Go.Proofs.Ythogcanfinjfdaa.Et
namespace Go.Proofs.Ythogcanfinjfdaa.Et
open Go.RowKit Go.Maps
set_option linter.unusedVariables false
set_option linter.unusedSimpArgs false
set_option maxRecDepth 100000
section
variable {E E' : En} {R R' : Rn} {w w' w1 w2 w3 wa : World} {B K m : Nat}
theorem Duo.place (h : Duo E R w B K) (k : Nat) (hk : k < E.fs.length) : ∃ i, i = (live R).getD k 0 ∧ (R.all.getD i p0).f.src = (E.fs.getD k f0).src ∧ (R.all.getD i p0).f.dst = (E.fs.getD k f0).dst ∧ (R.all.getD i p0).f.due = (E.fs.getD k f0).due ∧ (R.all.getD i p0).f.bs = (E.fs.getD k f0).bs ∧ (R.all.getD i p0).f.n = (E.fs.getD k f0).n ∧ (R.all.getD i p0).f.id = (E.fs.getD k f0).id ∧ i < R.all.length ∧ (R.all.getD i p0).gone = false ∧ (E.fs.getD k f0).n ≤ 40000 ∧ (R.all.getD i p0).f.n ≤ 40000 ∧ atN R k = i := by
  obtain ⟨hd, hil⟩ := h.s.at k hk
  have hfE : E.fs.getD k f0 ∈ E.fs := mem_getD hk
  have hfR := pmem_getD hil
  have e5 : (R.all.getD ((live R).getD k 0) p0).f.bs = (E.fs.getD k f0).bs := (congrArg Fd.bs hd).symm
  refine ⟨_, rfl, (congrArg Fd.src hd).symm, (congrArg Fd.dst hd).symm, (congrArg Fd.due hd).symm, e5, ?_, (congrArg Fd.id hd).symm, hil, h.s.gone k hk, h.s.szE _ hfE, h.s.szR _ hfR, h.s.place k hk⟩
  rw [← (h.r.byt _ hfR).rd.1, ← (h.e.fls.byt _ hfE).rd.1, e5]
theorem do_packets (h : Duo E R w B K) (hK : K ≤ 2199023255551) (v : Ev) (bn sn : Nat) (bs xs : List Int) (hk : v.k = 12 ∨ v.k = 13 ∨ v.k = 15 ∨ v.k = 16) (h63 : v.n ≤ 9223372036854775807) : ∃ x, PairDo v E R w B K x v.k v.a v.b v.n bn sn bs xs := by
  have hfew : E.fs.length ≤ 20000 := by have := h.s.few; have := h.s.r1; omega
  have hlen := h.s.len
  have hA : R.all.length ≤ 2199023255551 := by omega
  by_cases hpl : 0 ≤ v.a ∧ v.a < E.fs.length
  · obtain ⟨h0, h1⟩ := hpl
    obtain ⟨k, hva⟩ : ∃ k : Nat, v.a = k := ⟨v.a.toNat, by omega⟩
    have hkl : k < E.fs.length := by omega
    obtain ⟨i, hi, e1, e2, e3, e4, e5, e6, hil, hgo, hn1, hn2, hat⟩ := h.place k hkl
    have hat' : atN R v.a = i := by rw [hva]; exact hat
    rcases hk with h12 | h13 | h15 | h16
    · refine ⟨0, pairdo_of h (C := fun E1 => ∃ a c, E1 = { E with va := a, vc := c, fs := E.fs.eraseIdx k }) (D := fun R1 => R1 = { R with all := R.all.set i { (R.all.getD i p0) with gone := true } }) (pe_packet (.inl h12) (fun w' hb => ?_)) (rd_packet hA (.inl h12) i hat' (fun w2 vR hR hB hg => ?_)) ?_⟩
      · exact (dp_drop (h.still hb).e v k hva hkl h12 hfew).mono fun e w1 ⟨x1, a, c, x2⟩ => ⟨x1, _, _, x2, by omega, a, c, rfl⟩
      · exact rt_step (rdp_drop hR hB hA vR i hil (by rw [hg.hk]; exact h12))
      · rintro E1 R1 ⟨a, c, rfl⟩ rfl
        subst hi
        exact ⟨h.s.erase k hkl a c, rfl, rfl⟩
    · by_cases hl : E.room ≤ E.fs.length
      · exact ⟨31, pairdo_of h (pe_packet (.inr (.inl h13)) (pe_none h (fun w' hE => dp_full hE v k hva hkl h13 hl))) (rd_packet hA (.inr (.inl h13)) i hat' (fun w2 vR hR hB hg => rt_below hR (rdp_full hR hB hA vR i hil (by rw [hg.hk]; exact h13) (by rw [h.s.room, h.s.lvl]; exact hl)))) (simNone h)⟩
      · refine ⟨0, pairdo_of h (C := fun E1 => ∃ g a c, E1 = added E (duped E (E.fs.getD k f0) g) a c) (D := fun R1 => ∃ g a va vc, R1 = { R with va := va, vc := vc, all := R.all ++ [⟨⟨R.all.length + 1, (R.all.getD i p0).f.src, (R.all.getD i p0).f.dst, (R.all.getD i p0).f.due, a, (R.all.getD i p0).f.n, g, (R.all.getD i p0).f.bs⟩, false⟩] }) (pe_packet (.inr (.inl h13)) (fun w' hb => ?_)) (rd_packet hA (.inr (.inl h13)) i hat' (fun w2 vR hR hB hg => ?_)) ?_⟩
        · exact (dp_dup (h.still hb).e v k hva hkl h13 (h.still hb).hB (by omega) h.s.r1.2 hn1).mono fun e w1 ⟨x1, g, a, c, x2⟩ => ⟨x1, _, _, x2, by omega, g, a, c, rfl⟩
        · exact (rdp_dup hR hB hA vR i hil (by rw [hg.hk]; exact h13) (by rw [h.s.room, h.s.lvl]; omega) hn2).mono fun e w1 ⟨x1, g, a, va, vc, x2⟩ => ⟨x1, _, x2, g, a, va, vc, rfl⟩
        · rintro E1 R1 ⟨g, a, c, rfl⟩ ⟨g2, a2, va, vc, rfl⟩
          refine ⟨h.s.add hK (duped E (E.fs.getD k f0) g) ⟨⟨R.all.length + 1, (R.all.getD i p0).f.src, (R.all.getD i p0).f.dst, (R.all.getD i p0).f.due, a2, (R.all.getD i p0).f.n, g2, (R.all.getD i p0).f.bs⟩, false⟩ rfl ?_ hn1 hn2 (by omega) _ _ _ _, rfl, rfl⟩
          simp only [Fx.d, duped]
          rw [h.s.nxt hK, e1, e2, e3, e4]
    · by_cases hx : v.n < 1 ∨ 16 < v.n
      · exact ⟨1, pairdo_of h (pe_packet (.inr (.inr (.inl h15))) (pe_none h (fun w' hE => dp_hno hE v k hva hkl h15 hx))) (rd_packet hA (.inr (.inr (.inl h15))) i hat' (fun w2 vR hR hB hg => rt_below hR (rdp_hno hR hB hA vR i hil (by rw [hg.hk]; exact h15) (by rw [hg.hn]; exact hx)))) (simNone h)⟩
      · refine ⟨0, pairdo_of h (C := fun E1 => E1 = { E with fs := E.fs.set k { (E.fs.getD k f0) with due := wrap64 ((E.fs.getD k f0).due + v.n) } }) (D := fun R1 => R1 = { R with all := R.all.set i { (R.all.getD i p0) with f := { (R.all.getD i p0).f with due := wrap64 ((R.all.getD i p0).f.due + v.n) } } }) (pe_packet (.inr (.inr (.inl h15))) (fun w' hb => ?_)) (rd_packet hA (.inr (.inr (.inl h15))) i hat' (fun w2 vR hR hB hg => ?_)) ?_⟩
        · exact (dp_hold (h.still hb).e v k hva hkl h15 (by omega) (by omega)).mono fun e w1 ⟨x1, x2⟩ => ⟨x1, _, _, x2, by omega, rfl⟩
        · have := rt_step (rdp_hold hR hB hA vR i hil (by rw [hg.hk]; exact h15) (by rw [hg.hn]; omega) (by rw [hg.hn]; omega))
          rw [hg.hn] at this
          exact this
        · rintro E1 R1 rfl rfl
          subst hi
          refine ⟨h.s.put k hkl _ _ hgo ?_ hn1 hn2, rfl, rfl⟩
          simp only [Fx.d]
          rw [e1, e2, e3, e4, e6]
    · by_cases hneg : v.n < 0
      · exact ⟨1, pairdo_of h (pe_packet (.inr (.inr (.inr h16))) (pe_none h (fun w' hE => dp_fno hE v k hva hkl h16 (.inl hneg) h63))) (rd_packet hA (.inr (.inr (.inr h16))) i hat' (fun w2 vR hR hB hg => rt_below hR (rdp_fneg hR hB hA vR i hil (by rw [hg.hk]; exact h16) (by rw [hg.hn]; exact hneg)))) (simNone h)⟩
      · obtain ⟨x, hx⟩ : ∃ x : Nat, v.n = x := ⟨v.n.toNat, by omega⟩
        by_cases hfar : (E.fs.getD k f0).n ≤ x / 8
        · exact ⟨1, pairdo_of h (pe_packet (.inr (.inr (.inr h16))) (pe_none h (fun w' hE => dp_fno hE v k hva hkl h16 (.inr (by rw [hx]; omega)) h63))) (rd_packet hA (.inr (.inr (.inr h16))) i hat' (fun w2 vR hR hB hg => rt_below hR (rdp_ffar hR hB hA vR i hil (by rw [hg.hk]; exact h16) x (by rw [hg.hn]; exact hx) (by rw [e5]; exact hfar) (by omega)))) (simNone h)⟩
        · refine ⟨0, pairdo_of h (C := fun E1 => E1 = { E with fs := E.fs.set k { (E.fs.getD k f0) with bs := (E.fs.getD k f0).bs.set (x / 8) (flipB ((E.fs.getD k f0).bs.getD (x / 8) 0) (x % 8)) } }) (D := fun R1 => R1 = { R with all := R.all.set i { (R.all.getD i p0) with f := { (R.all.getD i p0).f with bs := (R.all.getD i p0).f.bs.set (x / 8) (flipB ((R.all.getD i p0).f.bs.getD (x / 8) 0) (x % 8)) } } }) (pe_packet (.inr (.inr (.inr h16))) (fun w' hb => ?_)) (rd_packet hA (.inr (.inr (.inr h16))) i hat' (fun w2 vR hR hB hg => ?_)) ?_⟩
          · exact (dp_flip (h.still hb).e v k hva hkl h16 x hx (by omega) (by omega)).mono fun e w1 ⟨x1, x2⟩ => ⟨x1, _, _, x2, by omega, rfl⟩
          · exact rt_step (rdp_flip hR hB vR i hil (by rw [hg.hk]; exact h16) x (by rw [hg.hn]; exact hx) (by rw [e5]; omega) (by omega))
          · rintro E1 R1 rfl rfl
            subst hi
            refine ⟨h.s.put k hkl _ _ hgo ?_ hn1 hn2, rfl, rfl⟩
            simp only [Fx.d]
            rw [e1, e2, e3, e4, e6]
  · have hno := h.s.noPlace v.a hpl
    exact ⟨34, pairdo_of h (pe_packet hk (pe_none h (fun w' hE => dp_none hE v hpl))) (fun w2 vR hR hB hg => rt_below hR (rdo_none hR hA vR (by rw [hg.hk]; exact hk) (by rw [hg.ha]; exact hno))) (simNone h)⟩
theorem pair_do (h : Duo E R w B K) (hK : K ≤ 2199023255551) (v : Ev) (bs xs : List Int) (h63 : v.n ≤ 9223372036854775807) (hrd : Rd w v.ba v.bn v.bc bs) (hxs : xs.length = v.sn) (gs : Nat) (hsa : v.sa = some ⟨gs, 0, none⟩) (hcs : ∀ i, i < v.sn → w.cell? ⟨gs, 0 + i, none⟩ = some (.int .i64 (xs.getD i 0))) (hgs : ¬ E.own gs) : ∃ x, PairDo v E R w B K x v.k v.a v.b v.n v.bn v.sn bs xs := by
  by_cases h1 : v.k = 8 ∨ v.k = 9 ∨ v.k = 10
  · exact do_paths h hK v _ _ bs xs h1
  by_cases h2 : v.k = 11
  · exact do_splits h hK v bs xs h2 hxs gs hsa hcs hgs
  by_cases h3 : v.k = 12 ∨ v.k = 13 ∨ v.k = 15 ∨ v.k = 16
  · exact do_packets h hK v _ _ bs xs h3 h63
  by_cases h4 : v.k = 17
  · exact do_injects h hK v _ bs xs h4 hrd
  have hno : doKind v.k = false := by
    simp [doKind]
    omega
  exact ⟨1, pairdo_of h (pe_none h (fun w' hE => do_other E.b v hno)) (fun w2 vR hR hB hg => rt_below hR (rdo_other R.b vR (by rw [hg.hk]; exact hno))) (simNone h)⟩
end
end Go.Proofs.Ythogcanfinjfdaa.Et
