import Derived.Test.YtghihdenbdnnjaaLkG
namespace Go.Proofs.Ytghihdenbdnnjaa.Ln
open Go.RowKit Mb Oe
set_option linter.unusedVariables false
set_option maxRecDepth 100000
set_option linter.unusedSimpArgs false
section
variable {w w' W : World} {B : Nat} {X X' : Wr} {P : Px}
theorem takeD {P : Program} {md : Region.Mode} {ops : Array Oper} {Q : Exit → Act → World → Prop} {S : World → Prop} {i d : Nat} {oi : Oper} {v : Value} {fuel : Nat} {listed : Array Bool} {a : Act} {w : World} (hi : ops[i]? = some oi) (hd : oi.dst = some d)
    (hs : Region.noSelect ops = true) (hf : Region.free md ops listed i = true) (hr : (Region.ready md ops listed).contains i = true)
    (hQ : ∀ c a w, Q (.panic c) (a.put oi.dst v) w → Q (.panic c) a w) (hy : YieldsIf P ops S oi v a) (hS : S w)
    (h : wpAnyH P md ops Q S fuel (listed.setIfInBounds i true) (a.put (some d) v) w) : wpAnyH P md ops Q S (fuel + 1) listed a w :=
  wpAnyH_take hi hs hf hr hQ hy hS (by rw [hd]; exact h)
structure TgA (W0 w2 : World) (B b0 b1 : Nat) (P Q : Px) (A : Value) (e : Ending) : Prop where
  ret : e = .returned (.bool true)
  out : (∃ X Y, Tw W0 w2 B b0 b1 Q P X Y) ∧ Calls Try.prog 12 #[.pointer (some ⟨b1, 0, none⟩), A] w2 fun e w' => e = .returned (.bool true) ∧ ∃ X Y, Tw W0 w' B b0 b1 Q Q X Y
set_option maxHeartbeats 80000000 in
theorem tags_any {t : Tk} (ht : TkIn w t) : Calls Try.prog 4 #[.agg #[.int .i64 t.wi, .int .i64 t.rm, .slice t.ba t.bn t.bc, .slice t.aa t.an t.ac, .int .i64 t.o0, .int .i64 t.o1, .int .i64 t.o2, .int .i64 t.o3, .int .i64 t.sq, .slice t.da t.dn t.dc]] w fun e w' => e = .returned (.bool true) ∧ Below w.heap.size w w' := by
  obtain ⟨win, hwin⟩ : ∃ k, 1 + (absI t.wi).toNat % 5 = k := ⟨_, rfl⟩
  obtain ⟨space, hsp⟩ : ∃ k, win + (absI t.rm).toNat % 9 = k := ⟨_, rfl⟩
  have hw1 : 1 ≤ win ∧ win ≤ 5 ∧ win ≤ space ∧ space ≤ 13 := by have := Nat.mod_lt (absI t.wi).toNat (show 0 < 5 by omega); have := Nat.mod_lt (absI t.rm).toNat (show 0 < 9 by omega); omega
  generalize hW0 : w.alloc (.cells #[.int .i64 t.wi, .int .i64 t.rm, .slice t.ba t.bn t.bc, .slice t.aa t.an t.ac, .int .i64 t.o0, .int .i64 t.o1, .int .i64 t.o2, .int .i64 t.o3, .int .i64 t.sq, .slice t.da t.dn t.dc] 27) = W0
  have hbW : Below w.heap.size w W0 := by rw [← hW0]; exact balloc (Below.refl _ _)
  have hblk : W0.heap[w.heap.size]? = some (.cells #[.int .i64 t.wi, .int .i64 t.rm, .slice t.ba t.bn t.bc, .slice t.aa t.an t.ac, .int .i64 t.o0, .int .i64 t.o1, .int .i64 t.o2, .int .i64 t.o3, .int .i64 t.sq, .slice t.da t.dn t.dc] 27 (0, 0)) := by rw [← hW0]; exact heap_alloc_new _ _
  have HbW : Hid (Below w.heap.size w W0) := hbW
  have c0 : W0.cell? ⟨w.heap.size, 0, none⟩ = some (.int .i64 t.wi) := blk_cell hblk 0
  have c1 : W0.cell? ⟨w.heap.size, 1, none⟩ = some (.int .i64 t.rm) := blk_cell hblk 1
  have c3 : W0.cell? ⟨w.heap.size, 3, none⟩ = some (.slice t.aa t.an t.ac) := blk_cell hblk 3
  have HC : Hid (W0.cell? ⟨w.heap.size, 4, none⟩ = some (.int .i64 t.o0) ∧ W0.cell? ⟨w.heap.size, 5, none⟩ = some (.int .i64 t.o1) ∧ W0.cell? ⟨w.heap.size, 6, none⟩ = some (.int .i64 t.o2) ∧ W0.cell? ⟨w.heap.size, 7, none⟩ = some (.int .i64 t.o3) ∧ W0.cell? ⟨w.heap.size, 8, none⟩ = some (.int .i64 t.sq) ∧ W0.cell? ⟨w.heap.size, 9, none⟩ = some (.slice t.da t.dn t.dc)) := (show _ ∧ _ from ⟨blk_cell hblk 4, blk_cell hblk 5, blk_cell hblk 6, blk_cell hblk 7, blk_cell hblk 8, blk_cell hblk 9⟩)
  have HAx : Hid (RdA W0 t.aa t.an t.ax) := ht.ax.still hbW
  have HI : Hid (∀ i, (runA (px0 win space) (t.ax.take i)).Inv) := fun i => run_inv _ _ (px0_inv _ _) (fun x hx => ht.ax.bys x (List.mem_of_mem_take hx))
  have HT : Hid (∀ i, i ≤ 200 → (runA (px0 win space) (t.ax.take i)).Sz 200) := fun i hi => (show Px.Sz _ _ from by
    have h1 := run_sz (t.ax.take i) (px0 win space) 0 (px0_sz _ _) hw1.2.1
    intro s hs
    have h2 := h1 s hs
    have h3 : (t.ax.take i).length ≤ 200 := by rw [List.length_take]; omega
    omega)
  have HSt : Hid (∀ D, Calls Try.prog 11 #[.int .i64 t.wi, .int .i64 t.rm] D fun e w' => StO D w' win space e) := fun D => (show Calls _ _ _ _ _ from by have := started_any (w := D) ht.wi.1 ht.wi.2 ht.rm.1 ht.rm.2; rw [hwin, hsp] at this; exact this)
  have han : t.an ≤ 140737488351232 := ht.an
  clear hwin hsp ht hbW hblk
  go_enter Try.func4, Try.ntmps4
  go_wp2_with (first | (go_at_call 11; refine (HSt.out _).mono ?_) | fail)
  rintro e w1 hx
  obtain ⟨X0, he, hok, hpu, hbel⟩ := hx.out
  subst he
  obtain ⟨b0, hb0⟩ : ∃ b0, X0.b = b0 := ⟨_, rfl⟩
  have d0 := below_at hbel c0
  have d1 := below_at hbel c1
  have HX0 : Hid (X0.Ok w1 W0.heap.size ∧ X0.pu = px0 win space ∧ X0.b = b0 ∧ Below W0.heap.size W0 w1) := (show _ ∧ _ from ⟨hok, hpu, hb0, hbel⟩)
  rw [hb0]
  clear hx hok hpu hbel hb0 c0 c1 hW0
  go_wp2_with (first | (go_at_call 11; refine (HSt.out _).mono ?_) | fail)
  rintro e w2 hx
  obtain ⟨Y0, he, hok, hpu, hbel⟩ := hx.out
  subst he
  obtain ⟨b1, hb1⟩ : ∃ b1, Y0.b = b1 := ⟨_, rfl⟩
  obtain ⟨B, hB⟩ : ∃ B, w1.heap.size = B := ⟨_, rfl⟩
  have HF0 : Hid (∃ X Y, Tw W0 w2 B b0 b1 (runA (px0 win space) (t.ax.take 0)) (runA (px0 win space) (t.ax.take 0)) X Y) := (show ∃ X Y, Tw _ _ _ _ _ _ _ X Y from ⟨X0, Y0, by rw [← hB]; exact Tw.first HX0.out.1 HX0.out.2.1 HX0.out.2.2.1 HX0.out.2.2.2 hok hpu hb1 hbel⟩)
  rw [hb1]
  clear hx hok hpu hbel hb1 hB d0 d1 HX0 HSt
  go_wp2
  go_loopw [5, 6, 7, 8, 9] (fun v5 _ _ _ _ wr => ∃ i : Nat, i ≤ t.an ∧ i ≤ 200 ∧ v5 = .int .i64 (i : Int) ∧ Hid (∃ X Y, Tw W0 wr B b0 b1 (runA (px0 win space) (t.ax.take i)) (runA (px0 win space) (t.ax.take i)) X Y)) (fun v5 _ _ _ _ _ => 200 - (intOf v5).toNat)
  case atStart => exact ⟨0, by omega, by omega, rfl, HF0⟩
  case round =>
    clear HF0
    obtain ⟨i, hi1, hi2, rfl, hs⟩ := hrel
    obtain ⟨X, Y, hX⟩ := hs.out
    clear hs
    have d3 := below_at hX.bel c3
    by_cases hlt : i < t.an ∧ i < 200
    · have i1 : (0 : Int) ≤ (i : Int) := Int.natCast_nonneg _
      have i2 : (i : Int) < (t.an : Int) := by omega
      have i3 : (i : Int) < 200 := by omega
      have hbo : ∃ b off, t.aa = some ⟨b, off, none⟩ ∧ ∀ i x, t.ax[i]? = some x → ActIn W0 b (off + i * 4) x := by
        rcases HAx.out.2 with h0 | h0
        · omega
        · exact h0
      obtain ⟨b, off, hao, hact⟩ := hbo
      rw [hao] at d3
      have Hao : Hid (t.aa = some ⟨b, off, none⟩) := hao
      clear hao
      obtain ⟨x, hx⟩ : ∃ x, t.ax[i]? = some x := by
        have : i < t.ax.length := by rw [HAx.out.1]; exact hlt.1
        exact ⟨_, List.getElem?_eq_getElem this⟩
      have hai := hact i x hx
      obtain ⟨aa, m, cc, hcell, hrd⟩ := hai.out
      have HRg : Hid (∀ D, Below W0.heap.size W0 D → D.rangeAt b (off + i * 4) [.int .i64 x.side, .int .i64 x.kind, .int .i64 x.n, .slice aa m cc]) := fun D hb j v hv => (show _ = _ from by
        have hj : j < 4 := by
          by_cases hj : j < 4
          · exact hj
          · rw [List.getElem?_eq_none (by simp; omega)] at hv; cases hv
        exact below_at hb ((hcell j hj).trans hv))
      obtain ⟨Pi, hPi⟩ : ∃ P, runA (px0 win space) (t.ax.take i) = P := ⟨_, rfl⟩
      obtain ⟨Pn, hPn⟩ : ∃ P, runA (px0 win space) (t.ax.take (i + 1)) = P := ⟨_, rfl⟩
      have hst : Pi.act x = Pn := by rw [← hPi, ← hPn]; exact (run_take _ _ hx).symm
      have hIi : Pi.Inv := by rw [← hPi]; exact HI.out i
      have hTi : Pi.Sz 200 := by rw [← hPi]; exact HT.out i hi2
      rw [hPi] at hX
      have HAc : Hid (Calls Try.prog 12 #[.pointer (some ⟨b0, 0, none⟩), .agg #[.int .i64 x.side, .int .i64 x.kind, .int .i64 x.n, .slice aa m cc]] wr fun e w' => TgA W0 w' B b0 b1 Pi Pn (.agg #[.int .i64 x.side, .int .i64 x.kind, .int .i64 x.n, .slice aa m cc]) e) := (show Calls _ _ _ _ _ from by
        have := wact_any hX.x (by rw [hX.px]; exact hIi) (T := 200) (by rw [hX.px]; exact hTi) (by omega) hX.bel.size x hai.side.1 hai.side.2 hai.n.1 hai.n.2 (hrd.still hX.bel) (fun hm b' off' e ho => by
          have h1 := rd_lt hrd hm b' off' e
          have h2 := hX.x.loj ho
          exact absurd h1 (by omega))
        rw [hX.bx] at this
        refine this.mono fun e w2 hx2 => ?_
        obtain ⟨he, X', hxs, hpu⟩ := hx2
        have hX2 := hX.stepX hxs (P' := Pn) (by rw [hpu, hX.px]; exact hst)
        refine ⟨he, ⟨X', Y, hX2⟩, ?_⟩
        have := wact_any hX2.y (by rw [hX2.py]; exact hIi) (T := 200) (by rw [hX2.py]; exact hTi) (by omega) hX2.hs x hai.side.1 hai.side.2 hai.n.1 hai.n.2 (hrd.still hX2.bel) (fun hm b' off' e ho => by
          have h1 := rd_lt hrd hm b' off' e
          have h2 := hX2.y.loj ho
          have h3 := hX2.hB
          exact absurd h1 (by omega))
        rw [hX2.by'] at this
        refine this.mono fun e w3 hx3 => ?_
        obtain ⟨he, Y', hxs, hpu⟩ := hx3
        exact ⟨he, X', Y', hX2.stepY hxs (by rw [hpu, hX2.py]; exact hst)⟩)
      have HIn : Hid (Pn.Inv ∧ Pn.Sz 200) := (show _ ∧ _ from ⟨by rw [← hPn]; exact HI.out _, by rw [← hPn]; exact HT.out _ (by omega)⟩)
      have HPn : Hid (runA (px0 win space) (t.ax.take (i + 1)) = Pn) := hPn
      have HRw : Hid (wr.rangeAt b (off + i * 4) [.int .i64 x.side, .int .i64 x.kind, .int .i64 x.n, .slice aa m cc]) := HRg.out wr hX.bel
      have hi3 : i < t.an ∧ i < 200 := hlt
      clear hact hai hcell hrd hX hx hPi hPn hst hIi hTi hlt
      go_wp2_with (first | (refine at_load 47 (.tmp 41) rfl ?_; refine load_mid 47 (.tmp 41) HRw.out _ Try.underlying47 rfl (by kernel_rfl) rfl rfl rfl ?_) | (go_at_call 12; refine HAc.out.mono ?_) | fail)
      rintro e w2 hx2
      obtain ⟨he, ⟨X2, Y2, hX2⟩, hac⟩ := hx2
      subst he
      have HAc2 : Hid (Calls Try.prog 12 #[.pointer (some ⟨b1, 0, none⟩), .agg #[.int .i64 x.side, .int .i64 x.kind, .int .i64 x.n, .slice aa m cc]] w2 fun e w' => e = .returned (.bool true) ∧ ∃ X Y, Tw W0 w' B b0 b1 Pn Pn X Y) := hac
      have HRw2 : Hid (w2.rangeAt b (off + i * 4) [.int .i64 x.side, .int .i64 x.kind, .int .i64 x.n, .slice aa m cc]) := HRg.out w2 hX2.bel
      have d3' := below_at hX2.bel c3
      rw [Hao.out] at d3'
      clear hX2 hac HAc HRw
      go_wp2_with (first | (refine at_load 47 (.tmp 50) rfl ?_; refine load_mid 47 (.tmp 50) HRw2.out _ Try.underlying47 rfl (by kernel_rfl) rfl rfl rfl ?_) | (go_at_call 12; refine HAc2.out.mono ?_) | fail)
      rintro e w3 ⟨rfl, X3, Y3, hX3⟩
      have HX3 : Hid (∃ X Y, Tw W0 w3 B b0 b1 Pn Pn X Y) := (show ∃ X Y, Tw _ _ _ _ _ _ _ X Y from ⟨X3, Y3, hX3⟩)
      obtain ⟨s, hs⟩ : ∃ s, i % 2 = s := ⟨_, rfl⟩
      have hrem : Int.tmod (i : Int) 2 = (s : Int) := by have := rem_nat i1 2; rw [Int.toNat_natCast] at this; rw [← hs]; exact this
      have hs2 : s < 2 := by rw [← hs]; exact Nat.mod_lt _ (by omega)
      have n1 : (0 : Int) ≤ (s : Int) := Int.natCast_nonneg _
      have n2 : (s : Int) < 2 := by omega
      have j1 : (0 : Int) ≤ 1 - (s : Int) := by omega
      have j2 : 1 - (s : Int) ≤ 1 := by omega
      clear hX3 HAc2 HRw2 HRg Hao d3 d3' hs
      obtain ⟨X, Y, hX⟩ := HX3.out
      obtain ⟨dc, hdc⟩ : ∃ d, decide ((⟨t.o0, t.o1, t.o2, t.o3⟩ : Tg) = tg9) = d := ⟨_, rfl⟩
      have HQ : Hid (decide ((⟨t.o0, t.o1, t.o2, t.o3⟩ : Tg) = tg9) = dc) := hdc
      have e4 := below_at hX.bel HC.out.1
      have e5 := below_at hX.bel HC.out.2.1
      have e6 := below_at hX.bel HC.out.2.2.1
      have e7 := below_at hX.bel HC.out.2.2.2.1
      have HX : Hid (Tw W0 w3 B b0 b1 Pn Pn X Y) := hX
      clear hX HX3 hdc
      go_wp2_with (fail)
      refine wp_region_held_drew (S := (fun w' => w'.cell? ⟨w.heap.size, 4, none⟩ = some (.int .i64 t.o0) ∧ w'.cell? ⟨w.heap.size, 5, none⟩ = some (.int .i64 t.o1) ∧ w'.cell? ⟨w.heap.size, 6, none⟩ = some (.int .i64 t.o2) ∧ w'.cell? ⟨w.heap.size, 7, none⟩ = some (.int .i64 t.o3))) (by kernel_rfl) ⟨(below_at (drew_bel _) e4), (below_at (drew_bel _) e5), (below_at (drew_bel _) e6), (below_at (drew_bel _) e7)⟩ (fun hHeld => ?_)
      simp only [Act.put, List.size_toArray, List.length_cons, List.length_nil, Nat.zero_add]
      refine takeD (i := 0) (d := 57) (v := .pointer (some ⟨w.heap.size, 4, none⟩)) rfl (by kernel_rfl) (by kernel_rfl) (by kernel_rfl) (by kernel_rfl) (fun _ _ _ h => h) (Or.inl ⟨by rfl, fun w' hS => by go_simp⟩) hHeld ?_
      simp only [Act.put, List.setIfInBounds_toArray, List.set_cons_zero, List.set_cons_succ]
      refine takeD (i := 1) (d := 58) (v := .agg #[.int .i64 t.o0, .int .i64 t.o1, .int .i64 t.o2, .int .i64 t.o3]) rfl (by kernel_rfl) (by kernel_rfl) (by kernel_rfl) (by kernel_rfl) (fun _ _ _ h => h) (Or.inl ⟨by rfl, fun w' hS => by (obtain ⟨s0, s1, s2, s3⟩ := hS; go_simp)⟩) hHeld ?_
      simp only [Act.put, List.setIfInBounds_toArray, List.set_cons_zero, List.set_cons_succ]
      have hbD1 : Below w3.heap.size w3 w3.drew := drew_bel _
      have q0 := below_at hbD1 e4
      have q1 := below_at hbD1 e5
      have q2 := below_at hbD1 e6
      have q3 := below_at hbD1 e7
      generalize w3.drew = D1 at *
      refine wpAnyH_ready (rs := [2]) (by kernel_rfl) (by simp) ?_
      refine AllReadyH.cons rfl (fun K hK => ?_) AllReadyH.nil
      go_simp
      refine (tag_any).mono ?_
      rintro e w4 ⟨rfl, hb4⟩
      refine hK.out _ _ ⟨(below_at hb4 q0), (below_at hb4 q1), (below_at hb4 q2), (below_at hb4 q3)⟩ (fun hHeld => ?_)
      clear hK K
      refine wpAnyH_take (i := 3) (v := .bool (!(dc))) rfl (by kernel_rfl) (by kernel_rfl) (by kernel_rfl) (fun _ _ _ h => h) (Or.inl ⟨by rfl, fun w' hS => run_neqop 24 (.tmp 58) (.tmp 59) 24 rfl _ _ (by rfl) (by rfl) guard_id _ (by have e1 := eq_tag (w := w') ⟨t.o0, t.o1, t.o2, t.o3⟩ tg9; rw [HQ.out] at e1; exact e1)⟩) hHeld ?_
      simp only [Act.put, List.getElem_toArray, List.getElem_cons_zero, List.getElem_cons_succ, List.setIfInBounds_toArray, List.set_cons_zero, List.set_cons_succ]
      refine wpAnyH_done (by kernel_rfl) ?_ _
      clear hHeld
      go_upto_if 60 with (fail)
      go_cut [6] (fun v6 wx => v6 = .int .i64 (s : Int) ∧ Hid (∃ X Y, Tw W0 wx B b0 b1 Pn Pn X Y))
      case first =>
        cases dc with
        | true =>
          have HF : Hid (∃ X Y, Tw W0 w4 B b0 b1 Pn Pn X Y) := (show ∃ X Y, Tw _ _ _ _ _ _ _ X Y from ⟨X, Y, (HX.out.still hbD1).still hb4⟩)
          clear hbD1 hb4 HX e4 e5 e6 e7
          go_wp2_with (fail)
          go_meet
          exact ⟨rfl, HF⟩
        | false =>
          as_aux_lemma =>
          have Hq : Hid (¬ (⟨t.o0, t.o1, t.o2, t.o3⟩ : Tg) = tg9) := (show ¬ _ from of_decide_eq_false HQ.out)
          have hX4 := (HX.out.still hbD1).still hb4
          obtain ⟨pm, hpm⟩ : ∃ p, (X.m s).b = p := ⟨_, rfl⟩
          have cm : w4.cell? ⟨b0, s, none⟩ = some (.pointer (some ⟨pm, 0, none⟩)) := by have := hX4.x.cm hs2; rw [hX4.bx, hpm] at this; exact this
          have g4 := below_at hX4.bel HC.out.1
          have g5 := below_at hX4.bel HC.out.2.1
          have g6 := below_at hX4.bel HC.out.2.2.1
          have g7 := below_at hX4.bel HC.out.2.2.2.1
          have g8 := below_at hX4.bel HC.out.2.2.2.2.1
          have g9 := below_at hX4.bel HC.out.2.2.2.2.2
          obtain ⟨r1, hr1, htk⟩ := take_foreign (hX4.x.mo s hs2) (qat hX4.x hs2) ⟨t.o0, t.o1, t.o2, t.o3⟩ t.sq (ao := t.da) (n := t.dn) (c := t.dc) (by rw [(hX4.x.mt s hs2).1]; exact Hq.out)
          rw [hpm] at htk
          have HTk : Hid (∀ D, Below w4.heap.size w4 D → Calls Try.prog 14 #[.pointer (some ⟨pm, 0, none⟩), .int .i64 (2 + 3 * (1 - (s : Int))), .agg #[.int .i64 t.o0, .int .i64 t.o1, .int .i64 t.o2, .int .i64 t.o3, .int .i64 t.sq, .slice t.da t.dn t.dc]] D fun e w' => e = .returned (.tuple #[.slice none 0 0, .int .i64 r1]) ∧ Below D.heap.size D w') := htk
          have HX4 : Hid (Tw W0 w4 B b0 b1 Pn Pn X Y) := hX4
          have Hr1 : Hid (r1 = 1 ∨ r1 = 40) := hr1
          have Hpm : Hid ((X.m s).b = pm) := hpm
          clear hX4 htk hr1 hpm hbD1 hb4 HX e4 e5 e6 e7 HQ
          go_wp2_with (fail)
          refine wp_region_held_drew (S := (fun w' => w'.cell? ⟨b0, s, none⟩ = some (.pointer (some ⟨pm, 0, none⟩)) ∧ w'.cell? ⟨w.heap.size, 4, none⟩ = some (.int .i64 t.o0) ∧ w'.cell? ⟨w.heap.size, 5, none⟩ = some (.int .i64 t.o1) ∧ w'.cell? ⟨w.heap.size, 6, none⟩ = some (.int .i64 t.o2) ∧ w'.cell? ⟨w.heap.size, 7, none⟩ = some (.int .i64 t.o3) ∧ w'.cell? ⟨w.heap.size, 8, none⟩ = some (.int .i64 t.sq) ∧ w'.cell? ⟨w.heap.size, 9, none⟩ = some (.slice t.da t.dn t.dc))) (by kernel_rfl) ⟨(below_at (drew_bel _) cm), (below_at (drew_bel _) g4), (below_at (drew_bel _) g5), (below_at (drew_bel _) g6), (below_at (drew_bel _) g7), (below_at (drew_bel _) g8), (below_at (drew_bel _) g9)⟩ (fun hHeld => ?_)
          simp only [Act.put, List.size_toArray, List.length_cons, List.length_nil, Nat.zero_add]
          refine takeD (i := 0) (d := 62) (v := .pointer (some ⟨b0, 0, none⟩)) rfl (by kernel_rfl) (by kernel_rfl) (by kernel_rfl) (by kernel_rfl) (fun _ _ _ h => h) (Or.inl ⟨by rfl, fun w' hS => by go_simp⟩) hHeld ?_
          simp only [Act.put, List.setIfInBounds_toArray, List.set_cons_zero, List.set_cons_succ]
          refine takeD (i := 1) (d := 63) (v := .int .i64 (s : Int)) rfl (by kernel_rfl) (by kernel_rfl) (by kernel_rfl) (by kernel_rfl) (fun _ _ _ h => h) (Or.inl ⟨by rfl, fun w' hS => by go_simp⟩) hHeld ?_
          simp only [Act.put, List.setIfInBounds_toArray, List.set_cons_zero, List.set_cons_succ]
          refine takeD (i := 2) (d := 64) (v := .pointer (some ⟨b0, 0, none⟩)) rfl (by kernel_rfl) (by kernel_rfl) (by kernel_rfl) (by kernel_rfl) (fun _ _ _ h => h) (Or.inl ⟨by rfl, fun w' hS => by go_simp⟩) hHeld ?_
          simp only [Act.put, List.setIfInBounds_toArray, List.set_cons_zero, List.set_cons_succ]
          refine takeD (i := 3) (d := 65) (v := .pointer (some ⟨b0, 0, none⟩)) rfl (by kernel_rfl) (by kernel_rfl) (by kernel_rfl) (by kernel_rfl) (fun _ _ _ h => h) (Or.inl ⟨by rfl, fun w' hS => by go_simp⟩) hHeld ?_
          simp only [Act.put, List.setIfInBounds_toArray, List.set_cons_zero, List.set_cons_succ]
          refine takeD (i := 4) (d := 66) (v := .pointer (some ⟨b0, s, none⟩)) rfl (by kernel_rfl) (by kernel_rfl) (by kernel_rfl) (by kernel_rfl) (fun _ _ _ h => h) (Or.inl ⟨by rfl, fun w' hS => by go_simp⟩) hHeld ?_
          simp only [Act.put, List.setIfInBounds_toArray, List.set_cons_zero, List.set_cons_succ]
          refine takeD (i := 5) (d := 67) (v := .pointer (some ⟨pm, 0, none⟩)) rfl (by kernel_rfl) (by kernel_rfl) (by kernel_rfl) (by kernel_rfl) (fun _ _ _ h => h) (Or.inl ⟨by rfl, fun w' hS => by (obtain ⟨s0, s1, s2, s3, s4, s5, s6⟩ := hS; go_simp)⟩) hHeld ?_
          simp only [Act.put, List.setIfInBounds_toArray, List.set_cons_zero, List.set_cons_succ]
          refine takeD (i := 6) (d := 68) (v := .int .i64 (s : Int)) rfl (by kernel_rfl) (by kernel_rfl) (by kernel_rfl) (by kernel_rfl) (fun _ _ _ h => h) (Or.inl ⟨by rfl, fun w' hS => by go_simp⟩) hHeld ?_
          simp only [Act.put, List.setIfInBounds_toArray, List.set_cons_zero, List.set_cons_succ]
          refine takeD (i := 7) (d := 69) (v := .int .i64 (1 - (s : Int))) rfl (by kernel_rfl) (by kernel_rfl) (by kernel_rfl) (by kernel_rfl) (fun _ _ _ h => h) (Or.inl ⟨by rfl, fun w' hS => by (go_simp <;> exact wrap_id (by omega) (by omega))⟩) hHeld ?_
          simp only [Act.put, List.setIfInBounds_toArray, List.set_cons_zero, List.set_cons_succ]
          refine takeD (i := 9) (d := 71) (v := .pointer (some ⟨w.heap.size, 4, none⟩)) rfl (by kernel_rfl) (by kernel_rfl) (by kernel_rfl) (by kernel_rfl) (fun _ _ _ h => h) (Or.inl ⟨by rfl, fun w' hS => by go_simp⟩) hHeld ?_
          simp only [Act.put, List.setIfInBounds_toArray, List.set_cons_zero, List.set_cons_succ]
          refine takeD (i := 10) (d := 72) (v := .agg #[.int .i64 t.o0, .int .i64 t.o1, .int .i64 t.o2, .int .i64 t.o3]) rfl (by kernel_rfl) (by kernel_rfl) (by kernel_rfl) (by kernel_rfl) (fun _ _ _ h => h) (Or.inl ⟨by rfl, fun w' hS => by (obtain ⟨s0, s1, s2, s3, s4, s5, s6⟩ := hS; go_simp)⟩) hHeld ?_
          simp only [Act.put, List.setIfInBounds_toArray, List.set_cons_zero, List.set_cons_succ]
          refine takeD (i := 11) (d := 73) (v := .pointer (some ⟨w.heap.size, 8, none⟩)) rfl (by kernel_rfl) (by kernel_rfl) (by kernel_rfl) (by kernel_rfl) (fun _ _ _ h => h) (Or.inl ⟨by rfl, fun w' hS => by go_simp⟩) hHeld ?_
          simp only [Act.put, List.setIfInBounds_toArray, List.set_cons_zero, List.set_cons_succ]
          refine takeD (i := 12) (d := 74) (v := .int .i64 t.sq) rfl (by kernel_rfl) (by kernel_rfl) (by kernel_rfl) (by kernel_rfl) (fun _ _ _ h => h) (Or.inl ⟨by rfl, fun w' hS => by (obtain ⟨s0, s1, s2, s3, s4, s5, s6⟩ := hS; go_simp)⟩) hHeld ?_
          simp only [Act.put, List.setIfInBounds_toArray, List.set_cons_zero, List.set_cons_succ]
          as_aux_lemma =>
          refine takeD (i := 13) (d := 75) (v := .pointer (some ⟨w.heap.size, 9, none⟩)) rfl (by kernel_rfl) (by kernel_rfl) (by kernel_rfl) (by kernel_rfl) (fun _ _ _ h => h) (Or.inl ⟨by rfl, fun w' hS => by go_simp⟩) hHeld ?_
          simp only [Act.put, List.setIfInBounds_toArray, List.set_cons_zero, List.set_cons_succ]
          refine takeD (i := 14) (d := 76) (v := .slice t.da t.dn t.dc) rfl (by kernel_rfl) (by kernel_rfl) (by kernel_rfl) (by kernel_rfl) (fun _ _ _ h => h) (Or.inl ⟨by rfl, fun w' hS => by (obtain ⟨s0, s1, s2, s3, s4, s5, s6⟩ := hS; go_simp)⟩) hHeld ?_
          simp only [Act.put, List.setIfInBounds_toArray, List.set_cons_zero, List.set_cons_succ]
          refine takeD (i := 15) (d := 77) (v := .agg #[.int .i64 t.o0, .int .i64 t.o1, .int .i64 t.o2, .int .i64 t.o3, .int .i64 t.sq, .slice t.da t.dn t.dc]) rfl (by kernel_rfl) (by kernel_rfl) (by kernel_rfl) (by kernel_rfl) (fun _ _ _ h => h) (Or.inl ⟨by rfl, fun w' hS => by go_simp⟩) hHeld ?_
          simp only [Act.put, List.setIfInBounds_toArray, List.set_cons_zero, List.set_cons_succ]
          have hbD2 : Below w4.heap.size w4 w4.drew := drew_bel _
          have q0 := below_at hbD2 cm
          have q1 := below_at hbD2 g4
          have q2 := below_at hbD2 g5
          have q3 := below_at hbD2 g6
          have q4 := below_at hbD2 g7
          have q5 := below_at hbD2 g8
          have q6 := below_at hbD2 g9
          generalize w4.drew = D2 at *
          refine wpAnyH_ready (rs := [8]) (by kernel_rfl) (by simp) ?_
          refine AllReadyH.cons rfl (fun K hK => ?_) AllReadyH.nil
          go_simp
          refine (pid_any j1 j2).mono ?_
          rintro e w5 ⟨rfl, rfl⟩
          refine hK.out _ _ ⟨q0, q1, q2, q3, q4, q5, q6⟩ (fun hHeld => ?_)
          clear hK K
          refine wpAnyH_ready (rs := [16]) (by kernel_rfl) (by simp) ?_
          refine AllReadyH.cons rfl (fun K hK => ?_) AllReadyH.nil
          go_simp
          refine (HTk.out D2 hbD2).mono ?_
          rintro e w5 ⟨rfl, hb5⟩
          refine hK.out _ _ ⟨(below_at hb5 q0), (below_at hb5 q1), (below_at hb5 q2), (below_at hb5 q3), (below_at hb5 q4), (below_at hb5 q5), (below_at hb5 q6)⟩ (fun hHeld => ?_)
          clear hK K
          refine takeD (i := 17) (d := 61) (v := .tuple #[.slice none 0 0, .int .i64 r1]) rfl (by kernel_rfl) (by kernel_rfl) (by kernel_rfl) (by kernel_rfl) (fun _ _ _ h => h) (Or.inl ⟨by rfl, fun w' hS => by go_simp⟩) hHeld ?_
          simp only [Act.put, List.setIfInBounds_toArray, List.set_cons_zero, List.set_cons_succ]
          refine takeD (i := 18) (d := 79) (v := .slice none 0 0) rfl (by kernel_rfl) (by kernel_rfl) (by kernel_rfl) (by kernel_rfl) (fun _ _ _ h => h) (Or.inl ⟨by rfl, fun w' hS => by go_simp⟩) hHeld ?_
          simp only [Act.put, List.setIfInBounds_toArray, List.set_cons_zero, List.set_cons_succ]
          refine takeD (i := 19) (d := 80) (v := .int .i64 r1) rfl (by kernel_rfl) (by kernel_rfl) (by kernel_rfl) (by kernel_rfl) (fun _ _ _ h => h) (Or.inl ⟨by rfl, fun w' hS => by go_simp⟩) hHeld ?_
          simp only [Act.put, List.setIfInBounds_toArray, List.set_cons_zero, List.set_cons_succ]
          refine takeD (i := 20) (d := 7) (v := .slice none 0 0) rfl (by kernel_rfl) (by kernel_rfl) (by kernel_rfl) (by kernel_rfl) (fun _ _ _ h => h) (Or.inl ⟨by rfl, fun w' hS => by go_simp⟩) hHeld ?_
          simp only [Act.put, List.setIfInBounds_toArray, List.set_cons_zero, List.set_cons_succ]
          refine takeD (i := 21) (d := 8) (v := .int .i64 r1) rfl (by kernel_rfl) (by kernel_rfl) (by kernel_rfl) (by kernel_rfl) (fun _ _ _ h => h) (Or.inl ⟨by rfl, fun w' hS => by go_simp⟩) hHeld ?_
          simp only [Act.put, List.setIfInBounds_toArray, List.set_cons_zero, List.set_cons_succ]
          refine wpAnyH_done (by kernel_rfl) ?_ _
          clear hHeld
          have hX5 := (HX4.out.still hbD2).still hb5
          have m0 : w5.cell? ⟨b0, s, none⟩ = some (.pointer (some ⟨pm, 0, none⟩)) := by have := hX5.x.cm hs2; rw [hX5.bx, Hpm.out] at this; exact this
          have k4 := below_at hX5.bel HC.out.1
          have k5 := below_at hX5.bel HC.out.2.1
          have k6 := below_at hX5.bel HC.out.2.2.1
          have k7 := below_at hX5.bel HC.out.2.2.2.1
          have k8 := below_at hX5.bel HC.out.2.2.2.2.1
          obtain ⟨r2, hr2, htk⟩ := acked_foreign (hX5.x.mo s hs2) (qat hX5.x hs2) ⟨t.o0, t.o1, t.o2, t.o3⟩ t.sq (by rw [(hX5.x.mt s hs2).1]; exact Hq.out)
          rw [Hpm.out] at htk
          have HAk : Hid (∀ D, Below w5.heap.size w5 D → Calls Try.prog 16 #[.pointer (some ⟨pm, 0, none⟩), .int .i64 (2 + 3 * (1 - (s : Int))), .agg #[.int .i64 t.o0, .int .i64 t.o1, .int .i64 t.o2, .int .i64 t.o3, .int .i64 t.sq]] D fun e w' => e = .returned (.int .i64 r2) ∧ Below D.heap.size D w') := htk
          have HX5 : Hid (Tw W0 w5 B b0 b1 Pn Pn X Y) := hX5
          have Hr2 : Hid (r2 = 1 ∨ r2 = 40) := hr2
          clear hX5 htk hr2 hbD2 hb5 HX4 HTk q0 q1 q2 q3 q4 q5 q6 cm g4 g5 g6 g7 g8 g9
          go_wp2_with (fail)
          refine wp_region_held_drew (S := (fun w' => w'.cell? ⟨b0, s, none⟩ = some (.pointer (some ⟨pm, 0, none⟩)) ∧ w'.cell? ⟨w.heap.size, 4, none⟩ = some (.int .i64 t.o0) ∧ w'.cell? ⟨w.heap.size, 5, none⟩ = some (.int .i64 t.o1) ∧ w'.cell? ⟨w.heap.size, 6, none⟩ = some (.int .i64 t.o2) ∧ w'.cell? ⟨w.heap.size, 7, none⟩ = some (.int .i64 t.o3) ∧ w'.cell? ⟨w.heap.size, 8, none⟩ = some (.int .i64 t.sq))) (by kernel_rfl) ⟨(below_at (drew_bel _) m0), (below_at (drew_bel _) k4), (below_at (drew_bel _) k5), (below_at (drew_bel _) k6), (below_at (drew_bel _) k7), (below_at (drew_bel _) k8)⟩ (fun hHeld => ?_)
          simp only [Act.put, List.size_toArray, List.length_cons, List.length_nil, Nat.zero_add]
          refine takeD (i := 0) (d := 81) (v := .pointer (some ⟨b0, 0, none⟩)) rfl (by kernel_rfl) (by kernel_rfl) (by kernel_rfl) (by kernel_rfl) (fun _ _ _ h => h) (Or.inl ⟨by rfl, fun w' hS => by go_simp⟩) hHeld ?_
          simp only [Act.put, List.setIfInBounds_toArray, List.set_cons_zero, List.set_cons_succ]
          refine takeD (i := 1) (d := 82) (v := .int .i64 (s : Int)) rfl (by kernel_rfl) (by kernel_rfl) (by kernel_rfl) (by kernel_rfl) (fun _ _ _ h => h) (Or.inl ⟨by rfl, fun w' hS => by go_simp⟩) hHeld ?_
          simp only [Act.put, List.setIfInBounds_toArray, List.set_cons_zero, List.set_cons_succ]
          refine takeD (i := 2) (d := 83) (v := .pointer (some ⟨b0, 0, none⟩)) rfl (by kernel_rfl) (by kernel_rfl) (by kernel_rfl) (by kernel_rfl) (fun _ _ _ h => h) (Or.inl ⟨by rfl, fun w' hS => by go_simp⟩) hHeld ?_
          simp only [Act.put, List.setIfInBounds_toArray, List.set_cons_zero, List.set_cons_succ]
          refine takeD (i := 3) (d := 84) (v := .pointer (some ⟨b0, 0, none⟩)) rfl (by kernel_rfl) (by kernel_rfl) (by kernel_rfl) (by kernel_rfl) (fun _ _ _ h => h) (Or.inl ⟨by rfl, fun w' hS => by go_simp⟩) hHeld ?_
          simp only [Act.put, List.setIfInBounds_toArray, List.set_cons_zero, List.set_cons_succ]
          refine takeD (i := 4) (d := 85) (v := .pointer (some ⟨b0, s, none⟩)) rfl (by kernel_rfl) (by kernel_rfl) (by kernel_rfl) (by kernel_rfl) (fun _ _ _ h => h) (Or.inl ⟨by rfl, fun w' hS => by go_simp⟩) hHeld ?_
          simp only [Act.put, List.setIfInBounds_toArray, List.set_cons_zero, List.set_cons_succ]
          refine takeD (i := 5) (d := 86) (v := .pointer (some ⟨pm, 0, none⟩)) rfl (by kernel_rfl) (by kernel_rfl) (by kernel_rfl) (by kernel_rfl) (fun _ _ _ h => h) (Or.inl ⟨by rfl, fun w' hS => by (obtain ⟨s0, s1, s2, s3, s4, s5⟩ := hS; go_simp)⟩) hHeld ?_
          simp only [Act.put, List.setIfInBounds_toArray, List.set_cons_zero, List.set_cons_succ]
          refine takeD (i := 6) (d := 87) (v := .int .i64 (s : Int)) rfl (by kernel_rfl) (by kernel_rfl) (by kernel_rfl) (by kernel_rfl) (fun _ _ _ h => h) (Or.inl ⟨by rfl, fun w' hS => by go_simp⟩) hHeld ?_
          simp only [Act.put, List.setIfInBounds_toArray, List.set_cons_zero, List.set_cons_succ]
          refine takeD (i := 7) (d := 88) (v := .int .i64 (1 - (s : Int))) rfl (by kernel_rfl) (by kernel_rfl) (by kernel_rfl) (by kernel_rfl) (fun _ _ _ h => h) (Or.inl ⟨by rfl, fun w' hS => by (go_simp <;> exact wrap_id (by omega) (by omega))⟩) hHeld ?_
          simp only [Act.put, List.setIfInBounds_toArray, List.set_cons_zero, List.set_cons_succ]
          refine takeD (i := 9) (d := 90) (v := .pointer (some ⟨w.heap.size, 4, none⟩)) rfl (by kernel_rfl) (by kernel_rfl) (by kernel_rfl) (by kernel_rfl) (fun _ _ _ h => h) (Or.inl ⟨by rfl, fun w' hS => by go_simp⟩) hHeld ?_
          simp only [Act.put, List.setIfInBounds_toArray, List.set_cons_zero, List.set_cons_succ]
          refine takeD (i := 10) (d := 91) (v := .agg #[.int .i64 t.o0, .int .i64 t.o1, .int .i64 t.o2, .int .i64 t.o3]) rfl (by kernel_rfl) (by kernel_rfl) (by kernel_rfl) (by kernel_rfl) (fun _ _ _ h => h) (Or.inl ⟨by rfl, fun w' hS => by (obtain ⟨s0, s1, s2, s3, s4, s5⟩ := hS; go_simp)⟩) hHeld ?_
          simp only [Act.put, List.setIfInBounds_toArray, List.set_cons_zero, List.set_cons_succ]
          refine takeD (i := 11) (d := 92) (v := .pointer (some ⟨w.heap.size, 8, none⟩)) rfl (by kernel_rfl) (by kernel_rfl) (by kernel_rfl) (by kernel_rfl) (fun _ _ _ h => h) (Or.inl ⟨by rfl, fun w' hS => by go_simp⟩) hHeld ?_
          simp only [Act.put, List.setIfInBounds_toArray, List.set_cons_zero, List.set_cons_succ]
          refine takeD (i := 12) (d := 93) (v := .int .i64 t.sq) rfl (by kernel_rfl) (by kernel_rfl) (by kernel_rfl) (by kernel_rfl) (fun _ _ _ h => h) (Or.inl ⟨by rfl, fun w' hS => by (obtain ⟨s0, s1, s2, s3, s4, s5⟩ := hS; go_simp)⟩) hHeld ?_
          simp only [Act.put, List.setIfInBounds_toArray, List.set_cons_zero, List.set_cons_succ]
          as_aux_lemma =>
          refine takeD (i := 13) (d := 94) (v := .agg #[.int .i64 t.o0, .int .i64 t.o1, .int .i64 t.o2, .int .i64 t.o3, .int .i64 t.sq]) rfl (by kernel_rfl) (by kernel_rfl) (by kernel_rfl) (by kernel_rfl) (fun _ _ _ h => h) (Or.inl ⟨by rfl, fun w' hS => by go_simp⟩) hHeld ?_
          simp only [Act.put, List.setIfInBounds_toArray, List.set_cons_zero, List.set_cons_succ]
          have hbD3 : Below w5.heap.size w5 w5.drew := drew_bel _
          have aq0 := below_at hbD3 m0
          have aq1 := below_at hbD3 k4
          have aq2 := below_at hbD3 k5
          have aq3 := below_at hbD3 k6
          have aq4 := below_at hbD3 k7
          have aq5 := below_at hbD3 k8
          generalize w5.drew = D3 at *
          refine wpAnyH_ready (rs := [8]) (by kernel_rfl) (by simp) ?_
          refine AllReadyH.cons rfl (fun K hK => ?_) AllReadyH.nil
          go_simp
          refine (pid_any j1 j2).mono ?_
          rintro e w6 ⟨rfl, rfl⟩
          refine hK.out _ _ ⟨aq0, aq1, aq2, aq3, aq4, aq5⟩ (fun hHeld => ?_)
          clear hK K
          refine wpAnyH_ready (rs := [14]) (by kernel_rfl) (by simp) ?_
          refine AllReadyH.cons rfl (fun K hK => ?_) AllReadyH.nil
          go_simp
          refine (HAk.out D3 hbD3).mono ?_
          rintro e w6 ⟨rfl, hb6⟩
          refine hK.out _ _ ⟨(below_at hb6 aq0), (below_at hb6 aq1), (below_at hb6 aq2), (below_at hb6 aq3), (below_at hb6 aq4), (below_at hb6 aq5)⟩ (fun hHeld => ?_)
          clear hK K
          refine takeD (i := 15) (d := 9) (v := .int .i64 r2) rfl (by kernel_rfl) (by kernel_rfl) (by kernel_rfl) (by kernel_rfl) (fun _ _ _ h => h) (Or.inl ⟨by rfl, fun w' hS => by go_simp⟩) hHeld ?_
          simp only [Act.put, List.setIfInBounds_toArray, List.set_cons_zero, List.set_cons_succ]
          refine wpAnyH_done (by kernel_rfl) ?_ _
          clear hHeld
          have HF : Hid (∃ X Y, Tw W0 w6 B b0 b1 Pn Pn X Y) := (show ∃ X Y, Tw _ _ _ _ _ _ _ X Y from ⟨X, Y, (HX5.out.still hbD3).still hb6⟩)
          clear hbD3 hb6 HX5 HAk aq0 aq1 aq2 aq3 aq4 aq5 m0 k4 k5 k6 k7 k8
          have HN : Hid (∀ x (D : World), Calls Try.prog 17 #[.int .i64 x] D fun e w' => e = .returned (.int .i64 x) ∧ D = w') := fun x D => num_any x
          rcases Hr1.out with h1 | h1
          all_goals (rcases Hr2.out with h2 | h2)
          all_goals (subst h1; subst h2; go_wp2_with (first | (go_at_call 17; refine (HN.out _ _).mono ?_; rintro e w7 ⟨rfl, rfl⟩) | fail); go_meet; exact ⟨rfl, HF⟩)
      case rest =>
      as_aux_lemma =>
      obtain ⟨rfl, hst⟩ := hcut
      obtain ⟨X, Y, hX⟩ := hst.out
      clear hst
      have hpo : X.pu = Y.pu := by rw [hX.px, hX.py]
      have hlo : (X.pu.o s).length ≤ 1000000 := by rw [hX.px]; have := o_len HIn.out.1 HIn.out.2 hs2; omega
      obtain ⟨oa, oc, pa, pc, ol, hov, hpv, hsl⟩ := same2 hX.x hX.y hs2 (by rw [hpo]) hlo
      obtain ⟨xa, xc, hxv⟩ := row_shape (hX.x.rowa hs2)
      obtain ⟨ya, yc, hyv⟩ := row_shape (hX.y.rowa hs2)
      have hae : X.a s = Y.a s := congrArg (fun Z : Px => Z.a s) hpo
      rw [← hae] at hyv
      obtain ⟨xl, hxl⟩ : ∃ n, (X.a s).length = n := ⟨_, rfl⟩
      rw [hxl] at hxv hyv
      obtain ⟨pm, hpm⟩ : ∃ p, (X.m s).b = p := ⟨_, rfl⟩
      obtain ⟨pn, hpn⟩ : ∃ p, (Y.m s).b = p := ⟨_, rfl⟩
      have d0 : wc.cell? ⟨b0, 6 + s, none⟩ = some (.slice oa ol oc) := by have := hX.x.cr (i := 6 + s) (by omega) (by omega); rw [hX.bx, hov] at this; exact this
      have d1 : wc.cell? ⟨b1, 6 + s, none⟩ = some (.slice pa ol pc) := by have := hX.y.cr (i := 6 + s) (by omega) (by omega); rw [hX.by', hpv] at this; exact this
      have d2 : wc.cell? ⟨b0, s, none⟩ = some (.pointer (some ⟨pm, 0, none⟩)) := by have := hX.x.cm hs2; rw [hX.bx, hpm] at this; exact this
      have d3 : wc.cell? ⟨b1, s, none⟩ = some (.pointer (some ⟨pn, 0, none⟩)) := by have := hX.y.cm hs2; rw [hX.by', hpn] at this; exact this
      have d4 : wc.cell? ⟨b0, 10 + s, none⟩ = some (.slice xa xl xc) := by have := hX.x.cr (i := 10 + s) (by omega) (by omega); rw [hX.bx, hxv] at this; exact this
      have d5 : wc.cell? ⟨b1, 10 + s, none⟩ = some (.slice ya xl yc) := by have := hX.y.cr (i := 10 + s) (by omega) (by omega); rw [hX.by', hyv] at this; exact this
      have HSl : Hid (∀ D, Below wc.heap.size wc D → Calls Try.prog 18 #[.slice oa ol oc, .slice pa ol pc] D fun e w' => e = .returned (.bool true) ∧ Below D.heap.size D w') := hsl
      obtain ⟨rm, hrm⟩ : ∃ r : Int, ((X.m s).room : Int) - (((X.e s).sent : Int) - ((X.e s).o.p : Int)) = r := ⟨_, rfl⟩
      obtain ⟨gt, hgt⟩ : ∃ r : Int, ((X.e s).i.p : Int) = r := ⟨_, rfl⟩
      have q1 : (X.e s).sent = (Y.e s).sent := congrArg (fun Z : Px => (Z.E s).sent) hpo
      have q2 : (X.e s).o.p = (Y.e s).o.p := congrArg (fun Z : Px => (Z.E s).op) hpo
      have q3 : (X.e s).i.p = (Y.e s).i.p := congrArg (fun Z : Px => (Z.E s).ip) hpo
      have q4 : (X.m s).room = (Y.m s).room := by rw [(hX.x.mt s hs2).2.2, (hX.y.mt s hs2).2.2]; exact congrArg (fun Z : Px => Z.space) hpo
      have HRx : Hid (∀ D, Below wc.heap.size wc D → Calls Try.prog 19 #[.pointer (some ⟨pm, 0, none⟩), .int .i64 (2 + 3 * (1 - (s : Int)))] D fun e w' => e = .returned (.int .i64 rm) ∧ Below D.heap.size D w') := fun D hb => (show Calls _ _ _ _ _ from by
        have := room_yes ((hX.x.still hb).mo s hs2) (qat (hX.x.still hb) hs2)
        rw [hpm, hrm] at this
        exact this)
      have HRy : Hid (∀ D, Below wc.heap.size wc D → Calls Try.prog 19 #[.pointer (some ⟨pn, 0, none⟩), .int .i64 (2 + 3 * (1 - (s : Int)))] D fun e w' => e = .returned (.int .i64 rm) ∧ Below D.heap.size D w') := fun D hb => (show Calls _ _ _ _ _ from by
        have := room_yes ((hX.y.still hb).mo s hs2) (qat (hX.y.still hb) hs2)
        rw [hpn, ← q1, ← q2, ← q4, hrm] at this
        exact this)
      have HGx : Hid (∀ D, Below wc.heap.size wc D → Calls Try.prog 20 #[.pointer (some ⟨pm, 0, none⟩), .int .i64 (2 + 3 * (1 - (s : Int)))] D fun e w' => e = .returned (.int .i64 gt) ∧ D = w') := fun D hb => (show Calls _ _ _ _ _ from by
        have := got_yes ((hX.x.still hb).mo s hs2) (qat (hX.x.still hb) hs2)
        rw [hpm, hgt] at this
        exact this)
      have HGy : Hid (∀ D, Below wc.heap.size wc D → Calls Try.prog 20 #[.pointer (some ⟨pn, 0, none⟩), .int .i64 (2 + 3 * (1 - (s : Int)))] D fun e w' => e = .returned (.int .i64 gt) ∧ D = w') := fun D hb => (show Calls _ _ _ _ _ from by
        have := got_yes ((hX.y.still hb).mo s hs2) (qat (hX.y.still hb) hs2)
        rw [hpn, ← q3, hgt] at this
        exact this)
      have HX : Hid (Tw W0 wc B b0 b1 Pn Pn X Y) := hX
      clear hX hpo hlo hov hpv hsl hxv hyv hae hxl hpm hpn hrm hgt q1 q2 q3 q4
      go_upto_region 16 with (fail)
      go_cut [195] (fun v195 wx => v195 = .bool false ∧ Hid (∃ X Y, Tw W0 wx B b0 b1 (runA (px0 win space) (t.ax.take (i + 1))) (runA (px0 win space) (t.ax.take (i + 1))) X Y))
      case first =>
        go_wp2_with (fail)
        refine wp_region_held_drew (S := (fun w' => w'.cell? ⟨b0, 6 + s, none⟩ = some (.slice oa ol oc) ∧ w'.cell? ⟨b1, 6 + s, none⟩ = some (.slice pa ol pc) ∧ w'.cell? ⟨b0, s, none⟩ = some (.pointer (some ⟨pm, 0, none⟩)) ∧ w'.cell? ⟨b1, s, none⟩ = some (.pointer (some ⟨pn, 0, none⟩)) ∧ w'.cell? ⟨b0, 10 + s, none⟩ = some (.slice xa xl xc) ∧ w'.cell? ⟨b1, 10 + s, none⟩ = some (.slice ya xl yc))) (by kernel_rfl) ⟨(below_at (drew_bel _) d0), (below_at (drew_bel _) d1), (below_at (drew_bel _) d2), (below_at (drew_bel _) d3), (below_at (drew_bel _) d4), (below_at (drew_bel _) d5)⟩ (fun hHeld => ?_)
        simp only [Act.put, List.size_toArray, List.length_cons, List.length_nil, Nat.zero_add]
        refine takeD (i := 0) (d := 119) (v := .pointer (some ⟨b0, 0, none⟩)) rfl (by kernel_rfl) (by kernel_rfl) (by kernel_rfl) (by kernel_rfl) (fun _ _ _ h => h) (Or.inl ⟨by rfl, fun w' hS => by go_simp⟩) hHeld ?_
        simp only [Act.put, List.setIfInBounds_toArray, List.set_cons_zero, List.set_cons_succ]
        refine takeD (i := 1) (d := 120) (v := .int .i64 (s : Int)) rfl (by kernel_rfl) (by kernel_rfl) (by kernel_rfl) (by kernel_rfl) (fun _ _ _ h => h) (Or.inl ⟨by rfl, fun w' hS => by go_simp⟩) hHeld ?_
        simp only [Act.put, List.setIfInBounds_toArray, List.set_cons_zero, List.set_cons_succ]
        refine takeD (i := 2) (d := 121) (v := .pointer (some ⟨b0, 0, none⟩)) rfl (by kernel_rfl) (by kernel_rfl) (by kernel_rfl) (by kernel_rfl) (fun _ _ _ h => h) (Or.inl ⟨by rfl, fun w' hS => by go_simp⟩) hHeld ?_
        simp only [Act.put, List.setIfInBounds_toArray, List.set_cons_zero, List.set_cons_succ]
        refine takeD (i := 3) (d := 122) (v := .pointer (some ⟨b0, 6, none⟩)) rfl (by kernel_rfl) (by kernel_rfl) (by kernel_rfl) (by kernel_rfl) (fun _ _ _ h => h) (Or.inl ⟨by rfl, fun w' hS => by go_simp⟩) hHeld ?_
        simp only [Act.put, List.setIfInBounds_toArray, List.set_cons_zero, List.set_cons_succ]
        refine takeD (i := 4) (d := 123) (v := .pointer (some ⟨b0, 6 + s, none⟩)) rfl (by kernel_rfl) (by kernel_rfl) (by kernel_rfl) (by kernel_rfl) (fun _ _ _ h => h) (Or.inl ⟨by rfl, fun w' hS => by go_simp⟩) hHeld ?_
        simp only [Act.put, List.setIfInBounds_toArray, List.set_cons_zero, List.set_cons_succ]
        refine takeD (i := 5) (d := 124) (v := .slice oa ol oc) rfl (by kernel_rfl) (by kernel_rfl) (by kernel_rfl) (by kernel_rfl) (fun _ _ _ h => h) (Or.inl ⟨by rfl, fun w' hS => by (obtain ⟨s0, s1, s2, s3, s4, s5⟩ := hS; go_simp)⟩) hHeld ?_
        simp only [Act.put, List.setIfInBounds_toArray, List.set_cons_zero, List.set_cons_succ]
        refine takeD (i := 6) (d := 125) (v := .pointer (some ⟨b1, 0, none⟩)) rfl (by kernel_rfl) (by kernel_rfl) (by kernel_rfl) (by kernel_rfl) (fun _ _ _ h => h) (Or.inl ⟨by rfl, fun w' hS => by go_simp⟩) hHeld ?_
        simp only [Act.put, List.setIfInBounds_toArray, List.set_cons_zero, List.set_cons_succ]
        refine takeD (i := 7) (d := 126) (v := .int .i64 (s : Int)) rfl (by kernel_rfl) (by kernel_rfl) (by kernel_rfl) (by kernel_rfl) (fun _ _ _ h => h) (Or.inl ⟨by rfl, fun w' hS => by go_simp⟩) hHeld ?_
        simp only [Act.put, List.setIfInBounds_toArray, List.set_cons_zero, List.set_cons_succ]
        refine takeD (i := 8) (d := 127) (v := .pointer (some ⟨b1, 0, none⟩)) rfl (by kernel_rfl) (by kernel_rfl) (by kernel_rfl) (by kernel_rfl) (fun _ _ _ h => h) (Or.inl ⟨by rfl, fun w' hS => by go_simp⟩) hHeld ?_
        simp only [Act.put, List.setIfInBounds_toArray, List.set_cons_zero, List.set_cons_succ]
        refine takeD (i := 9) (d := 128) (v := .pointer (some ⟨b1, 6, none⟩)) rfl (by kernel_rfl) (by kernel_rfl) (by kernel_rfl) (by kernel_rfl) (fun _ _ _ h => h) (Or.inl ⟨by rfl, fun w' hS => by go_simp⟩) hHeld ?_
        simp only [Act.put, List.setIfInBounds_toArray, List.set_cons_zero, List.set_cons_succ]
        refine takeD (i := 10) (d := 129) (v := .pointer (some ⟨b1, 6 + s, none⟩)) rfl (by kernel_rfl) (by kernel_rfl) (by kernel_rfl) (by kernel_rfl) (fun _ _ _ h => h) (Or.inl ⟨by rfl, fun w' hS => by go_simp⟩) hHeld ?_
        simp only [Act.put, List.setIfInBounds_toArray, List.set_cons_zero, List.set_cons_succ]
        refine takeD (i := 11) (d := 130) (v := .slice pa ol pc) rfl (by kernel_rfl) (by kernel_rfl) (by kernel_rfl) (by kernel_rfl) (fun _ _ _ h => h) (Or.inl ⟨by rfl, fun w' hS => by (obtain ⟨s0, s1, s2, s3, s4, s5⟩ := hS; go_simp)⟩) hHeld ?_
        simp only [Act.put, List.setIfInBounds_toArray, List.set_cons_zero, List.set_cons_succ]
        as_aux_lemma =>
        have hbD4 : Below wc.heap.size wc wc.drew := drew_bel _
        have q0 := below_at hbD4 d0
        have q1 := below_at hbD4 d1
        have q2 := below_at hbD4 d2
        have q3 := below_at hbD4 d3
        have q4 := below_at hbD4 d4
        have q5 := below_at hbD4 d5
        refine wpAnyH_ready (rs := [12]) (by kernel_rfl) (by simp) ?_
        refine AllReadyH.cons rfl (fun K hK => ?_) AllReadyH.nil
        go_simp
        refine (HSl.out (wc.drew) hbD4).mono ?_
        rintro e w5 ⟨rfl, hb5⟩
        refine hK.out _ _ ⟨(below_at hb5 q0), (below_at hb5 q1), (below_at hb5 q2), (below_at hb5 q3), (below_at hb5 q4), (below_at hb5 q5)⟩ (fun hHeld => ?_)
        clear hK K
        refine takeD (i := 13) (d := 132) (v := .bool false) rfl (by kernel_rfl) (by kernel_rfl) (by kernel_rfl) (by kernel_rfl) (fun _ _ _ h => h) (Or.inl ⟨by rfl, fun w' hS => by go_simp⟩) hHeld ?_
        simp only [Act.put, List.setIfInBounds_toArray, List.set_cons_zero, List.set_cons_succ]
        refine takeD (i := 14) (d := 133) (v := .bool false) rfl (by kernel_rfl) (by kernel_rfl) (by kernel_rfl) (by kernel_rfl) (fun _ _ _ h => h) (Or.inl ⟨by rfl, fun w' hS => by go_simp⟩) hHeld ?_
        simp only [Act.put, List.setIfInBounds_toArray, List.set_cons_zero, List.set_cons_succ]
        refine takeD (i := 15) (d := 134) (v := .pointer (some ⟨b0, 0, none⟩)) rfl (by kernel_rfl) (by kernel_rfl) (by kernel_rfl) (by kernel_rfl) (fun _ _ _ h => h) (Or.inl ⟨by kernel_rfl, fun w' hS => by go_simp⟩) hHeld ?_
        simp only [Act.put, List.setIfInBounds_toArray, List.set_cons_zero, List.set_cons_succ]
        refine takeD (i := 16) (d := 135) (v := .int .i64 (s : Int)) rfl (by kernel_rfl) (by kernel_rfl) (by kernel_rfl) (by kernel_rfl) (fun _ _ _ h => h) (Or.inl ⟨by kernel_rfl, fun w' hS => by go_simp⟩) hHeld ?_
        simp only [Act.put, List.setIfInBounds_toArray, List.set_cons_zero, List.set_cons_succ]
        refine takeD (i := 17) (d := 136) (v := .pointer (some ⟨b0, 0, none⟩)) rfl (by kernel_rfl) (by kernel_rfl) (by kernel_rfl) (by kernel_rfl) (fun _ _ _ h => h) (Or.inl ⟨by kernel_rfl, fun w' hS => by go_simp⟩) hHeld ?_
        simp only [Act.put, List.setIfInBounds_toArray, List.set_cons_zero, List.set_cons_succ]
        refine takeD (i := 18) (d := 137) (v := .pointer (some ⟨b0, 0, none⟩)) rfl (by kernel_rfl) (by kernel_rfl) (by kernel_rfl) (by kernel_rfl) (fun _ _ _ h => h) (Or.inl ⟨by kernel_rfl, fun w' hS => by go_simp⟩) hHeld ?_
        simp only [Act.put, List.setIfInBounds_toArray, List.set_cons_zero, List.set_cons_succ]
        refine takeD (i := 19) (d := 138) (v := .pointer (some ⟨b0, s, none⟩)) rfl (by kernel_rfl) (by kernel_rfl) (by kernel_rfl) (by kernel_rfl) (fun _ _ _ h => h) (Or.inl ⟨by kernel_rfl, fun w' hS => by go_simp⟩) hHeld ?_
        simp only [Act.put, List.setIfInBounds_toArray, List.set_cons_zero, List.set_cons_succ]
        refine takeD (i := 20) (d := 139) (v := .pointer (some ⟨pm, 0, none⟩)) rfl (by kernel_rfl) (by kernel_rfl) (by kernel_rfl) (by kernel_rfl) (fun _ _ _ h => h) (Or.inl ⟨by kernel_rfl, fun w' hS => by (obtain ⟨s0, s1, s2, s3, s4, s5⟩ := hS; go_simp)⟩) hHeld ?_
        simp only [Act.put, List.setIfInBounds_toArray, List.set_cons_zero, List.set_cons_succ]
        refine takeD (i := 21) (d := 140) (v := .int .i64 (s : Int)) rfl (by kernel_rfl) (by kernel_rfl) (by kernel_rfl) (by kernel_rfl) (fun _ _ _ h => h) (Or.inl ⟨by kernel_rfl, fun w' hS => by go_simp⟩) hHeld ?_
        simp only [Act.put, List.setIfInBounds_toArray, List.set_cons_zero, List.set_cons_succ]
        refine takeD (i := 22) (d := 141) (v := .int .i64 (1 - (s : Int))) rfl (by kernel_rfl) (by kernel_rfl) (by kernel_rfl) (by kernel_rfl) (fun _ _ _ h => h) (Or.inl ⟨by kernel_rfl, fun w' hS => by (go_simp <;> exact wrap_id (by omega) (by omega))⟩) hHeld ?_
        simp only [Act.put, List.setIfInBounds_toArray, List.set_cons_zero, List.set_cons_succ]
        refine takeD (i := 25) (d := 144) (v := .pointer (some ⟨b1, 0, none⟩)) rfl (by kernel_rfl) (by kernel_rfl) (by kernel_rfl) (by kernel_rfl) (fun _ _ _ h => h) (Or.inl ⟨by kernel_rfl, fun w' hS => by go_simp⟩) hHeld ?_
        simp only [Act.put, List.setIfInBounds_toArray, List.set_cons_zero, List.set_cons_succ]
        refine takeD (i := 26) (d := 145) (v := .int .i64 (s : Int)) rfl (by kernel_rfl) (by kernel_rfl) (by kernel_rfl) (by kernel_rfl) (fun _ _ _ h => h) (Or.inl ⟨by kernel_rfl, fun w' hS => by go_simp⟩) hHeld ?_
        simp only [Act.put, List.setIfInBounds_toArray, List.set_cons_zero, List.set_cons_succ]
        as_aux_lemma =>
        refine takeD (i := 27) (d := 146) (v := .pointer (some ⟨b1, 0, none⟩)) rfl (by kernel_rfl) (by kernel_rfl) (by kernel_rfl) (by kernel_rfl) (fun _ _ _ h => h) (Or.inl ⟨by kernel_rfl, fun w' hS => by go_simp⟩) hHeld ?_
        simp only [Act.put, List.setIfInBounds_toArray, List.set_cons_zero, List.set_cons_succ]
        refine takeD (i := 28) (d := 147) (v := .pointer (some ⟨b1, 0, none⟩)) rfl (by kernel_rfl) (by kernel_rfl) (by kernel_rfl) (by kernel_rfl) (fun _ _ _ h => h) (Or.inl ⟨by kernel_rfl, fun w' hS => by go_simp⟩) hHeld ?_
        simp only [Act.put, List.setIfInBounds_toArray, List.set_cons_zero, List.set_cons_succ]
        refine takeD (i := 29) (d := 148) (v := .pointer (some ⟨b1, s, none⟩)) rfl (by kernel_rfl) (by kernel_rfl) (by kernel_rfl) (by kernel_rfl) (fun _ _ _ h => h) (Or.inl ⟨by kernel_rfl, fun w' hS => by go_simp⟩) hHeld ?_
        simp only [Act.put, List.setIfInBounds_toArray, List.set_cons_zero, List.set_cons_succ]
        refine takeD (i := 30) (d := 149) (v := .pointer (some ⟨pn, 0, none⟩)) rfl (by kernel_rfl) (by kernel_rfl) (by kernel_rfl) (by kernel_rfl) (fun _ _ _ h => h) (Or.inl ⟨by kernel_rfl, fun w' hS => by (obtain ⟨s0, s1, s2, s3, s4, s5⟩ := hS; go_simp)⟩) hHeld ?_
        simp only [Act.put, List.setIfInBounds_toArray, List.set_cons_zero, List.set_cons_succ]
        refine takeD (i := 31) (d := 150) (v := .int .i64 (s : Int)) rfl (by kernel_rfl) (by kernel_rfl) (by kernel_rfl) (by kernel_rfl) (fun _ _ _ h => h) (Or.inl ⟨by kernel_rfl, fun w' hS => by go_simp⟩) hHeld ?_
        simp only [Act.put, List.setIfInBounds_toArray, List.set_cons_zero, List.set_cons_succ]
        refine takeD (i := 32) (d := 151) (v := .int .i64 (1 - (s : Int))) rfl (by kernel_rfl) (by kernel_rfl) (by kernel_rfl) (by kernel_rfl) (fun _ _ _ h => h) (Or.inl ⟨by kernel_rfl, fun w' hS => by (go_simp <;> exact wrap_id (by omega) (by omega))⟩) hHeld ?_
        simp only [Act.put, List.setIfInBounds_toArray, List.set_cons_zero, List.set_cons_succ]
        refine wpAnyH_ready (rs := [23]) (by kernel_rfl) (by simp) ?_
        refine AllReadyH.cons rfl (fun K hK => ?_) AllReadyH.nil
        go_simp
        refine (pid_any j1 j2).mono ?_
        rintro e w5 ⟨rfl, rfl⟩
        refine hK.out _ _ ⟨(below_at hb5 q0), (below_at hb5 q1), (below_at hb5 q2), (below_at hb5 q3), (below_at hb5 q4), (below_at hb5 q5)⟩ (fun hHeld => ?_)
        clear hK K
        refine wpAnyH_ready (rs := [24]) (by kernel_rfl) (by simp) ?_
        refine AllReadyH.cons rfl (fun K hK => ?_) AllReadyH.nil
        go_simp
        refine (HRx.out w5 (bstep hbD4 hb5)).mono ?_
        rintro e w6 ⟨rfl, hb6⟩
        refine hK.out _ _ ⟨(below_at hb6 (below_at hb5 q0)), (below_at hb6 (below_at hb5 q1)), (below_at hb6 (below_at hb5 q2)), (below_at hb6 (below_at hb5 q3)), (below_at hb6 (below_at hb5 q4)), (below_at hb6 (below_at hb5 q5))⟩ (fun hHeld => ?_)
        clear hK K
        refine wpAnyH_ready (rs := [33]) (by kernel_rfl) (by simp) ?_
        refine AllReadyH.cons rfl (fun K hK => ?_) AllReadyH.nil
        go_simp
        refine (pid_any j1 j2).mono ?_
        rintro e w5 ⟨rfl, rfl⟩
        refine hK.out _ _ ⟨(below_at hb6 (below_at hb5 q0)), (below_at hb6 (below_at hb5 q1)), (below_at hb6 (below_at hb5 q2)), (below_at hb6 (below_at hb5 q3)), (below_at hb6 (below_at hb5 q4)), (below_at hb6 (below_at hb5 q5))⟩ (fun hHeld => ?_)
        clear hK K
        refine wpAnyH_ready (rs := [34]) (by kernel_rfl) (by simp) ?_
        refine AllReadyH.cons rfl (fun K hK => ?_) AllReadyH.nil
        go_simp
        refine (HRy.out w6 (bstep (bstep hbD4 hb5) hb6)).mono ?_
        rintro e w7 ⟨rfl, hb7⟩
        refine hK.out _ _ ⟨(below_at hb7 (below_at hb6 (below_at hb5 q0))), (below_at hb7 (below_at hb6 (below_at hb5 q1))), (below_at hb7 (below_at hb6 (below_at hb5 q2))), (below_at hb7 (below_at hb6 (below_at hb5 q3))), (below_at hb7 (below_at hb6 (below_at hb5 q4))), (below_at hb7 (below_at hb6 (below_at hb5 q5)))⟩ (fun hHeld => ?_)
        clear hK K
        refine takeD (i := 35) (d := 154) (v := .bool false) rfl (by kernel_rfl) (by kernel_rfl) (by kernel_rfl) (by kernel_rfl) (fun _ _ _ h => h) (Or.inl ⟨by kernel_rfl, fun w' hS => by go_simp⟩) hHeld ?_
        simp only [Act.put, List.setIfInBounds_toArray, List.set_cons_zero, List.set_cons_succ]
        refine takeD (i := 36) (d := 155) (v := .bool false) rfl (by kernel_rfl) (by kernel_rfl) (by kernel_rfl) (by kernel_rfl) (fun _ _ _ h => h) (Or.inl ⟨by rfl, fun w' hS => by go_simp⟩) hHeld ?_
        simp only [Act.put, List.setIfInBounds_toArray, List.set_cons_zero, List.set_cons_succ]
        refine takeD (i := 37) (d := 156) (v := .bool false) rfl (by kernel_rfl) (by kernel_rfl) (by kernel_rfl) (by kernel_rfl) (fun _ _ _ h => h) (Or.inl ⟨by rfl, fun w' hS => by go_simp⟩) hHeld ?_
        simp only [Act.put, List.setIfInBounds_toArray, List.set_cons_zero, List.set_cons_succ]
        refine takeD (i := 38) (d := 157) (v := .pointer (some ⟨b0, 0, none⟩)) rfl (by kernel_rfl) (by kernel_rfl) (by kernel_rfl) (by kernel_rfl) (fun _ _ _ h => h) (Or.inl ⟨by kernel_rfl, fun w' hS => by go_simp⟩) hHeld ?_
        simp only [Act.put, List.setIfInBounds_toArray, List.set_cons_zero, List.set_cons_succ]
        refine takeD (i := 39) (d := 158) (v := .int .i64 (s : Int)) rfl (by kernel_rfl) (by kernel_rfl) (by kernel_rfl) (by kernel_rfl) (fun _ _ _ h => h) (Or.inl ⟨by kernel_rfl, fun w' hS => by go_simp⟩) hHeld ?_
        simp only [Act.put, List.setIfInBounds_toArray, List.set_cons_zero, List.set_cons_succ]
        refine takeD (i := 40) (d := 159) (v := .pointer (some ⟨b0, 0, none⟩)) rfl (by kernel_rfl) (by kernel_rfl) (by kernel_rfl) (by kernel_rfl) (fun _ _ _ h => h) (Or.inl ⟨by kernel_rfl, fun w' hS => by go_simp⟩) hHeld ?_
        simp only [Act.put, List.setIfInBounds_toArray, List.set_cons_zero, List.set_cons_succ]
        as_aux_lemma =>
        refine takeD (i := 41) (d := 160) (v := .pointer (some ⟨b0, 0, none⟩)) rfl (by kernel_rfl) (by kernel_rfl) (by kernel_rfl) (by kernel_rfl) (fun _ _ _ h => h) (Or.inl ⟨by kernel_rfl, fun w' hS => by go_simp⟩) hHeld ?_
        simp only [Act.put, List.setIfInBounds_toArray, List.set_cons_zero, List.set_cons_succ]
        refine takeD (i := 42) (d := 161) (v := .pointer (some ⟨b0, s, none⟩)) rfl (by kernel_rfl) (by kernel_rfl) (by kernel_rfl) (by kernel_rfl) (fun _ _ _ h => h) (Or.inl ⟨by kernel_rfl, fun w' hS => by go_simp⟩) hHeld ?_
        simp only [Act.put, List.setIfInBounds_toArray, List.set_cons_zero, List.set_cons_succ]
        refine takeD (i := 43) (d := 162) (v := .pointer (some ⟨pm, 0, none⟩)) rfl (by kernel_rfl) (by kernel_rfl) (by kernel_rfl) (by kernel_rfl) (fun _ _ _ h => h) (Or.inl ⟨by kernel_rfl, fun w' hS => by (obtain ⟨s0, s1, s2, s3, s4, s5⟩ := hS; go_simp)⟩) hHeld ?_
        simp only [Act.put, List.setIfInBounds_toArray, List.set_cons_zero, List.set_cons_succ]
        refine takeD (i := 44) (d := 163) (v := .int .i64 (s : Int)) rfl (by kernel_rfl) (by kernel_rfl) (by kernel_rfl) (by kernel_rfl) (fun _ _ _ h => h) (Or.inl ⟨by kernel_rfl, fun w' hS => by go_simp⟩) hHeld ?_
        simp only [Act.put, List.setIfInBounds_toArray, List.set_cons_zero, List.set_cons_succ]
        refine takeD (i := 45) (d := 164) (v := .int .i64 (1 - (s : Int))) rfl (by kernel_rfl) (by kernel_rfl) (by kernel_rfl) (by kernel_rfl) (fun _ _ _ h => h) (Or.inl ⟨by kernel_rfl, fun w' hS => by (go_simp <;> exact wrap_id (by omega) (by omega))⟩) hHeld ?_
        simp only [Act.put, List.setIfInBounds_toArray, List.set_cons_zero, List.set_cons_succ]
        refine takeD (i := 48) (d := 167) (v := .pointer (some ⟨b1, 0, none⟩)) rfl (by kernel_rfl) (by kernel_rfl) (by kernel_rfl) (by kernel_rfl) (fun _ _ _ h => h) (Or.inl ⟨by kernel_rfl, fun w' hS => by go_simp⟩) hHeld ?_
        simp only [Act.put, List.setIfInBounds_toArray, List.set_cons_zero, List.set_cons_succ]
        refine takeD (i := 49) (d := 168) (v := .int .i64 (s : Int)) rfl (by kernel_rfl) (by kernel_rfl) (by kernel_rfl) (by kernel_rfl) (fun _ _ _ h => h) (Or.inl ⟨by kernel_rfl, fun w' hS => by go_simp⟩) hHeld ?_
        simp only [Act.put, List.setIfInBounds_toArray, List.set_cons_zero, List.set_cons_succ]
        refine takeD (i := 50) (d := 169) (v := .pointer (some ⟨b1, 0, none⟩)) rfl (by kernel_rfl) (by kernel_rfl) (by kernel_rfl) (by kernel_rfl) (fun _ _ _ h => h) (Or.inl ⟨by kernel_rfl, fun w' hS => by go_simp⟩) hHeld ?_
        simp only [Act.put, List.setIfInBounds_toArray, List.set_cons_zero, List.set_cons_succ]
        refine takeD (i := 51) (d := 170) (v := .pointer (some ⟨b1, 0, none⟩)) rfl (by kernel_rfl) (by kernel_rfl) (by kernel_rfl) (by kernel_rfl) (fun _ _ _ h => h) (Or.inl ⟨by kernel_rfl, fun w' hS => by go_simp⟩) hHeld ?_
        simp only [Act.put, List.setIfInBounds_toArray, List.set_cons_zero, List.set_cons_succ]
        refine takeD (i := 52) (d := 171) (v := .pointer (some ⟨b1, s, none⟩)) rfl (by kernel_rfl) (by kernel_rfl) (by kernel_rfl) (by kernel_rfl) (fun _ _ _ h => h) (Or.inl ⟨by kernel_rfl, fun w' hS => by go_simp⟩) hHeld ?_
        simp only [Act.put, List.setIfInBounds_toArray, List.set_cons_zero, List.set_cons_succ]
        refine takeD (i := 53) (d := 172) (v := .pointer (some ⟨pn, 0, none⟩)) rfl (by kernel_rfl) (by kernel_rfl) (by kernel_rfl) (by kernel_rfl) (fun _ _ _ h => h) (Or.inl ⟨by kernel_rfl, fun w' hS => by (obtain ⟨s0, s1, s2, s3, s4, s5⟩ := hS; go_simp)⟩) hHeld ?_
        simp only [Act.put, List.setIfInBounds_toArray, List.set_cons_zero, List.set_cons_succ]
        refine takeD (i := 54) (d := 173) (v := .int .i64 (s : Int)) rfl (by kernel_rfl) (by kernel_rfl) (by kernel_rfl) (by kernel_rfl) (fun _ _ _ h => h) (Or.inl ⟨by kernel_rfl, fun w' hS => by go_simp⟩) hHeld ?_
        simp only [Act.put, List.setIfInBounds_toArray, List.set_cons_zero, List.set_cons_succ]
        as_aux_lemma =>
        refine takeD (i := 55) (d := 174) (v := .int .i64 (1 - (s : Int))) rfl (by kernel_rfl) (by kernel_rfl) (by kernel_rfl) (by kernel_rfl) (fun _ _ _ h => h) (Or.inl ⟨by kernel_rfl, fun w' hS => by (go_simp <;> exact wrap_id (by omega) (by omega))⟩) hHeld ?_
        simp only [Act.put, List.setIfInBounds_toArray, List.set_cons_zero, List.set_cons_succ]
        refine wpAnyH_ready (rs := [46]) (by kernel_rfl) (by simp) ?_
        refine AllReadyH.cons rfl (fun K hK => ?_) AllReadyH.nil
        go_simp
        refine (pid_any j1 j2).mono ?_
        rintro e w5 ⟨rfl, rfl⟩
        refine hK.out _ _ ⟨(below_at hb7 (below_at hb6 (below_at hb5 q0))), (below_at hb7 (below_at hb6 (below_at hb5 q1))), (below_at hb7 (below_at hb6 (below_at hb5 q2))), (below_at hb7 (below_at hb6 (below_at hb5 q3))), (below_at hb7 (below_at hb6 (below_at hb5 q4))), (below_at hb7 (below_at hb6 (below_at hb5 q5)))⟩ (fun hHeld => ?_)
        clear hK K
        refine wpAnyH_ready (rs := [47]) (by kernel_rfl) (by simp) ?_
        refine AllReadyH.cons rfl (fun K hK => ?_) AllReadyH.nil
        go_simp
        refine (HGx.out w7 (bstep (bstep (bstep hbD4 hb5) hb6) hb7)).mono ?_
        rintro e w8 ⟨rfl, rfl⟩
        refine hK.out _ _ ⟨(below_at hb7 (below_at hb6 (below_at hb5 q0))), (below_at hb7 (below_at hb6 (below_at hb5 q1))), (below_at hb7 (below_at hb6 (below_at hb5 q2))), (below_at hb7 (below_at hb6 (below_at hb5 q3))), (below_at hb7 (below_at hb6 (below_at hb5 q4))), (below_at hb7 (below_at hb6 (below_at hb5 q5)))⟩ (fun hHeld => ?_)
        clear hK K
        refine wpAnyH_ready (rs := [56]) (by kernel_rfl) (by simp) ?_
        refine AllReadyH.cons rfl (fun K hK => ?_) AllReadyH.nil
        go_simp
        refine (pid_any j1 j2).mono ?_
        rintro e w5 ⟨rfl, rfl⟩
        refine hK.out _ _ ⟨(below_at hb7 (below_at hb6 (below_at hb5 q0))), (below_at hb7 (below_at hb6 (below_at hb5 q1))), (below_at hb7 (below_at hb6 (below_at hb5 q2))), (below_at hb7 (below_at hb6 (below_at hb5 q3))), (below_at hb7 (below_at hb6 (below_at hb5 q4))), (below_at hb7 (below_at hb6 (below_at hb5 q5)))⟩ (fun hHeld => ?_)
        clear hK K
        refine wpAnyH_ready (rs := [57]) (by kernel_rfl) (by simp) ?_
        refine AllReadyH.cons rfl (fun K hK => ?_) AllReadyH.nil
        go_simp
        refine (HGy.out w7 (bstep (bstep (bstep hbD4 hb5) hb6) hb7)).mono ?_
        rintro e w8 ⟨rfl, rfl⟩
        refine hK.out _ _ ⟨(below_at hb7 (below_at hb6 (below_at hb5 q0))), (below_at hb7 (below_at hb6 (below_at hb5 q1))), (below_at hb7 (below_at hb6 (below_at hb5 q2))), (below_at hb7 (below_at hb6 (below_at hb5 q3))), (below_at hb7 (below_at hb6 (below_at hb5 q4))), (below_at hb7 (below_at hb6 (below_at hb5 q5)))⟩ (fun hHeld => ?_)
        clear hK K
        refine takeD (i := 58) (d := 177) (v := .bool false) rfl (by kernel_rfl) (by kernel_rfl) (by kernel_rfl) (by kernel_rfl) (fun _ _ _ h => h) (Or.inl ⟨by kernel_rfl, fun w' hS => by go_simp⟩) hHeld ?_
        simp only [Act.put, List.setIfInBounds_toArray, List.set_cons_zero, List.set_cons_succ]
        refine takeD (i := 59) (d := 178) (v := .bool false) rfl (by kernel_rfl) (by kernel_rfl) (by kernel_rfl) (by kernel_rfl) (fun _ _ _ h => h) (Or.inl ⟨by rfl, fun w' hS => by go_simp⟩) hHeld ?_
        simp only [Act.put, List.setIfInBounds_toArray, List.set_cons_zero, List.set_cons_succ]
        refine takeD (i := 60) (d := 179) (v := .bool false) rfl (by kernel_rfl) (by kernel_rfl) (by kernel_rfl) (by kernel_rfl) (fun _ _ _ h => h) (Or.inl ⟨by rfl, fun w' hS => by go_simp⟩) hHeld ?_
        simp only [Act.put, List.setIfInBounds_toArray, List.set_cons_zero, List.set_cons_succ]
        refine takeD (i := 61) (d := 180) (v := .pointer (some ⟨b0, 0, none⟩)) rfl (by kernel_rfl) (by kernel_rfl) (by kernel_rfl) (by kernel_rfl) (fun _ _ _ h => h) (Or.inl ⟨by kernel_rfl, fun w' hS => by go_simp⟩) hHeld ?_
        simp only [Act.put, List.setIfInBounds_toArray, List.set_cons_zero, List.set_cons_succ]
        refine takeD (i := 62) (d := 181) (v := .int .i64 (s : Int)) rfl (by kernel_rfl) (by kernel_rfl) (by kernel_rfl) (by kernel_rfl) (fun _ _ _ h => h) (Or.inl ⟨by kernel_rfl, fun w' hS => by go_simp⟩) hHeld ?_
        simp only [Act.put, List.setIfInBounds_toArray, List.set_cons_zero, List.set_cons_succ]
        refine takeD (i := 63) (d := 182) (v := .pointer (some ⟨b0, 0, none⟩)) rfl (by kernel_rfl) (by kernel_rfl) (by kernel_rfl) (by kernel_rfl) (fun _ _ _ h => h) (Or.inl ⟨by kernel_rfl, fun w' hS => by go_simp⟩) hHeld ?_
        simp only [Act.put, List.setIfInBounds_toArray, List.set_cons_zero, List.set_cons_succ]
        refine takeD (i := 64) (d := 183) (v := .pointer (some ⟨b0, 10, none⟩)) rfl (by kernel_rfl) (by kernel_rfl) (by kernel_rfl) (by kernel_rfl) (fun _ _ _ h => h) (Or.inl ⟨by kernel_rfl, fun w' hS => by go_simp⟩) hHeld ?_
        simp only [Act.put, List.setIfInBounds_toArray, List.set_cons_zero, List.set_cons_succ]
        refine takeD (i := 65) (d := 184) (v := .pointer (some ⟨b0, 10 + s, none⟩)) rfl (by kernel_rfl) (by kernel_rfl) (by kernel_rfl) (by kernel_rfl) (fun _ _ _ h => h) (Or.inl ⟨by kernel_rfl, fun w' hS => by go_simp⟩) hHeld ?_
        simp only [Act.put, List.setIfInBounds_toArray, List.set_cons_zero, List.set_cons_succ]
        refine takeD (i := 66) (d := 185) (v := .slice xa xl xc) rfl (by kernel_rfl) (by kernel_rfl) (by kernel_rfl) (by kernel_rfl) (fun _ _ _ h => h) (Or.inl ⟨by kernel_rfl, fun w' hS => by (obtain ⟨s0, s1, s2, s3, s4, s5⟩ := hS; go_simp)⟩) hHeld ?_
        simp only [Act.put, List.setIfInBounds_toArray, List.set_cons_zero, List.set_cons_succ]
        refine takeD (i := 67) (d := 186) (v := .int .i64 (xl : Int)) rfl (by kernel_rfl) (by kernel_rfl) (by kernel_rfl) (by kernel_rfl) (fun _ _ _ h => h) (Or.inl ⟨by kernel_rfl, fun w' hS => by go_simp⟩) hHeld ?_
        simp only [Act.put, List.setIfInBounds_toArray, List.set_cons_zero, List.set_cons_succ]
        refine takeD (i := 68) (d := 187) (v := .pointer (some ⟨b1, 0, none⟩)) rfl (by kernel_rfl) (by kernel_rfl) (by kernel_rfl) (by kernel_rfl) (fun _ _ _ h => h) (Or.inl ⟨by kernel_rfl, fun w' hS => by go_simp⟩) hHeld ?_
        simp only [Act.put, List.setIfInBounds_toArray, List.set_cons_zero, List.set_cons_succ]
        as_aux_lemma =>
        refine takeD (i := 69) (d := 188) (v := .int .i64 (s : Int)) rfl (by kernel_rfl) (by kernel_rfl) (by kernel_rfl) (by kernel_rfl) (fun _ _ _ h => h) (Or.inl ⟨by kernel_rfl, fun w' hS => by go_simp⟩) hHeld ?_
        simp only [Act.put, List.setIfInBounds_toArray, List.set_cons_zero, List.set_cons_succ]
        refine takeD (i := 70) (d := 189) (v := .pointer (some ⟨b1, 0, none⟩)) rfl (by kernel_rfl) (by kernel_rfl) (by kernel_rfl) (by kernel_rfl) (fun _ _ _ h => h) (Or.inl ⟨by kernel_rfl, fun w' hS => by go_simp⟩) hHeld ?_
        simp only [Act.put, List.setIfInBounds_toArray, List.set_cons_zero, List.set_cons_succ]
        refine takeD (i := 71) (d := 190) (v := .pointer (some ⟨b1, 10, none⟩)) rfl (by kernel_rfl) (by kernel_rfl) (by kernel_rfl) (by kernel_rfl) (fun _ _ _ h => h) (Or.inl ⟨by kernel_rfl, fun w' hS => by go_simp⟩) hHeld ?_
        simp only [Act.put, List.setIfInBounds_toArray, List.set_cons_zero, List.set_cons_succ]
        refine takeD (i := 72) (d := 191) (v := .pointer (some ⟨b1, 10 + s, none⟩)) rfl (by kernel_rfl) (by kernel_rfl) (by kernel_rfl) (by kernel_rfl) (fun _ _ _ h => h) (Or.inl ⟨by kernel_rfl, fun w' hS => by go_simp⟩) hHeld ?_
        simp only [Act.put, List.setIfInBounds_toArray, List.set_cons_zero, List.set_cons_succ]
        refine takeD (i := 73) (d := 192) (v := .slice ya xl yc) rfl (by kernel_rfl) (by kernel_rfl) (by kernel_rfl) (by kernel_rfl) (fun _ _ _ h => h) (Or.inl ⟨by kernel_rfl, fun w' hS => by (obtain ⟨s0, s1, s2, s3, s4, s5⟩ := hS; go_simp)⟩) hHeld ?_
        simp only [Act.put, List.setIfInBounds_toArray, List.set_cons_zero, List.set_cons_succ]
        refine takeD (i := 74) (d := 193) (v := .int .i64 (xl : Int)) rfl (by kernel_rfl) (by kernel_rfl) (by kernel_rfl) (by kernel_rfl) (fun _ _ _ h => h) (Or.inl ⟨by kernel_rfl, fun w' hS => by go_simp⟩) hHeld ?_
        simp only [Act.put, List.setIfInBounds_toArray, List.set_cons_zero, List.set_cons_succ]
        refine takeD (i := 75) (d := 194) (v := .bool false) rfl (by kernel_rfl) (by kernel_rfl) (by kernel_rfl) (by kernel_rfl) (fun _ _ _ h => h) (Or.inl ⟨by kernel_rfl, fun w' hS => by go_simp⟩) hHeld ?_
        simp only [Act.put, List.setIfInBounds_toArray, List.set_cons_zero, List.set_cons_succ]
        refine takeD (i := 76) (d := 195) (v := .bool false) rfl (by kernel_rfl) (by kernel_rfl) (by kernel_rfl) (by kernel_rfl) (fun _ _ _ h => h) (Or.inl ⟨by rfl, fun w' hS => by go_simp⟩) hHeld ?_
        simp only [Act.put, List.setIfInBounds_toArray, List.set_cons_zero, List.set_cons_succ]
        refine wpAnyH_done (by kernel_rfl) ?_ _
        clear hHeld
        have HF : Hid (∃ X Y, Tw W0 w7 B b0 b1 (runA (px0 win space) (t.ax.take (i + 1))) (runA (px0 win space) (t.ax.take (i + 1))) X Y) := (show ∃ X Y, Tw _ _ _ _ _ _ _ X Y from ⟨X, Y, by rw [HPn.out]; exact HX.out.still (bstep (bstep (bstep hbD4 hb5) hb6) hb7)⟩)
        clear HX HSl HRx HRy HGx HGy d0 d1 d2 d3 d4 d5 q0 q1 q2 q3 q4 q5 hbD4 hb5 hb6 hb7 HIn HPn hrem
        go_wp2_with (fail)
        go_meet
        exact ⟨rfl, HF⟩
      case rest =>
      obtain ⟨rfl, HF⟩ := hcut
      have hle1 : i + 1 ≤ t.an := by omega
      have hle2 : i + 1 ≤ 200 := by omega
      have hi4 : i < 200 := hi3.2
      clear HX HSl HRx HRy HGx HGy d0 d1 d2 d3 d4 d5 HIn HPn hrem
      clear n1 n2 j1 j2 hs2 hi3 HAx HI HT HC c3 HbW i2 hi1 hi2 hw1 han
      go_wp2
      exact ⟨⟨i + 1, hle1, hle2, by go_num, HF⟩, by simp [intOf]; omega⟩
    · have HL0 : Hid (TwL W0 wr B b0 b1 (runA (px0 win space) (t.ax.take i)) (runA (px0 win space) (t.ax.take i)) []) := (show TwL _ _ _ _ _ _ _ _ from ⟨X, Y, hX, fun k hk => by cases hk⟩)
      obtain ⟨P, hP⟩ : ∃ P, runA (px0 win space) (t.ax.take i) = P := ⟨_, rfl⟩
      obtain ⟨P1, hP1⟩ : ∃ Q, P.push 0 (cutB [8]) = Q := ⟨_, rfl⟩
      have hI := HI.out i
      have hT := HT.out i hi2
      rw [hP] at HL0 hI hT
      have hw5 : P.win ≤ 5 := by rw [← hP, (run_win _ _).1]; exact hw1.2.1
      have HI : Hid (P.Inv) := hI
      have HT : Hid (P.Sz 400) := fun s hs => (show _ ∧ _ from by have := hT s hs; omega)
      let a8 : Ac := ⟨0, 1, 0, [8]⟩
      have ha8 : P.act a8 = P1 := by rw [← hP1]; simp [Px.act, a8, Ac.s, absI]
      have HI1 : Hid (P1.Inv) := (show Px.Inv _ from by rw [← ha8]; exact hI.act a8 by8)
      have HT1 : Hid (P1.Sz 401) := (show Px.Sz _ _ from by rw [← ha8]; exact HT.out.act a8 hw5)
      have Hw5 : Hid (P1.win ≤ 5) := (show _ ≤ _ from by rw [← ha8, (act_win _ _).1]; exact hw5)
      have HP1 : Hid (P.push 0 (cutB [8]) = P1) := hP1
      clear_value a8
      clear ha8 hI hT hw5 hP hP1 hX
      by_cases h4 : i < t.an
      · as_aux_lemma =>
        have i2 : (i : Int) < (t.an : Int) := by omega
        have i3 : ¬ (i : Int) < 200 := by omega
        clear hlt h4
        go_wp2
        refine wp_region_held_drew (S := (fun w' => True)) (by kernel_rfl) trivial (fun hHeld => ?_)
        simp only [Act.put, List.size_toArray, List.length_cons, List.length_nil, Nat.zero_add]
        refine takeD (i := 0) (d := 196) (v := .pointer (some ⟨b0, 0, none⟩)) rfl (by kernel_rfl) (by kernel_rfl) (by kernel_rfl) (by kernel_rfl) (fun _ _ _ h => h) (Or.inl ⟨by rfl, fun w' hS => by go_simp⟩) hHeld ?_
        simp only [Act.put, List.setIfInBounds_toArray, List.set_cons_zero, List.set_cons_succ]
        refine takeD (i := 3) (d := 199) (v := .pointer (some ⟨b1, 0, none⟩)) rfl (by kernel_rfl) (by kernel_rfl) (by kernel_rfl) (by kernel_rfl) (fun _ _ _ h => h) (Or.inl ⟨by rfl, fun w' hS => by go_simp⟩) hHeld ?_
        simp only [Act.put, List.setIfInBounds_toArray, List.set_cons_zero, List.set_cons_succ]
        have hbD5 : Below wr.heap.size wr wr.drew := drew_bel _
        have HS0 : Hid (TwL W0 wr.drew B b0 b1 P P []) := TwL.still HL0.out hbD5
        generalize wr.drew = D5 at *
        refine wpAnyH_ready (rs := [1, 4]) (by kernel_rfl) (by simp) ?_
        refine AllReadyH.cons rfl (fun K hK => ?_) (AllReadyH.cons rfl (fun K hK => ?_) AllReadyH.nil)
        · go_simp
          have HS1 : Hid (TwL W0 (D5.alloc (.cells #[.int .u8 8] 5)) B b0 b1 P P (D5.heap.size :: [])) := TwL.alloc HS0.out
          obtain ⟨k2, hk2⟩ : ∃ k, D5.heap.size = k := ⟨_, rfl⟩
          rw [hk2] at HS1
          rw [hk2]
          generalize D5.alloc (.cells #[.int .u8 8] 5) = V3 at *
          clear hk2
          refine hK.out _ _ trivial (fun hHeld => ?_)
          clear hK K
          refine wpAnyH_ready (rs := [2, 4]) (by kernel_rfl) (by simp) ?_
          refine AllReadyH.cons rfl (fun K hK => ?_) (AllReadyH.cons rfl (fun K hK => ?_) AllReadyH.nil)
          · go_simp
            refine (TwL.pushX HS1.out HI.out HT.out (k := k2) (by simp)).mono ?_
            rintro e w4 hx
            obtain ⟨he, ho⟩ := hx
            subst he
            rw [HP1.out] at ho
            have HS5 : Hid (TwL W0 w4 B b0 b1 P1 P [k2]) := ho
            clear ho
            refine hK.out _ _ trivial (fun hHeld => ?_)
            clear hK K
            refine wpAnyH_ready (rs := [4]) (by kernel_rfl) (by simp) ?_
            refine AllReadyH.cons rfl (fun K hK => ?_) AllReadyH.nil
            go_simp
            have HS6 : Hid (TwL W0 (w4.alloc (.cells #[.int .u8 8] 5)) B b0 b1 P1 P (w4.heap.size :: [k2])) := TwL.alloc HS5.out
            obtain ⟨k7, hk7⟩ : ∃ k, w4.heap.size = k := ⟨_, rfl⟩
            rw [hk7] at HS6
            rw [hk7]
            generalize w4.alloc (.cells #[.int .u8 8] 5) = V8 at *
            clear hk7
            refine hK.out _ _ trivial (fun hHeld => ?_)
            clear hK K
            refine wpAnyH_ready (rs := [5]) (by kernel_rfl) (by simp) ?_
            refine AllReadyH.cons rfl (fun K hK => ?_) AllReadyH.nil
            go_simp
            refine (TwL.pushY HS6.out HI.out HT.out (k := k7) (by simp)).mono ?_
            rintro e w9 hx
            obtain ⟨he, ho⟩ := hx
            subst he
            rw [HP1.out] at ho
            have HS10 : Hid (TwL W0 w9 B b0 b1 P1 P1 [k7, k2]) := ho
            clear ho
            refine hK.out _ _ trivial (fun hHeld => ?_)
            clear hK K
            refine takeD (i := 6) (d := 202) (v := .bool true) rfl (by kernel_rfl) (by kernel_rfl) (by kernel_rfl) (by kernel_rfl) (fun _ _ _ h => h) (Or.inl ⟨by rfl, fun w' hS => by go_simp⟩) hHeld ?_
            simp only [Act.put, List.setIfInBounds_toArray, List.set_cons_zero, List.set_cons_succ]
            refine takeD (i := 7) (d := 203) (v := .bool true) rfl (by kernel_rfl) (by kernel_rfl) (by kernel_rfl) (by kernel_rfl) (fun _ _ _ h => h) (Or.inl ⟨by rfl, fun w' hS => by go_simp⟩) hHeld ?_
            simp only [Act.put, List.setIfInBounds_toArray, List.set_cons_zero, List.set_cons_succ]
            refine takeD (i := 8) (d := 204) (v := .pointer (some ⟨b0, 0, none⟩)) rfl (by kernel_rfl) (by kernel_rfl) (by kernel_rfl) (by kernel_rfl) (fun _ _ _ h => h) (Or.inl ⟨by kernel_rfl, fun w' hS => by go_simp⟩) hHeld ?_
            simp only [Act.put, List.setIfInBounds_toArray, List.set_cons_zero, List.set_cons_succ]
            refine wpAnyH_ready (rs := [9]) (by kernel_rfl) (by simp) ?_
            refine AllReadyH.cons rfl (fun K hK => ?_) AllReadyH.nil
            go_simp
            refine (TwL.turnX HS10.out HI1.out HT1.out).mono ?_
            rintro e w11 hx
            obtain ⟨he, ho⟩ := hx
            subst he
            have HS12 : Hid (TwL W0 w11 B b0 b1 P1.turn P1 [k7, k2]) := ho
            clear ho
            refine hK.out _ _ trivial (fun hHeld => ?_)
            clear hK K
            refine takeD (i := 10) (d := 206) (v := .bool true) rfl (by kernel_rfl) (by kernel_rfl) (by kernel_rfl) (by kernel_rfl) (fun _ _ _ h => h) (Or.inl ⟨by rfl, fun w' hS => by go_simp⟩) hHeld ?_
            simp only [Act.put, List.setIfInBounds_toArray, List.set_cons_zero, List.set_cons_succ]
            refine takeD (i := 11) (d := 207) (v := .bool true) rfl (by kernel_rfl) (by kernel_rfl) (by kernel_rfl) (by kernel_rfl) (fun _ _ _ h => h) (Or.inl ⟨by rfl, fun w' hS => by go_simp⟩) hHeld ?_
            simp only [Act.put, List.setIfInBounds_toArray, List.set_cons_zero, List.set_cons_succ]
            refine takeD (i := 12) (d := 208) (v := .pointer (some ⟨b1, 0, none⟩)) rfl (by kernel_rfl) (by kernel_rfl) (by kernel_rfl) (by kernel_rfl) (fun _ _ _ h => h) (Or.inl ⟨by kernel_rfl, fun w' hS => by go_simp⟩) hHeld ?_
            simp only [Act.put, List.setIfInBounds_toArray, List.set_cons_zero, List.set_cons_succ]
            refine wpAnyH_ready (rs := [13]) (by kernel_rfl) (by simp) ?_
            refine AllReadyH.cons rfl (fun K hK => ?_) AllReadyH.nil
            go_simp
            refine (TwL.turnY HS12.out HI1.out HT1.out Hw5.out).mono ?_
            rintro e w13 hx
            obtain ⟨he, oa, oc, pa, pc, ol, k7, k4, HSl, hb7⟩ := hx.out
            subst he
            refine hK.out _ _ trivial (fun hHeld => ?_)
            clear hK K
            refine takeD (i := 14) (d := 210) (v := .bool true) rfl (by kernel_rfl) (by kernel_rfl) (by kernel_rfl) (by kernel_rfl) (fun _ _ _ h => h) (Or.inl ⟨by rfl, fun w' hS => by go_simp⟩) hHeld ?_
            simp only [Act.put, List.setIfInBounds_toArray, List.set_cons_zero, List.set_cons_succ]
            refine takeD (i := 15) (d := 211) (v := .bool true) rfl (by kernel_rfl) (by kernel_rfl) (by kernel_rfl) (by kernel_rfl) (fun _ _ _ h => h) (Or.inl ⟨by rfl, fun w' hS => by go_simp⟩) hHeld ?_
            simp only [Act.put, List.setIfInBounds_toArray, List.set_cons_zero, List.set_cons_succ]
            refine takeD (i := 16) (d := 212) (v := .pointer (some ⟨b0, 0, none⟩)) rfl (by kernel_rfl) (by kernel_rfl) (by kernel_rfl) (by kernel_rfl) (fun _ _ _ h => h) (Or.inl ⟨by kernel_rfl, fun w' hS => by go_simp⟩) hHeld ?_
            simp only [Act.put, List.setIfInBounds_toArray, List.set_cons_zero, List.set_cons_succ]
            refine takeD (i := 17) (d := 213) (v := .pointer (some ⟨b0, 0, none⟩)) rfl (by kernel_rfl) (by kernel_rfl) (by kernel_rfl) (by kernel_rfl) (fun _ _ _ h => h) (Or.inl ⟨by kernel_rfl, fun w' hS => by go_simp⟩) hHeld ?_
            simp only [Act.put, List.setIfInBounds_toArray, List.set_cons_zero, List.set_cons_succ]
            as_aux_lemma =>
            refine takeD (i := 18) (d := 214) (v := .pointer (some ⟨b0, 6, none⟩)) rfl (by kernel_rfl) (by kernel_rfl) (by kernel_rfl) (by kernel_rfl) (fun _ _ _ h => h) (Or.inl ⟨by kernel_rfl, fun w' hS => by go_simp⟩) hHeld ?_
            simp only [Act.put, List.setIfInBounds_toArray, List.set_cons_zero, List.set_cons_succ]
            refine takeD (i := 19) (d := 215) (v := .pointer (some ⟨b0, 7, none⟩)) rfl (by kernel_rfl) (by kernel_rfl) (by kernel_rfl) (by kernel_rfl) (fun _ _ _ h => h) (Or.inl ⟨by kernel_rfl, fun w' hS => by go_simp⟩) hHeld ?_
            simp only [Act.put, List.setIfInBounds_toArray, List.set_cons_zero, List.set_cons_succ]
            refine takeD (i := 21) (d := 217) (v := .pointer (some ⟨b1, 0, none⟩)) rfl (by kernel_rfl) (by kernel_rfl) (by kernel_rfl) (by kernel_rfl) (fun _ _ _ h => h) (Or.inl ⟨by kernel_rfl, fun w' hS => by go_simp⟩) hHeld ?_
            simp only [Act.put, List.setIfInBounds_toArray, List.set_cons_zero, List.set_cons_succ]
            refine takeD (i := 22) (d := 218) (v := .pointer (some ⟨b1, 0, none⟩)) rfl (by kernel_rfl) (by kernel_rfl) (by kernel_rfl) (by kernel_rfl) (fun _ _ _ h => h) (Or.inl ⟨by kernel_rfl, fun w' hS => by go_simp⟩) hHeld ?_
            simp only [Act.put, List.setIfInBounds_toArray, List.set_cons_zero, List.set_cons_succ]
            refine takeD (i := 23) (d := 219) (v := .pointer (some ⟨b1, 6, none⟩)) rfl (by kernel_rfl) (by kernel_rfl) (by kernel_rfl) (by kernel_rfl) (fun _ _ _ h => h) (Or.inl ⟨by kernel_rfl, fun w' hS => by go_simp⟩) hHeld ?_
            simp only [Act.put, List.setIfInBounds_toArray, List.set_cons_zero, List.set_cons_succ]
            refine takeD (i := 24) (d := 220) (v := .pointer (some ⟨b1, 7, none⟩)) rfl (by kernel_rfl) (by kernel_rfl) (by kernel_rfl) (by kernel_rfl) (fun _ _ _ h => h) (Or.inl ⟨by kernel_rfl, fun w' hS => by go_simp⟩) hHeld ?_
            simp only [Act.put, List.setIfInBounds_toArray, List.set_cons_zero, List.set_cons_succ]
            refine wpAnyH_ready (rs := [20, 25]) (by kernel_rfl) (by simp) ?_
            refine AllReadyH.cons rfl (fun K hK => ?_) (AllReadyH.cons rfl (fun K hK => ?_) AllReadyH.nil)
            · have zim := k7
              go_simp
              clear zim
              refine hK.out _ _ trivial (fun hHeld => ?_)
              clear hK K
              refine wpAnyH_ready (rs := [25]) (by kernel_rfl) (by simp) ?_
              refine AllReadyH.cons rfl (fun K hK => ?_) AllReadyH.nil
              have zim := k4
              go_simp
              clear zim
              refine hK.out _ _ trivial (fun hHeld => ?_)
              clear hK K
              refine wpAnyH_ready (rs := [26]) (by kernel_rfl) (by simp) ?_
              refine AllReadyH.cons rfl (fun K hK => ?_) AllReadyH.nil
              go_simp
              refine (HSl.out).mono ?_
              rintro e w8 ⟨rfl, hb8⟩
              refine hK.out _ _ trivial (fun hHeld => ?_)
              clear hK K
              refine takeD (i := 27) (d := 223) (v := .bool true) rfl (by kernel_rfl) (by kernel_rfl) (by kernel_rfl) (by kernel_rfl) (fun _ _ _ h => h) (Or.inl ⟨by rfl, fun w' hS => by go_simp⟩) hHeld ?_
              simp only [Act.put, List.setIfInBounds_toArray, List.set_cons_zero, List.set_cons_succ]
              refine takeD (i := 28) (d := 2) (v := .bool true) rfl (by kernel_rfl) (by kernel_rfl) (by kernel_rfl) (by kernel_rfl) (fun _ _ _ h => h) (Or.inl ⟨by rfl, fun w' hS => by go_simp⟩) hHeld ?_
              simp only [Act.put, List.setIfInBounds_toArray, List.set_cons_zero, List.set_cons_succ]
              refine wpAnyH_done (by kernel_rfl) ?_ _
              clear hHeld
              have HZ : Hid (Below w.heap.size w w8) := (show Below _ _ _ from bstep (bstep HbW.out hb7) hb8)
              clear hb8 hb7 k7 k4 HSl
              go_wp2
              go_ret
              exact ⟨rfl, HZ.out⟩
            · have zim := k4
              go_simp
              clear zim
              refine hK.out _ _ trivial (fun hHeld => ?_)
              clear hK K
              refine wpAnyH_ready (rs := [20]) (by kernel_rfl) (by simp) ?_
              refine AllReadyH.cons rfl (fun K hK => ?_) AllReadyH.nil
              have zim := k7
              go_simp
              clear zim
              refine hK.out _ _ trivial (fun hHeld => ?_)
              clear hK K
              refine wpAnyH_ready (rs := [26]) (by kernel_rfl) (by simp) ?_
              refine AllReadyH.cons rfl (fun K hK => ?_) AllReadyH.nil
              go_simp
              refine (HSl.out).mono ?_
              rintro e w8 ⟨rfl, hb8⟩
              refine hK.out _ _ trivial (fun hHeld => ?_)
              clear hK K
              refine takeD (i := 27) (d := 223) (v := .bool true) rfl (by kernel_rfl) (by kernel_rfl) (by kernel_rfl) (by kernel_rfl) (fun _ _ _ h => h) (Or.inl ⟨by rfl, fun w' hS => by go_simp⟩) hHeld ?_
              simp only [Act.put, List.setIfInBounds_toArray, List.set_cons_zero, List.set_cons_succ]
              refine takeD (i := 28) (d := 2) (v := .bool true) rfl (by kernel_rfl) (by kernel_rfl) (by kernel_rfl) (by kernel_rfl) (fun _ _ _ h => h) (Or.inl ⟨by rfl, fun w' hS => by go_simp⟩) hHeld ?_
              simp only [Act.put, List.setIfInBounds_toArray, List.set_cons_zero, List.set_cons_succ]
              refine wpAnyH_done (by kernel_rfl) ?_ _
              clear hHeld
              have HZ : Hid (Below w.heap.size w w8) := (show Below _ _ _ from bstep (bstep HbW.out hb7) hb8)
              clear hb8 hb7 k7 k4 HSl
              go_wp2
              go_ret
              exact ⟨rfl, HZ.out⟩
          · go_simp
            have HS14 : Hid (TwL W0 (V3.alloc (.cells #[.int .u8 8] 5)) B b0 b1 P P (V3.heap.size :: [k2])) := TwL.alloc HS1.out
            obtain ⟨k15, hk15⟩ : ∃ k, V3.heap.size = k := ⟨_, rfl⟩
            rw [hk15] at HS14
            rw [hk15]
            generalize V3.alloc (.cells #[.int .u8 8] 5) = V16 at *
            clear hk15
            refine hK.out _ _ trivial (fun hHeld => ?_)
            clear hK K
            refine wpAnyH_ready (rs := [2]) (by kernel_rfl) (by simp) ?_
            refine AllReadyH.cons rfl (fun K hK => ?_) AllReadyH.nil
            go_simp
            refine (TwL.pushX HS14.out HI.out HT.out (k := k2) (by simp)).mono ?_
            rintro e w17 hx
            obtain ⟨he, ho⟩ := hx
            subst he
            rw [HP1.out] at ho
            have HS18 : Hid (TwL W0 w17 B b0 b1 P1 P [k15, k2]) := ho
            clear ho
            refine hK.out _ _ trivial (fun hHeld => ?_)
            clear hK K
            refine wpAnyH_ready (rs := [5]) (by kernel_rfl) (by simp) ?_
            refine AllReadyH.cons rfl (fun K hK => ?_) AllReadyH.nil
            go_simp
            refine (TwL.pushY HS18.out HI.out HT.out (k := k15) (by simp)).mono ?_
            rintro e w19 hx
            obtain ⟨he, ho⟩ := hx
            subst he
            rw [HP1.out] at ho
            have HS20 : Hid (TwL W0 w19 B b0 b1 P1 P1 [k15, k2]) := ho
            clear ho
            refine hK.out _ _ trivial (fun hHeld => ?_)
            clear hK K
            refine takeD (i := 6) (d := 202) (v := .bool true) rfl (by kernel_rfl) (by kernel_rfl) (by kernel_rfl) (by kernel_rfl) (fun _ _ _ h => h) (Or.inl ⟨by rfl, fun w' hS => by go_simp⟩) hHeld ?_
            simp only [Act.put, List.setIfInBounds_toArray, List.set_cons_zero, List.set_cons_succ]
            refine takeD (i := 7) (d := 203) (v := .bool true) rfl (by kernel_rfl) (by kernel_rfl) (by kernel_rfl) (by kernel_rfl) (fun _ _ _ h => h) (Or.inl ⟨by rfl, fun w' hS => by go_simp⟩) hHeld ?_
            simp only [Act.put, List.setIfInBounds_toArray, List.set_cons_zero, List.set_cons_succ]
            refine takeD (i := 8) (d := 204) (v := .pointer (some ⟨b0, 0, none⟩)) rfl (by kernel_rfl) (by kernel_rfl) (by kernel_rfl) (by kernel_rfl) (fun _ _ _ h => h) (Or.inl ⟨by kernel_rfl, fun w' hS => by go_simp⟩) hHeld ?_
            simp only [Act.put, List.setIfInBounds_toArray, List.set_cons_zero, List.set_cons_succ]
            refine wpAnyH_ready (rs := [9]) (by kernel_rfl) (by simp) ?_
            refine AllReadyH.cons rfl (fun K hK => ?_) AllReadyH.nil
            go_simp
            refine (TwL.turnX HS20.out HI1.out HT1.out).mono ?_
            rintro e w21 hx
            obtain ⟨he, ho⟩ := hx
            subst he
            have HS22 : Hid (TwL W0 w21 B b0 b1 P1.turn P1 [k15, k2]) := ho
            clear ho
            refine hK.out _ _ trivial (fun hHeld => ?_)
            clear hK K
            refine takeD (i := 10) (d := 206) (v := .bool true) rfl (by kernel_rfl) (by kernel_rfl) (by kernel_rfl) (by kernel_rfl) (fun _ _ _ h => h) (Or.inl ⟨by rfl, fun w' hS => by go_simp⟩) hHeld ?_
            simp only [Act.put, List.setIfInBounds_toArray, List.set_cons_zero, List.set_cons_succ]
            refine takeD (i := 11) (d := 207) (v := .bool true) rfl (by kernel_rfl) (by kernel_rfl) (by kernel_rfl) (by kernel_rfl) (fun _ _ _ h => h) (Or.inl ⟨by rfl, fun w' hS => by go_simp⟩) hHeld ?_
            simp only [Act.put, List.setIfInBounds_toArray, List.set_cons_zero, List.set_cons_succ]
            refine takeD (i := 12) (d := 208) (v := .pointer (some ⟨b1, 0, none⟩)) rfl (by kernel_rfl) (by kernel_rfl) (by kernel_rfl) (by kernel_rfl) (fun _ _ _ h => h) (Or.inl ⟨by kernel_rfl, fun w' hS => by go_simp⟩) hHeld ?_
            simp only [Act.put, List.setIfInBounds_toArray, List.set_cons_zero, List.set_cons_succ]
            refine wpAnyH_ready (rs := [13]) (by kernel_rfl) (by simp) ?_
            refine AllReadyH.cons rfl (fun K hK => ?_) AllReadyH.nil
            go_simp
            refine (TwL.turnY HS22.out HI1.out HT1.out Hw5.out).mono ?_
            rintro e w23 hx
            obtain ⟨he, oa, oc, pa, pc, ol, k7, k4, HSl, hb7⟩ := hx.out
            subst he
            refine hK.out _ _ trivial (fun hHeld => ?_)
            clear hK K
            refine takeD (i := 14) (d := 210) (v := .bool true) rfl (by kernel_rfl) (by kernel_rfl) (by kernel_rfl) (by kernel_rfl) (fun _ _ _ h => h) (Or.inl ⟨by rfl, fun w' hS => by go_simp⟩) hHeld ?_
            simp only [Act.put, List.setIfInBounds_toArray, List.set_cons_zero, List.set_cons_succ]
            refine takeD (i := 15) (d := 211) (v := .bool true) rfl (by kernel_rfl) (by kernel_rfl) (by kernel_rfl) (by kernel_rfl) (fun _ _ _ h => h) (Or.inl ⟨by rfl, fun w' hS => by go_simp⟩) hHeld ?_
            simp only [Act.put, List.setIfInBounds_toArray, List.set_cons_zero, List.set_cons_succ]
            refine takeD (i := 16) (d := 212) (v := .pointer (some ⟨b0, 0, none⟩)) rfl (by kernel_rfl) (by kernel_rfl) (by kernel_rfl) (by kernel_rfl) (fun _ _ _ h => h) (Or.inl ⟨by kernel_rfl, fun w' hS => by go_simp⟩) hHeld ?_
            simp only [Act.put, List.setIfInBounds_toArray, List.set_cons_zero, List.set_cons_succ]
            refine takeD (i := 17) (d := 213) (v := .pointer (some ⟨b0, 0, none⟩)) rfl (by kernel_rfl) (by kernel_rfl) (by kernel_rfl) (by kernel_rfl) (fun _ _ _ h => h) (Or.inl ⟨by kernel_rfl, fun w' hS => by go_simp⟩) hHeld ?_
            simp only [Act.put, List.setIfInBounds_toArray, List.set_cons_zero, List.set_cons_succ]
            as_aux_lemma =>
            refine takeD (i := 18) (d := 214) (v := .pointer (some ⟨b0, 6, none⟩)) rfl (by kernel_rfl) (by kernel_rfl) (by kernel_rfl) (by kernel_rfl) (fun _ _ _ h => h) (Or.inl ⟨by kernel_rfl, fun w' hS => by go_simp⟩) hHeld ?_
            simp only [Act.put, List.setIfInBounds_toArray, List.set_cons_zero, List.set_cons_succ]
            refine takeD (i := 19) (d := 215) (v := .pointer (some ⟨b0, 7, none⟩)) rfl (by kernel_rfl) (by kernel_rfl) (by kernel_rfl) (by kernel_rfl) (fun _ _ _ h => h) (Or.inl ⟨by kernel_rfl, fun w' hS => by go_simp⟩) hHeld ?_
            simp only [Act.put, List.setIfInBounds_toArray, List.set_cons_zero, List.set_cons_succ]
            refine takeD (i := 21) (d := 217) (v := .pointer (some ⟨b1, 0, none⟩)) rfl (by kernel_rfl) (by kernel_rfl) (by kernel_rfl) (by kernel_rfl) (fun _ _ _ h => h) (Or.inl ⟨by kernel_rfl, fun w' hS => by go_simp⟩) hHeld ?_
            simp only [Act.put, List.setIfInBounds_toArray, List.set_cons_zero, List.set_cons_succ]
            refine takeD (i := 22) (d := 218) (v := .pointer (some ⟨b1, 0, none⟩)) rfl (by kernel_rfl) (by kernel_rfl) (by kernel_rfl) (by kernel_rfl) (fun _ _ _ h => h) (Or.inl ⟨by kernel_rfl, fun w' hS => by go_simp⟩) hHeld ?_
            simp only [Act.put, List.setIfInBounds_toArray, List.set_cons_zero, List.set_cons_succ]
            refine takeD (i := 23) (d := 219) (v := .pointer (some ⟨b1, 6, none⟩)) rfl (by kernel_rfl) (by kernel_rfl) (by kernel_rfl) (by kernel_rfl) (fun _ _ _ h => h) (Or.inl ⟨by kernel_rfl, fun w' hS => by go_simp⟩) hHeld ?_
            simp only [Act.put, List.setIfInBounds_toArray, List.set_cons_zero, List.set_cons_succ]
            refine takeD (i := 24) (d := 220) (v := .pointer (some ⟨b1, 7, none⟩)) rfl (by kernel_rfl) (by kernel_rfl) (by kernel_rfl) (by kernel_rfl) (fun _ _ _ h => h) (Or.inl ⟨by kernel_rfl, fun w' hS => by go_simp⟩) hHeld ?_
            simp only [Act.put, List.setIfInBounds_toArray, List.set_cons_zero, List.set_cons_succ]
            refine wpAnyH_ready (rs := [20, 25]) (by kernel_rfl) (by simp) ?_
            refine AllReadyH.cons rfl (fun K hK => ?_) (AllReadyH.cons rfl (fun K hK => ?_) AllReadyH.nil)
            · have zim := k7
              go_simp
              clear zim
              refine hK.out _ _ trivial (fun hHeld => ?_)
              clear hK K
              refine wpAnyH_ready (rs := [25]) (by kernel_rfl) (by simp) ?_
              refine AllReadyH.cons rfl (fun K hK => ?_) AllReadyH.nil
              have zim := k4
              go_simp
              clear zim
              refine hK.out _ _ trivial (fun hHeld => ?_)
              clear hK K
              refine wpAnyH_ready (rs := [26]) (by kernel_rfl) (by simp) ?_
              refine AllReadyH.cons rfl (fun K hK => ?_) AllReadyH.nil
              go_simp
              refine (HSl.out).mono ?_
              rintro e w8 ⟨rfl, hb8⟩
              refine hK.out _ _ trivial (fun hHeld => ?_)
              clear hK K
              refine takeD (i := 27) (d := 223) (v := .bool true) rfl (by kernel_rfl) (by kernel_rfl) (by kernel_rfl) (by kernel_rfl) (fun _ _ _ h => h) (Or.inl ⟨by rfl, fun w' hS => by go_simp⟩) hHeld ?_
              simp only [Act.put, List.setIfInBounds_toArray, List.set_cons_zero, List.set_cons_succ]
              refine takeD (i := 28) (d := 2) (v := .bool true) rfl (by kernel_rfl) (by kernel_rfl) (by kernel_rfl) (by kernel_rfl) (fun _ _ _ h => h) (Or.inl ⟨by rfl, fun w' hS => by go_simp⟩) hHeld ?_
              simp only [Act.put, List.setIfInBounds_toArray, List.set_cons_zero, List.set_cons_succ]
              refine wpAnyH_done (by kernel_rfl) ?_ _
              clear hHeld
              have HZ : Hid (Below w.heap.size w w8) := (show Below _ _ _ from bstep (bstep HbW.out hb7) hb8)
              clear hb8 hb7 k7 k4 HSl
              go_wp2
              go_ret
              exact ⟨rfl, HZ.out⟩
            · have zim := k4
              go_simp
              clear zim
              refine hK.out _ _ trivial (fun hHeld => ?_)
              clear hK K
              refine wpAnyH_ready (rs := [20]) (by kernel_rfl) (by simp) ?_
              refine AllReadyH.cons rfl (fun K hK => ?_) AllReadyH.nil
              have zim := k7
              go_simp
              clear zim
              refine hK.out _ _ trivial (fun hHeld => ?_)
              clear hK K
              refine wpAnyH_ready (rs := [26]) (by kernel_rfl) (by simp) ?_
              refine AllReadyH.cons rfl (fun K hK => ?_) AllReadyH.nil
              go_simp
              refine (HSl.out).mono ?_
              rintro e w8 ⟨rfl, hb8⟩
              refine hK.out _ _ trivial (fun hHeld => ?_)
              clear hK K
              refine takeD (i := 27) (d := 223) (v := .bool true) rfl (by kernel_rfl) (by kernel_rfl) (by kernel_rfl) (by kernel_rfl) (fun _ _ _ h => h) (Or.inl ⟨by rfl, fun w' hS => by go_simp⟩) hHeld ?_
              simp only [Act.put, List.setIfInBounds_toArray, List.set_cons_zero, List.set_cons_succ]
              refine takeD (i := 28) (d := 2) (v := .bool true) rfl (by kernel_rfl) (by kernel_rfl) (by kernel_rfl) (by kernel_rfl) (fun _ _ _ h => h) (Or.inl ⟨by rfl, fun w' hS => by go_simp⟩) hHeld ?_
              simp only [Act.put, List.setIfInBounds_toArray, List.set_cons_zero, List.set_cons_succ]
              refine wpAnyH_done (by kernel_rfl) ?_ _
              clear hHeld
              have HZ : Hid (Below w.heap.size w w8) := (show Below _ _ _ from bstep (bstep HbW.out hb7) hb8)
              clear hb8 hb7 k7 k4 HSl
              go_wp2
              go_ret
              exact ⟨rfl, HZ.out⟩
        · go_simp
          have HS24 : Hid (TwL W0 (D5.alloc (.cells #[.int .u8 8] 5)) B b0 b1 P P (D5.heap.size :: [])) := TwL.alloc HS0.out
          obtain ⟨k25, hk25⟩ : ∃ k, D5.heap.size = k := ⟨_, rfl⟩
          rw [hk25] at HS24
          rw [hk25]
          generalize D5.alloc (.cells #[.int .u8 8] 5) = V26 at *
          clear hk25
          refine hK.out _ _ trivial (fun hHeld => ?_)
          clear hK K
          refine wpAnyH_ready (rs := [1]) (by kernel_rfl) (by simp) ?_
          refine AllReadyH.cons rfl (fun K hK => ?_) AllReadyH.nil
          go_simp
          have HS27 : Hid (TwL W0 (V26.alloc (.cells #[.int .u8 8] 5)) B b0 b1 P P (V26.heap.size :: [k25])) := TwL.alloc HS24.out
          obtain ⟨k28, hk28⟩ : ∃ k, V26.heap.size = k := ⟨_, rfl⟩
          rw [hk28] at HS27
          rw [hk28]
          generalize V26.alloc (.cells #[.int .u8 8] 5) = V29 at *
          clear hk28
          refine hK.out _ _ trivial (fun hHeld => ?_)
          clear hK K
          refine wpAnyH_ready (rs := [2]) (by kernel_rfl) (by simp) ?_
          refine AllReadyH.cons rfl (fun K hK => ?_) AllReadyH.nil
          go_simp
          refine (TwL.pushX HS27.out HI.out HT.out (k := k28) (by simp)).mono ?_
          rintro e w30 hx
          obtain ⟨he, ho⟩ := hx
          subst he
          rw [HP1.out] at ho
          have HS31 : Hid (TwL W0 w30 B b0 b1 P1 P [k28, k25]) := ho
          clear ho
          refine hK.out _ _ trivial (fun hHeld => ?_)
          clear hK K
          refine wpAnyH_ready (rs := [5]) (by kernel_rfl) (by simp) ?_
          refine AllReadyH.cons rfl (fun K hK => ?_) AllReadyH.nil
          go_simp
          refine (TwL.pushY HS31.out HI.out HT.out (k := k25) (by simp)).mono ?_
          rintro e w32 hx
          obtain ⟨he, ho⟩ := hx
          subst he
          rw [HP1.out] at ho
          have HS33 : Hid (TwL W0 w32 B b0 b1 P1 P1 [k28, k25]) := ho
          clear ho
          refine hK.out _ _ trivial (fun hHeld => ?_)
          clear hK K
          refine takeD (i := 6) (d := 202) (v := .bool true) rfl (by kernel_rfl) (by kernel_rfl) (by kernel_rfl) (by kernel_rfl) (fun _ _ _ h => h) (Or.inl ⟨by rfl, fun w' hS => by go_simp⟩) hHeld ?_
          simp only [Act.put, List.setIfInBounds_toArray, List.set_cons_zero, List.set_cons_succ]
          refine takeD (i := 7) (d := 203) (v := .bool true) rfl (by kernel_rfl) (by kernel_rfl) (by kernel_rfl) (by kernel_rfl) (fun _ _ _ h => h) (Or.inl ⟨by rfl, fun w' hS => by go_simp⟩) hHeld ?_
          simp only [Act.put, List.setIfInBounds_toArray, List.set_cons_zero, List.set_cons_succ]
          refine takeD (i := 8) (d := 204) (v := .pointer (some ⟨b0, 0, none⟩)) rfl (by kernel_rfl) (by kernel_rfl) (by kernel_rfl) (by kernel_rfl) (fun _ _ _ h => h) (Or.inl ⟨by kernel_rfl, fun w' hS => by go_simp⟩) hHeld ?_
          simp only [Act.put, List.setIfInBounds_toArray, List.set_cons_zero, List.set_cons_succ]
          refine wpAnyH_ready (rs := [9]) (by kernel_rfl) (by simp) ?_
          refine AllReadyH.cons rfl (fun K hK => ?_) AllReadyH.nil
          go_simp
          refine (TwL.turnX HS33.out HI1.out HT1.out).mono ?_
          rintro e w34 hx
          obtain ⟨he, ho⟩ := hx
          subst he
          have HS35 : Hid (TwL W0 w34 B b0 b1 P1.turn P1 [k28, k25]) := ho
          clear ho
          refine hK.out _ _ trivial (fun hHeld => ?_)
          clear hK K
          refine takeD (i := 10) (d := 206) (v := .bool true) rfl (by kernel_rfl) (by kernel_rfl) (by kernel_rfl) (by kernel_rfl) (fun _ _ _ h => h) (Or.inl ⟨by rfl, fun w' hS => by go_simp⟩) hHeld ?_
          simp only [Act.put, List.setIfInBounds_toArray, List.set_cons_zero, List.set_cons_succ]
          refine takeD (i := 11) (d := 207) (v := .bool true) rfl (by kernel_rfl) (by kernel_rfl) (by kernel_rfl) (by kernel_rfl) (fun _ _ _ h => h) (Or.inl ⟨by rfl, fun w' hS => by go_simp⟩) hHeld ?_
          simp only [Act.put, List.setIfInBounds_toArray, List.set_cons_zero, List.set_cons_succ]
          refine takeD (i := 12) (d := 208) (v := .pointer (some ⟨b1, 0, none⟩)) rfl (by kernel_rfl) (by kernel_rfl) (by kernel_rfl) (by kernel_rfl) (fun _ _ _ h => h) (Or.inl ⟨by kernel_rfl, fun w' hS => by go_simp⟩) hHeld ?_
          simp only [Act.put, List.setIfInBounds_toArray, List.set_cons_zero, List.set_cons_succ]
          refine wpAnyH_ready (rs := [13]) (by kernel_rfl) (by simp) ?_
          refine AllReadyH.cons rfl (fun K hK => ?_) AllReadyH.nil
          go_simp
          refine (TwL.turnY HS35.out HI1.out HT1.out Hw5.out).mono ?_
          rintro e w36 hx
          obtain ⟨he, oa, oc, pa, pc, ol, k7, k4, HSl, hb7⟩ := hx.out
          subst he
          refine hK.out _ _ trivial (fun hHeld => ?_)
          clear hK K
          refine takeD (i := 14) (d := 210) (v := .bool true) rfl (by kernel_rfl) (by kernel_rfl) (by kernel_rfl) (by kernel_rfl) (fun _ _ _ h => h) (Or.inl ⟨by rfl, fun w' hS => by go_simp⟩) hHeld ?_
          simp only [Act.put, List.setIfInBounds_toArray, List.set_cons_zero, List.set_cons_succ]
          refine takeD (i := 15) (d := 211) (v := .bool true) rfl (by kernel_rfl) (by kernel_rfl) (by kernel_rfl) (by kernel_rfl) (fun _ _ _ h => h) (Or.inl ⟨by rfl, fun w' hS => by go_simp⟩) hHeld ?_
          simp only [Act.put, List.setIfInBounds_toArray, List.set_cons_zero, List.set_cons_succ]
          refine takeD (i := 16) (d := 212) (v := .pointer (some ⟨b0, 0, none⟩)) rfl (by kernel_rfl) (by kernel_rfl) (by kernel_rfl) (by kernel_rfl) (fun _ _ _ h => h) (Or.inl ⟨by kernel_rfl, fun w' hS => by go_simp⟩) hHeld ?_
          simp only [Act.put, List.setIfInBounds_toArray, List.set_cons_zero, List.set_cons_succ]
          refine takeD (i := 17) (d := 213) (v := .pointer (some ⟨b0, 0, none⟩)) rfl (by kernel_rfl) (by kernel_rfl) (by kernel_rfl) (by kernel_rfl) (fun _ _ _ h => h) (Or.inl ⟨by kernel_rfl, fun w' hS => by go_simp⟩) hHeld ?_
          simp only [Act.put, List.setIfInBounds_toArray, List.set_cons_zero, List.set_cons_succ]
          as_aux_lemma =>
          refine takeD (i := 18) (d := 214) (v := .pointer (some ⟨b0, 6, none⟩)) rfl (by kernel_rfl) (by kernel_rfl) (by kernel_rfl) (by kernel_rfl) (fun _ _ _ h => h) (Or.inl ⟨by kernel_rfl, fun w' hS => by go_simp⟩) hHeld ?_
          simp only [Act.put, List.setIfInBounds_toArray, List.set_cons_zero, List.set_cons_succ]
          refine takeD (i := 19) (d := 215) (v := .pointer (some ⟨b0, 7, none⟩)) rfl (by kernel_rfl) (by kernel_rfl) (by kernel_rfl) (by kernel_rfl) (fun _ _ _ h => h) (Or.inl ⟨by kernel_rfl, fun w' hS => by go_simp⟩) hHeld ?_
          simp only [Act.put, List.setIfInBounds_toArray, List.set_cons_zero, List.set_cons_succ]
          refine takeD (i := 21) (d := 217) (v := .pointer (some ⟨b1, 0, none⟩)) rfl (by kernel_rfl) (by kernel_rfl) (by kernel_rfl) (by kernel_rfl) (fun _ _ _ h => h) (Or.inl ⟨by kernel_rfl, fun w' hS => by go_simp⟩) hHeld ?_
          simp only [Act.put, List.setIfInBounds_toArray, List.set_cons_zero, List.set_cons_succ]
          refine takeD (i := 22) (d := 218) (v := .pointer (some ⟨b1, 0, none⟩)) rfl (by kernel_rfl) (by kernel_rfl) (by kernel_rfl) (by kernel_rfl) (fun _ _ _ h => h) (Or.inl ⟨by kernel_rfl, fun w' hS => by go_simp⟩) hHeld ?_
          simp only [Act.put, List.setIfInBounds_toArray, List.set_cons_zero, List.set_cons_succ]
          refine takeD (i := 23) (d := 219) (v := .pointer (some ⟨b1, 6, none⟩)) rfl (by kernel_rfl) (by kernel_rfl) (by kernel_rfl) (by kernel_rfl) (fun _ _ _ h => h) (Or.inl ⟨by kernel_rfl, fun w' hS => by go_simp⟩) hHeld ?_
          simp only [Act.put, List.setIfInBounds_toArray, List.set_cons_zero, List.set_cons_succ]
          refine takeD (i := 24) (d := 220) (v := .pointer (some ⟨b1, 7, none⟩)) rfl (by kernel_rfl) (by kernel_rfl) (by kernel_rfl) (by kernel_rfl) (fun _ _ _ h => h) (Or.inl ⟨by kernel_rfl, fun w' hS => by go_simp⟩) hHeld ?_
          simp only [Act.put, List.setIfInBounds_toArray, List.set_cons_zero, List.set_cons_succ]
          refine wpAnyH_ready (rs := [20, 25]) (by kernel_rfl) (by simp) ?_
          refine AllReadyH.cons rfl (fun K hK => ?_) (AllReadyH.cons rfl (fun K hK => ?_) AllReadyH.nil)
          · have zim := k7
            go_simp
            clear zim
            refine hK.out _ _ trivial (fun hHeld => ?_)
            clear hK K
            refine wpAnyH_ready (rs := [25]) (by kernel_rfl) (by simp) ?_
            refine AllReadyH.cons rfl (fun K hK => ?_) AllReadyH.nil
            have zim := k4
            go_simp
            clear zim
            refine hK.out _ _ trivial (fun hHeld => ?_)
            clear hK K
            refine wpAnyH_ready (rs := [26]) (by kernel_rfl) (by simp) ?_
            refine AllReadyH.cons rfl (fun K hK => ?_) AllReadyH.nil
            go_simp
            refine (HSl.out).mono ?_
            rintro e w8 ⟨rfl, hb8⟩
            refine hK.out _ _ trivial (fun hHeld => ?_)
            clear hK K
            refine takeD (i := 27) (d := 223) (v := .bool true) rfl (by kernel_rfl) (by kernel_rfl) (by kernel_rfl) (by kernel_rfl) (fun _ _ _ h => h) (Or.inl ⟨by rfl, fun w' hS => by go_simp⟩) hHeld ?_
            simp only [Act.put, List.setIfInBounds_toArray, List.set_cons_zero, List.set_cons_succ]
            refine takeD (i := 28) (d := 2) (v := .bool true) rfl (by kernel_rfl) (by kernel_rfl) (by kernel_rfl) (by kernel_rfl) (fun _ _ _ h => h) (Or.inl ⟨by rfl, fun w' hS => by go_simp⟩) hHeld ?_
            simp only [Act.put, List.setIfInBounds_toArray, List.set_cons_zero, List.set_cons_succ]
            refine wpAnyH_done (by kernel_rfl) ?_ _
            clear hHeld
            have HZ : Hid (Below w.heap.size w w8) := (show Below _ _ _ from bstep (bstep HbW.out hb7) hb8)
            clear hb8 hb7 k7 k4 HSl
            go_wp2
            go_ret
            exact ⟨rfl, HZ.out⟩
          · have zim := k4
            go_simp
            clear zim
            refine hK.out _ _ trivial (fun hHeld => ?_)
            clear hK K
            refine wpAnyH_ready (rs := [20]) (by kernel_rfl) (by simp) ?_
            refine AllReadyH.cons rfl (fun K hK => ?_) AllReadyH.nil
            have zim := k7
            go_simp
            clear zim
            refine hK.out _ _ trivial (fun hHeld => ?_)
            clear hK K
            refine wpAnyH_ready (rs := [26]) (by kernel_rfl) (by simp) ?_
            refine AllReadyH.cons rfl (fun K hK => ?_) AllReadyH.nil
            go_simp
            refine (HSl.out).mono ?_
            rintro e w8 ⟨rfl, hb8⟩
            refine hK.out _ _ trivial (fun hHeld => ?_)
            clear hK K
            refine takeD (i := 27) (d := 223) (v := .bool true) rfl (by kernel_rfl) (by kernel_rfl) (by kernel_rfl) (by kernel_rfl) (fun _ _ _ h => h) (Or.inl ⟨by rfl, fun w' hS => by go_simp⟩) hHeld ?_
            simp only [Act.put, List.setIfInBounds_toArray, List.set_cons_zero, List.set_cons_succ]
            refine takeD (i := 28) (d := 2) (v := .bool true) rfl (by kernel_rfl) (by kernel_rfl) (by kernel_rfl) (by kernel_rfl) (fun _ _ _ h => h) (Or.inl ⟨by rfl, fun w' hS => by go_simp⟩) hHeld ?_
            simp only [Act.put, List.setIfInBounds_toArray, List.set_cons_zero, List.set_cons_succ]
            refine wpAnyH_done (by kernel_rfl) ?_ _
            clear hHeld
            have HZ : Hid (Below w.heap.size w w8) := (show Below _ _ _ from bstep (bstep HbW.out hb7) hb8)
            clear hb8 hb7 k7 k4 HSl
            go_wp2
            go_ret
            exact ⟨rfl, HZ.out⟩
      · as_aux_lemma =>
        have i2 : ¬ (i : Int) < (t.an : Int) := by omega
        clear hlt h4
        go_wp2
        refine wp_region_held_drew (S := (fun w' => True)) (by kernel_rfl) trivial (fun hHeld => ?_)
        simp only [Act.put, List.size_toArray, List.length_cons, List.length_nil, Nat.zero_add]
        refine takeD (i := 0) (d := 196) (v := .pointer (some ⟨b0, 0, none⟩)) rfl (by kernel_rfl) (by kernel_rfl) (by kernel_rfl) (by kernel_rfl) (fun _ _ _ h => h) (Or.inl ⟨by rfl, fun w' hS => by go_simp⟩) hHeld ?_
        simp only [Act.put, List.setIfInBounds_toArray, List.set_cons_zero, List.set_cons_succ]
        refine takeD (i := 3) (d := 199) (v := .pointer (some ⟨b1, 0, none⟩)) rfl (by kernel_rfl) (by kernel_rfl) (by kernel_rfl) (by kernel_rfl) (fun _ _ _ h => h) (Or.inl ⟨by rfl, fun w' hS => by go_simp⟩) hHeld ?_
        simp only [Act.put, List.setIfInBounds_toArray, List.set_cons_zero, List.set_cons_succ]
        have hbD5 : Below wr.heap.size wr wr.drew := drew_bel _
        have HS0 : Hid (TwL W0 wr.drew B b0 b1 P P []) := TwL.still HL0.out hbD5
        generalize wr.drew = D5 at *
        refine wpAnyH_ready (rs := [1, 4]) (by kernel_rfl) (by simp) ?_
        refine AllReadyH.cons rfl (fun K hK => ?_) (AllReadyH.cons rfl (fun K hK => ?_) AllReadyH.nil)
        · go_simp
          have HS1 : Hid (TwL W0 (D5.alloc (.cells #[.int .u8 8] 5)) B b0 b1 P P (D5.heap.size :: [])) := TwL.alloc HS0.out
          obtain ⟨k2, hk2⟩ : ∃ k, D5.heap.size = k := ⟨_, rfl⟩
          rw [hk2] at HS1
          rw [hk2]
          generalize D5.alloc (.cells #[.int .u8 8] 5) = V3 at *
          clear hk2
          refine hK.out _ _ trivial (fun hHeld => ?_)
          clear hK K
          refine wpAnyH_ready (rs := [2, 4]) (by kernel_rfl) (by simp) ?_
          refine AllReadyH.cons rfl (fun K hK => ?_) (AllReadyH.cons rfl (fun K hK => ?_) AllReadyH.nil)
          · go_simp
            refine (TwL.pushX HS1.out HI.out HT.out (k := k2) (by simp)).mono ?_
            rintro e w4 hx
            obtain ⟨he, ho⟩ := hx
            subst he
            rw [HP1.out] at ho
            have HS5 : Hid (TwL W0 w4 B b0 b1 P1 P [k2]) := ho
            clear ho
            refine hK.out _ _ trivial (fun hHeld => ?_)
            clear hK K
            refine wpAnyH_ready (rs := [4]) (by kernel_rfl) (by simp) ?_
            refine AllReadyH.cons rfl (fun K hK => ?_) AllReadyH.nil
            go_simp
            have HS6 : Hid (TwL W0 (w4.alloc (.cells #[.int .u8 8] 5)) B b0 b1 P1 P (w4.heap.size :: [k2])) := TwL.alloc HS5.out
            obtain ⟨k7, hk7⟩ : ∃ k, w4.heap.size = k := ⟨_, rfl⟩
            rw [hk7] at HS6
            rw [hk7]
            generalize w4.alloc (.cells #[.int .u8 8] 5) = V8 at *
            clear hk7
            refine hK.out _ _ trivial (fun hHeld => ?_)
            clear hK K
            refine wpAnyH_ready (rs := [5]) (by kernel_rfl) (by simp) ?_
            refine AllReadyH.cons rfl (fun K hK => ?_) AllReadyH.nil
            go_simp
            refine (TwL.pushY HS6.out HI.out HT.out (k := k7) (by simp)).mono ?_
            rintro e w9 hx
            obtain ⟨he, ho⟩ := hx
            subst he
            rw [HP1.out] at ho
            have HS10 : Hid (TwL W0 w9 B b0 b1 P1 P1 [k7, k2]) := ho
            clear ho
            refine hK.out _ _ trivial (fun hHeld => ?_)
            clear hK K
            refine takeD (i := 6) (d := 202) (v := .bool true) rfl (by kernel_rfl) (by kernel_rfl) (by kernel_rfl) (by kernel_rfl) (fun _ _ _ h => h) (Or.inl ⟨by rfl, fun w' hS => by go_simp⟩) hHeld ?_
            simp only [Act.put, List.setIfInBounds_toArray, List.set_cons_zero, List.set_cons_succ]
            refine takeD (i := 7) (d := 203) (v := .bool true) rfl (by kernel_rfl) (by kernel_rfl) (by kernel_rfl) (by kernel_rfl) (fun _ _ _ h => h) (Or.inl ⟨by rfl, fun w' hS => by go_simp⟩) hHeld ?_
            simp only [Act.put, List.setIfInBounds_toArray, List.set_cons_zero, List.set_cons_succ]
            refine takeD (i := 8) (d := 204) (v := .pointer (some ⟨b0, 0, none⟩)) rfl (by kernel_rfl) (by kernel_rfl) (by kernel_rfl) (by kernel_rfl) (fun _ _ _ h => h) (Or.inl ⟨by kernel_rfl, fun w' hS => by go_simp⟩) hHeld ?_
            simp only [Act.put, List.setIfInBounds_toArray, List.set_cons_zero, List.set_cons_succ]
            refine wpAnyH_ready (rs := [9]) (by kernel_rfl) (by simp) ?_
            refine AllReadyH.cons rfl (fun K hK => ?_) AllReadyH.nil
            go_simp
            refine (TwL.turnX HS10.out HI1.out HT1.out).mono ?_
            rintro e w11 hx
            obtain ⟨he, ho⟩ := hx
            subst he
            have HS12 : Hid (TwL W0 w11 B b0 b1 P1.turn P1 [k7, k2]) := ho
            clear ho
            refine hK.out _ _ trivial (fun hHeld => ?_)
            clear hK K
            refine takeD (i := 10) (d := 206) (v := .bool true) rfl (by kernel_rfl) (by kernel_rfl) (by kernel_rfl) (by kernel_rfl) (fun _ _ _ h => h) (Or.inl ⟨by rfl, fun w' hS => by go_simp⟩) hHeld ?_
            simp only [Act.put, List.setIfInBounds_toArray, List.set_cons_zero, List.set_cons_succ]
            refine takeD (i := 11) (d := 207) (v := .bool true) rfl (by kernel_rfl) (by kernel_rfl) (by kernel_rfl) (by kernel_rfl) (fun _ _ _ h => h) (Or.inl ⟨by rfl, fun w' hS => by go_simp⟩) hHeld ?_
            simp only [Act.put, List.setIfInBounds_toArray, List.set_cons_zero, List.set_cons_succ]
            refine takeD (i := 12) (d := 208) (v := .pointer (some ⟨b1, 0, none⟩)) rfl (by kernel_rfl) (by kernel_rfl) (by kernel_rfl) (by kernel_rfl) (fun _ _ _ h => h) (Or.inl ⟨by kernel_rfl, fun w' hS => by go_simp⟩) hHeld ?_
            simp only [Act.put, List.setIfInBounds_toArray, List.set_cons_zero, List.set_cons_succ]
            refine wpAnyH_ready (rs := [13]) (by kernel_rfl) (by simp) ?_
            refine AllReadyH.cons rfl (fun K hK => ?_) AllReadyH.nil
            go_simp
            refine (TwL.turnY HS12.out HI1.out HT1.out Hw5.out).mono ?_
            rintro e w13 hx
            obtain ⟨he, oa, oc, pa, pc, ol, k7, k4, HSl, hb7⟩ := hx.out
            subst he
            refine hK.out _ _ trivial (fun hHeld => ?_)
            clear hK K
            refine takeD (i := 14) (d := 210) (v := .bool true) rfl (by kernel_rfl) (by kernel_rfl) (by kernel_rfl) (by kernel_rfl) (fun _ _ _ h => h) (Or.inl ⟨by rfl, fun w' hS => by go_simp⟩) hHeld ?_
            simp only [Act.put, List.setIfInBounds_toArray, List.set_cons_zero, List.set_cons_succ]
            refine takeD (i := 15) (d := 211) (v := .bool true) rfl (by kernel_rfl) (by kernel_rfl) (by kernel_rfl) (by kernel_rfl) (fun _ _ _ h => h) (Or.inl ⟨by rfl, fun w' hS => by go_simp⟩) hHeld ?_
            simp only [Act.put, List.setIfInBounds_toArray, List.set_cons_zero, List.set_cons_succ]
            refine takeD (i := 16) (d := 212) (v := .pointer (some ⟨b0, 0, none⟩)) rfl (by kernel_rfl) (by kernel_rfl) (by kernel_rfl) (by kernel_rfl) (fun _ _ _ h => h) (Or.inl ⟨by kernel_rfl, fun w' hS => by go_simp⟩) hHeld ?_
            simp only [Act.put, List.setIfInBounds_toArray, List.set_cons_zero, List.set_cons_succ]
            refine takeD (i := 17) (d := 213) (v := .pointer (some ⟨b0, 0, none⟩)) rfl (by kernel_rfl) (by kernel_rfl) (by kernel_rfl) (by kernel_rfl) (fun _ _ _ h => h) (Or.inl ⟨by kernel_rfl, fun w' hS => by go_simp⟩) hHeld ?_
            simp only [Act.put, List.setIfInBounds_toArray, List.set_cons_zero, List.set_cons_succ]
            as_aux_lemma =>
            refine takeD (i := 18) (d := 214) (v := .pointer (some ⟨b0, 6, none⟩)) rfl (by kernel_rfl) (by kernel_rfl) (by kernel_rfl) (by kernel_rfl) (fun _ _ _ h => h) (Or.inl ⟨by kernel_rfl, fun w' hS => by go_simp⟩) hHeld ?_
            simp only [Act.put, List.setIfInBounds_toArray, List.set_cons_zero, List.set_cons_succ]
            refine takeD (i := 19) (d := 215) (v := .pointer (some ⟨b0, 7, none⟩)) rfl (by kernel_rfl) (by kernel_rfl) (by kernel_rfl) (by kernel_rfl) (fun _ _ _ h => h) (Or.inl ⟨by kernel_rfl, fun w' hS => by go_simp⟩) hHeld ?_
            simp only [Act.put, List.setIfInBounds_toArray, List.set_cons_zero, List.set_cons_succ]
            refine takeD (i := 21) (d := 217) (v := .pointer (some ⟨b1, 0, none⟩)) rfl (by kernel_rfl) (by kernel_rfl) (by kernel_rfl) (by kernel_rfl) (fun _ _ _ h => h) (Or.inl ⟨by kernel_rfl, fun w' hS => by go_simp⟩) hHeld ?_
            simp only [Act.put, List.setIfInBounds_toArray, List.set_cons_zero, List.set_cons_succ]
            refine takeD (i := 22) (d := 218) (v := .pointer (some ⟨b1, 0, none⟩)) rfl (by kernel_rfl) (by kernel_rfl) (by kernel_rfl) (by kernel_rfl) (fun _ _ _ h => h) (Or.inl ⟨by kernel_rfl, fun w' hS => by go_simp⟩) hHeld ?_
            simp only [Act.put, List.setIfInBounds_toArray, List.set_cons_zero, List.set_cons_succ]
            refine takeD (i := 23) (d := 219) (v := .pointer (some ⟨b1, 6, none⟩)) rfl (by kernel_rfl) (by kernel_rfl) (by kernel_rfl) (by kernel_rfl) (fun _ _ _ h => h) (Or.inl ⟨by kernel_rfl, fun w' hS => by go_simp⟩) hHeld ?_
            simp only [Act.put, List.setIfInBounds_toArray, List.set_cons_zero, List.set_cons_succ]
            refine takeD (i := 24) (d := 220) (v := .pointer (some ⟨b1, 7, none⟩)) rfl (by kernel_rfl) (by kernel_rfl) (by kernel_rfl) (by kernel_rfl) (fun _ _ _ h => h) (Or.inl ⟨by kernel_rfl, fun w' hS => by go_simp⟩) hHeld ?_
            simp only [Act.put, List.setIfInBounds_toArray, List.set_cons_zero, List.set_cons_succ]
            refine wpAnyH_ready (rs := [20, 25]) (by kernel_rfl) (by simp) ?_
            refine AllReadyH.cons rfl (fun K hK => ?_) (AllReadyH.cons rfl (fun K hK => ?_) AllReadyH.nil)
            · have zim := k7
              go_simp
              clear zim
              refine hK.out _ _ trivial (fun hHeld => ?_)
              clear hK K
              refine wpAnyH_ready (rs := [25]) (by kernel_rfl) (by simp) ?_
              refine AllReadyH.cons rfl (fun K hK => ?_) AllReadyH.nil
              have zim := k4
              go_simp
              clear zim
              refine hK.out _ _ trivial (fun hHeld => ?_)
              clear hK K
              refine wpAnyH_ready (rs := [26]) (by kernel_rfl) (by simp) ?_
              refine AllReadyH.cons rfl (fun K hK => ?_) AllReadyH.nil
              go_simp
              refine (HSl.out).mono ?_
              rintro e w8 ⟨rfl, hb8⟩
              refine hK.out _ _ trivial (fun hHeld => ?_)
              clear hK K
              refine takeD (i := 27) (d := 223) (v := .bool true) rfl (by kernel_rfl) (by kernel_rfl) (by kernel_rfl) (by kernel_rfl) (fun _ _ _ h => h) (Or.inl ⟨by rfl, fun w' hS => by go_simp⟩) hHeld ?_
              simp only [Act.put, List.setIfInBounds_toArray, List.set_cons_zero, List.set_cons_succ]
              refine takeD (i := 28) (d := 2) (v := .bool true) rfl (by kernel_rfl) (by kernel_rfl) (by kernel_rfl) (by kernel_rfl) (fun _ _ _ h => h) (Or.inl ⟨by rfl, fun w' hS => by go_simp⟩) hHeld ?_
              simp only [Act.put, List.setIfInBounds_toArray, List.set_cons_zero, List.set_cons_succ]
              refine wpAnyH_done (by kernel_rfl) ?_ _
              clear hHeld
              have HZ : Hid (Below w.heap.size w w8) := (show Below _ _ _ from bstep (bstep HbW.out hb7) hb8)
              clear hb8 hb7 k7 k4 HSl
              go_wp2
              go_ret
              exact ⟨rfl, HZ.out⟩
            · have zim := k4
              go_simp
              clear zim
              refine hK.out _ _ trivial (fun hHeld => ?_)
              clear hK K
              refine wpAnyH_ready (rs := [20]) (by kernel_rfl) (by simp) ?_
              refine AllReadyH.cons rfl (fun K hK => ?_) AllReadyH.nil
              have zim := k7
              go_simp
              clear zim
              refine hK.out _ _ trivial (fun hHeld => ?_)
              clear hK K
              refine wpAnyH_ready (rs := [26]) (by kernel_rfl) (by simp) ?_
              refine AllReadyH.cons rfl (fun K hK => ?_) AllReadyH.nil
              go_simp
              refine (HSl.out).mono ?_
              rintro e w8 ⟨rfl, hb8⟩
              refine hK.out _ _ trivial (fun hHeld => ?_)
              clear hK K
              refine takeD (i := 27) (d := 223) (v := .bool true) rfl (by kernel_rfl) (by kernel_rfl) (by kernel_rfl) (by kernel_rfl) (fun _ _ _ h => h) (Or.inl ⟨by rfl, fun w' hS => by go_simp⟩) hHeld ?_
              simp only [Act.put, List.setIfInBounds_toArray, List.set_cons_zero, List.set_cons_succ]
              refine takeD (i := 28) (d := 2) (v := .bool true) rfl (by kernel_rfl) (by kernel_rfl) (by kernel_rfl) (by kernel_rfl) (fun _ _ _ h => h) (Or.inl ⟨by rfl, fun w' hS => by go_simp⟩) hHeld ?_
              simp only [Act.put, List.setIfInBounds_toArray, List.set_cons_zero, List.set_cons_succ]
              refine wpAnyH_done (by kernel_rfl) ?_ _
              clear hHeld
              have HZ : Hid (Below w.heap.size w w8) := (show Below _ _ _ from bstep (bstep HbW.out hb7) hb8)
              clear hb8 hb7 k7 k4 HSl
              go_wp2
              go_ret
              exact ⟨rfl, HZ.out⟩
          · go_simp
            have HS14 : Hid (TwL W0 (V3.alloc (.cells #[.int .u8 8] 5)) B b0 b1 P P (V3.heap.size :: [k2])) := TwL.alloc HS1.out
            obtain ⟨k15, hk15⟩ : ∃ k, V3.heap.size = k := ⟨_, rfl⟩
            rw [hk15] at HS14
            rw [hk15]
            generalize V3.alloc (.cells #[.int .u8 8] 5) = V16 at *
            clear hk15
            refine hK.out _ _ trivial (fun hHeld => ?_)
            clear hK K
            refine wpAnyH_ready (rs := [2]) (by kernel_rfl) (by simp) ?_
            refine AllReadyH.cons rfl (fun K hK => ?_) AllReadyH.nil
            go_simp
            refine (TwL.pushX HS14.out HI.out HT.out (k := k2) (by simp)).mono ?_
            rintro e w17 hx
            obtain ⟨he, ho⟩ := hx
            subst he
            rw [HP1.out] at ho
            have HS18 : Hid (TwL W0 w17 B b0 b1 P1 P [k15, k2]) := ho
            clear ho
            refine hK.out _ _ trivial (fun hHeld => ?_)
            clear hK K
            refine wpAnyH_ready (rs := [5]) (by kernel_rfl) (by simp) ?_
            refine AllReadyH.cons rfl (fun K hK => ?_) AllReadyH.nil
            go_simp
            refine (TwL.pushY HS18.out HI.out HT.out (k := k15) (by simp)).mono ?_
            rintro e w19 hx
            obtain ⟨he, ho⟩ := hx
            subst he
            rw [HP1.out] at ho
            have HS20 : Hid (TwL W0 w19 B b0 b1 P1 P1 [k15, k2]) := ho
            clear ho
            refine hK.out _ _ trivial (fun hHeld => ?_)
            clear hK K
            refine takeD (i := 6) (d := 202) (v := .bool true) rfl (by kernel_rfl) (by kernel_rfl) (by kernel_rfl) (by kernel_rfl) (fun _ _ _ h => h) (Or.inl ⟨by rfl, fun w' hS => by go_simp⟩) hHeld ?_
            simp only [Act.put, List.setIfInBounds_toArray, List.set_cons_zero, List.set_cons_succ]
            refine takeD (i := 7) (d := 203) (v := .bool true) rfl (by kernel_rfl) (by kernel_rfl) (by kernel_rfl) (by kernel_rfl) (fun _ _ _ h => h) (Or.inl ⟨by rfl, fun w' hS => by go_simp⟩) hHeld ?_
            simp only [Act.put, List.setIfInBounds_toArray, List.set_cons_zero, List.set_cons_succ]
            refine takeD (i := 8) (d := 204) (v := .pointer (some ⟨b0, 0, none⟩)) rfl (by kernel_rfl) (by kernel_rfl) (by kernel_rfl) (by kernel_rfl) (fun _ _ _ h => h) (Or.inl ⟨by kernel_rfl, fun w' hS => by go_simp⟩) hHeld ?_
            simp only [Act.put, List.setIfInBounds_toArray, List.set_cons_zero, List.set_cons_succ]
            refine wpAnyH_ready (rs := [9]) (by kernel_rfl) (by simp) ?_
            refine AllReadyH.cons rfl (fun K hK => ?_) AllReadyH.nil
            go_simp
            refine (TwL.turnX HS20.out HI1.out HT1.out).mono ?_
            rintro e w21 hx
            obtain ⟨he, ho⟩ := hx
            subst he
            have HS22 : Hid (TwL W0 w21 B b0 b1 P1.turn P1 [k15, k2]) := ho
            clear ho
            refine hK.out _ _ trivial (fun hHeld => ?_)
            clear hK K
            refine takeD (i := 10) (d := 206) (v := .bool true) rfl (by kernel_rfl) (by kernel_rfl) (by kernel_rfl) (by kernel_rfl) (fun _ _ _ h => h) (Or.inl ⟨by rfl, fun w' hS => by go_simp⟩) hHeld ?_
            simp only [Act.put, List.setIfInBounds_toArray, List.set_cons_zero, List.set_cons_succ]
            refine takeD (i := 11) (d := 207) (v := .bool true) rfl (by kernel_rfl) (by kernel_rfl) (by kernel_rfl) (by kernel_rfl) (fun _ _ _ h => h) (Or.inl ⟨by rfl, fun w' hS => by go_simp⟩) hHeld ?_
            simp only [Act.put, List.setIfInBounds_toArray, List.set_cons_zero, List.set_cons_succ]
            refine takeD (i := 12) (d := 208) (v := .pointer (some ⟨b1, 0, none⟩)) rfl (by kernel_rfl) (by kernel_rfl) (by kernel_rfl) (by kernel_rfl) (fun _ _ _ h => h) (Or.inl ⟨by kernel_rfl, fun w' hS => by go_simp⟩) hHeld ?_
            simp only [Act.put, List.setIfInBounds_toArray, List.set_cons_zero, List.set_cons_succ]
            refine wpAnyH_ready (rs := [13]) (by kernel_rfl) (by simp) ?_
            refine AllReadyH.cons rfl (fun K hK => ?_) AllReadyH.nil
            go_simp
            refine (TwL.turnY HS22.out HI1.out HT1.out Hw5.out).mono ?_
            rintro e w23 hx
            obtain ⟨he, oa, oc, pa, pc, ol, k7, k4, HSl, hb7⟩ := hx.out
            subst he
            refine hK.out _ _ trivial (fun hHeld => ?_)
            clear hK K
            refine takeD (i := 14) (d := 210) (v := .bool true) rfl (by kernel_rfl) (by kernel_rfl) (by kernel_rfl) (by kernel_rfl) (fun _ _ _ h => h) (Or.inl ⟨by rfl, fun w' hS => by go_simp⟩) hHeld ?_
            simp only [Act.put, List.setIfInBounds_toArray, List.set_cons_zero, List.set_cons_succ]
            refine takeD (i := 15) (d := 211) (v := .bool true) rfl (by kernel_rfl) (by kernel_rfl) (by kernel_rfl) (by kernel_rfl) (fun _ _ _ h => h) (Or.inl ⟨by rfl, fun w' hS => by go_simp⟩) hHeld ?_
            simp only [Act.put, List.setIfInBounds_toArray, List.set_cons_zero, List.set_cons_succ]
            refine takeD (i := 16) (d := 212) (v := .pointer (some ⟨b0, 0, none⟩)) rfl (by kernel_rfl) (by kernel_rfl) (by kernel_rfl) (by kernel_rfl) (fun _ _ _ h => h) (Or.inl ⟨by kernel_rfl, fun w' hS => by go_simp⟩) hHeld ?_
            simp only [Act.put, List.setIfInBounds_toArray, List.set_cons_zero, List.set_cons_succ]
            refine takeD (i := 17) (d := 213) (v := .pointer (some ⟨b0, 0, none⟩)) rfl (by kernel_rfl) (by kernel_rfl) (by kernel_rfl) (by kernel_rfl) (fun _ _ _ h => h) (Or.inl ⟨by kernel_rfl, fun w' hS => by go_simp⟩) hHeld ?_
            simp only [Act.put, List.setIfInBounds_toArray, List.set_cons_zero, List.set_cons_succ]
            as_aux_lemma =>
            refine takeD (i := 18) (d := 214) (v := .pointer (some ⟨b0, 6, none⟩)) rfl (by kernel_rfl) (by kernel_rfl) (by kernel_rfl) (by kernel_rfl) (fun _ _ _ h => h) (Or.inl ⟨by kernel_rfl, fun w' hS => by go_simp⟩) hHeld ?_
            simp only [Act.put, List.setIfInBounds_toArray, List.set_cons_zero, List.set_cons_succ]
            refine takeD (i := 19) (d := 215) (v := .pointer (some ⟨b0, 7, none⟩)) rfl (by kernel_rfl) (by kernel_rfl) (by kernel_rfl) (by kernel_rfl) (fun _ _ _ h => h) (Or.inl ⟨by kernel_rfl, fun w' hS => by go_simp⟩) hHeld ?_
            simp only [Act.put, List.setIfInBounds_toArray, List.set_cons_zero, List.set_cons_succ]
            refine takeD (i := 21) (d := 217) (v := .pointer (some ⟨b1, 0, none⟩)) rfl (by kernel_rfl) (by kernel_rfl) (by kernel_rfl) (by kernel_rfl) (fun _ _ _ h => h) (Or.inl ⟨by kernel_rfl, fun w' hS => by go_simp⟩) hHeld ?_
            simp only [Act.put, List.setIfInBounds_toArray, List.set_cons_zero, List.set_cons_succ]
            refine takeD (i := 22) (d := 218) (v := .pointer (some ⟨b1, 0, none⟩)) rfl (by kernel_rfl) (by kernel_rfl) (by kernel_rfl) (by kernel_rfl) (fun _ _ _ h => h) (Or.inl ⟨by kernel_rfl, fun w' hS => by go_simp⟩) hHeld ?_
            simp only [Act.put, List.setIfInBounds_toArray, List.set_cons_zero, List.set_cons_succ]
            refine takeD (i := 23) (d := 219) (v := .pointer (some ⟨b1, 6, none⟩)) rfl (by kernel_rfl) (by kernel_rfl) (by kernel_rfl) (by kernel_rfl) (fun _ _ _ h => h) (Or.inl ⟨by kernel_rfl, fun w' hS => by go_simp⟩) hHeld ?_
            simp only [Act.put, List.setIfInBounds_toArray, List.set_cons_zero, List.set_cons_succ]
            refine takeD (i := 24) (d := 220) (v := .pointer (some ⟨b1, 7, none⟩)) rfl (by kernel_rfl) (by kernel_rfl) (by kernel_rfl) (by kernel_rfl) (fun _ _ _ h => h) (Or.inl ⟨by kernel_rfl, fun w' hS => by go_simp⟩) hHeld ?_
            simp only [Act.put, List.setIfInBounds_toArray, List.set_cons_zero, List.set_cons_succ]
            refine wpAnyH_ready (rs := [20, 25]) (by kernel_rfl) (by simp) ?_
            refine AllReadyH.cons rfl (fun K hK => ?_) (AllReadyH.cons rfl (fun K hK => ?_) AllReadyH.nil)
            · have zim := k7
              go_simp
              clear zim
              refine hK.out _ _ trivial (fun hHeld => ?_)
              clear hK K
              refine wpAnyH_ready (rs := [25]) (by kernel_rfl) (by simp) ?_
              refine AllReadyH.cons rfl (fun K hK => ?_) AllReadyH.nil
              have zim := k4
              go_simp
              clear zim
              refine hK.out _ _ trivial (fun hHeld => ?_)
              clear hK K
              refine wpAnyH_ready (rs := [26]) (by kernel_rfl) (by simp) ?_
              refine AllReadyH.cons rfl (fun K hK => ?_) AllReadyH.nil
              go_simp
              refine (HSl.out).mono ?_
              rintro e w8 ⟨rfl, hb8⟩
              refine hK.out _ _ trivial (fun hHeld => ?_)
              clear hK K
              refine takeD (i := 27) (d := 223) (v := .bool true) rfl (by kernel_rfl) (by kernel_rfl) (by kernel_rfl) (by kernel_rfl) (fun _ _ _ h => h) (Or.inl ⟨by rfl, fun w' hS => by go_simp⟩) hHeld ?_
              simp only [Act.put, List.setIfInBounds_toArray, List.set_cons_zero, List.set_cons_succ]
              refine takeD (i := 28) (d := 2) (v := .bool true) rfl (by kernel_rfl) (by kernel_rfl) (by kernel_rfl) (by kernel_rfl) (fun _ _ _ h => h) (Or.inl ⟨by rfl, fun w' hS => by go_simp⟩) hHeld ?_
              simp only [Act.put, List.setIfInBounds_toArray, List.set_cons_zero, List.set_cons_succ]
              refine wpAnyH_done (by kernel_rfl) ?_ _
              clear hHeld
              have HZ : Hid (Below w.heap.size w w8) := (show Below _ _ _ from bstep (bstep HbW.out hb7) hb8)
              clear hb8 hb7 k7 k4 HSl
              go_wp2
              go_ret
              exact ⟨rfl, HZ.out⟩
            · have zim := k4
              go_simp
              clear zim
              refine hK.out _ _ trivial (fun hHeld => ?_)
              clear hK K
              refine wpAnyH_ready (rs := [20]) (by kernel_rfl) (by simp) ?_
              refine AllReadyH.cons rfl (fun K hK => ?_) AllReadyH.nil
              have zim := k7
              go_simp
              clear zim
              refine hK.out _ _ trivial (fun hHeld => ?_)
              clear hK K
              refine wpAnyH_ready (rs := [26]) (by kernel_rfl) (by simp) ?_
              refine AllReadyH.cons rfl (fun K hK => ?_) AllReadyH.nil
              go_simp
              refine (HSl.out).mono ?_
              rintro e w8 ⟨rfl, hb8⟩
              refine hK.out _ _ trivial (fun hHeld => ?_)
              clear hK K
              refine takeD (i := 27) (d := 223) (v := .bool true) rfl (by kernel_rfl) (by kernel_rfl) (by kernel_rfl) (by kernel_rfl) (fun _ _ _ h => h) (Or.inl ⟨by rfl, fun w' hS => by go_simp⟩) hHeld ?_
              simp only [Act.put, List.setIfInBounds_toArray, List.set_cons_zero, List.set_cons_succ]
              refine takeD (i := 28) (d := 2) (v := .bool true) rfl (by kernel_rfl) (by kernel_rfl) (by kernel_rfl) (by kernel_rfl) (fun _ _ _ h => h) (Or.inl ⟨by rfl, fun w' hS => by go_simp⟩) hHeld ?_
              simp only [Act.put, List.setIfInBounds_toArray, List.set_cons_zero, List.set_cons_succ]
              refine wpAnyH_done (by kernel_rfl) ?_ _
              clear hHeld
              have HZ : Hid (Below w.heap.size w w8) := (show Below _ _ _ from bstep (bstep HbW.out hb7) hb8)
              clear hb8 hb7 k7 k4 HSl
              go_wp2
              go_ret
              exact ⟨rfl, HZ.out⟩
        · go_simp
          have HS24 : Hid (TwL W0 (D5.alloc (.cells #[.int .u8 8] 5)) B b0 b1 P P (D5.heap.size :: [])) := TwL.alloc HS0.out
          obtain ⟨k25, hk25⟩ : ∃ k, D5.heap.size = k := ⟨_, rfl⟩
          rw [hk25] at HS24
          rw [hk25]
          generalize D5.alloc (.cells #[.int .u8 8] 5) = V26 at *
          clear hk25
          refine hK.out _ _ trivial (fun hHeld => ?_)
          clear hK K
          refine wpAnyH_ready (rs := [1]) (by kernel_rfl) (by simp) ?_
          refine AllReadyH.cons rfl (fun K hK => ?_) AllReadyH.nil
          go_simp
          have HS27 : Hid (TwL W0 (V26.alloc (.cells #[.int .u8 8] 5)) B b0 b1 P P (V26.heap.size :: [k25])) := TwL.alloc HS24.out
          obtain ⟨k28, hk28⟩ : ∃ k, V26.heap.size = k := ⟨_, rfl⟩
          rw [hk28] at HS27
          rw [hk28]
          generalize V26.alloc (.cells #[.int .u8 8] 5) = V29 at *
          clear hk28
          refine hK.out _ _ trivial (fun hHeld => ?_)
          clear hK K
          refine wpAnyH_ready (rs := [2]) (by kernel_rfl) (by simp) ?_
          refine AllReadyH.cons rfl (fun K hK => ?_) AllReadyH.nil
          go_simp
          refine (TwL.pushX HS27.out HI.out HT.out (k := k28) (by simp)).mono ?_
          rintro e w30 hx
          obtain ⟨he, ho⟩ := hx
          subst he
          rw [HP1.out] at ho
          have HS31 : Hid (TwL W0 w30 B b0 b1 P1 P [k28, k25]) := ho
          clear ho
          refine hK.out _ _ trivial (fun hHeld => ?_)
          clear hK K
          refine wpAnyH_ready (rs := [5]) (by kernel_rfl) (by simp) ?_
          refine AllReadyH.cons rfl (fun K hK => ?_) AllReadyH.nil
          go_simp
          refine (TwL.pushY HS31.out HI.out HT.out (k := k25) (by simp)).mono ?_
          rintro e w32 hx
          obtain ⟨he, ho⟩ := hx
          subst he
          rw [HP1.out] at ho
          have HS33 : Hid (TwL W0 w32 B b0 b1 P1 P1 [k28, k25]) := ho
          clear ho
          refine hK.out _ _ trivial (fun hHeld => ?_)
          clear hK K
          refine takeD (i := 6) (d := 202) (v := .bool true) rfl (by kernel_rfl) (by kernel_rfl) (by kernel_rfl) (by kernel_rfl) (fun _ _ _ h => h) (Or.inl ⟨by rfl, fun w' hS => by go_simp⟩) hHeld ?_
          simp only [Act.put, List.setIfInBounds_toArray, List.set_cons_zero, List.set_cons_succ]
          refine takeD (i := 7) (d := 203) (v := .bool true) rfl (by kernel_rfl) (by kernel_rfl) (by kernel_rfl) (by kernel_rfl) (fun _ _ _ h => h) (Or.inl ⟨by rfl, fun w' hS => by go_simp⟩) hHeld ?_
          simp only [Act.put, List.setIfInBounds_toArray, List.set_cons_zero, List.set_cons_succ]
          refine takeD (i := 8) (d := 204) (v := .pointer (some ⟨b0, 0, none⟩)) rfl (by kernel_rfl) (by kernel_rfl) (by kernel_rfl) (by kernel_rfl) (fun _ _ _ h => h) (Or.inl ⟨by kernel_rfl, fun w' hS => by go_simp⟩) hHeld ?_
          simp only [Act.put, List.setIfInBounds_toArray, List.set_cons_zero, List.set_cons_succ]
          refine wpAnyH_ready (rs := [9]) (by kernel_rfl) (by simp) ?_
          refine AllReadyH.cons rfl (fun K hK => ?_) AllReadyH.nil
          go_simp
          refine (TwL.turnX HS33.out HI1.out HT1.out).mono ?_
          rintro e w34 hx
          obtain ⟨he, ho⟩ := hx
          subst he
          have HS35 : Hid (TwL W0 w34 B b0 b1 P1.turn P1 [k28, k25]) := ho
          clear ho
          refine hK.out _ _ trivial (fun hHeld => ?_)
          clear hK K
          refine takeD (i := 10) (d := 206) (v := .bool true) rfl (by kernel_rfl) (by kernel_rfl) (by kernel_rfl) (by kernel_rfl) (fun _ _ _ h => h) (Or.inl ⟨by rfl, fun w' hS => by go_simp⟩) hHeld ?_
          simp only [Act.put, List.setIfInBounds_toArray, List.set_cons_zero, List.set_cons_succ]
          refine takeD (i := 11) (d := 207) (v := .bool true) rfl (by kernel_rfl) (by kernel_rfl) (by kernel_rfl) (by kernel_rfl) (fun _ _ _ h => h) (Or.inl ⟨by rfl, fun w' hS => by go_simp⟩) hHeld ?_
          simp only [Act.put, List.setIfInBounds_toArray, List.set_cons_zero, List.set_cons_succ]
          refine takeD (i := 12) (d := 208) (v := .pointer (some ⟨b1, 0, none⟩)) rfl (by kernel_rfl) (by kernel_rfl) (by kernel_rfl) (by kernel_rfl) (fun _ _ _ h => h) (Or.inl ⟨by kernel_rfl, fun w' hS => by go_simp⟩) hHeld ?_
          simp only [Act.put, List.setIfInBounds_toArray, List.set_cons_zero, List.set_cons_succ]
          refine wpAnyH_ready (rs := [13]) (by kernel_rfl) (by simp) ?_
          refine AllReadyH.cons rfl (fun K hK => ?_) AllReadyH.nil
          go_simp
          refine (TwL.turnY HS35.out HI1.out HT1.out Hw5.out).mono ?_
          rintro e w36 hx
          obtain ⟨he, oa, oc, pa, pc, ol, k7, k4, HSl, hb7⟩ := hx.out
          subst he
          refine hK.out _ _ trivial (fun hHeld => ?_)
          clear hK K
          refine takeD (i := 14) (d := 210) (v := .bool true) rfl (by kernel_rfl) (by kernel_rfl) (by kernel_rfl) (by kernel_rfl) (fun _ _ _ h => h) (Or.inl ⟨by rfl, fun w' hS => by go_simp⟩) hHeld ?_
          simp only [Act.put, List.setIfInBounds_toArray, List.set_cons_zero, List.set_cons_succ]
          refine takeD (i := 15) (d := 211) (v := .bool true) rfl (by kernel_rfl) (by kernel_rfl) (by kernel_rfl) (by kernel_rfl) (fun _ _ _ h => h) (Or.inl ⟨by rfl, fun w' hS => by go_simp⟩) hHeld ?_
          simp only [Act.put, List.setIfInBounds_toArray, List.set_cons_zero, List.set_cons_succ]
          refine takeD (i := 16) (d := 212) (v := .pointer (some ⟨b0, 0, none⟩)) rfl (by kernel_rfl) (by kernel_rfl) (by kernel_rfl) (by kernel_rfl) (fun _ _ _ h => h) (Or.inl ⟨by kernel_rfl, fun w' hS => by go_simp⟩) hHeld ?_
          simp only [Act.put, List.setIfInBounds_toArray, List.set_cons_zero, List.set_cons_succ]
          refine takeD (i := 17) (d := 213) (v := .pointer (some ⟨b0, 0, none⟩)) rfl (by kernel_rfl) (by kernel_rfl) (by kernel_rfl) (by kernel_rfl) (fun _ _ _ h => h) (Or.inl ⟨by kernel_rfl, fun w' hS => by go_simp⟩) hHeld ?_
          simp only [Act.put, List.setIfInBounds_toArray, List.set_cons_zero, List.set_cons_succ]
          as_aux_lemma =>
          refine takeD (i := 18) (d := 214) (v := .pointer (some ⟨b0, 6, none⟩)) rfl (by kernel_rfl) (by kernel_rfl) (by kernel_rfl) (by kernel_rfl) (fun _ _ _ h => h) (Or.inl ⟨by kernel_rfl, fun w' hS => by go_simp⟩) hHeld ?_
          simp only [Act.put, List.setIfInBounds_toArray, List.set_cons_zero, List.set_cons_succ]
          refine takeD (i := 19) (d := 215) (v := .pointer (some ⟨b0, 7, none⟩)) rfl (by kernel_rfl) (by kernel_rfl) (by kernel_rfl) (by kernel_rfl) (fun _ _ _ h => h) (Or.inl ⟨by kernel_rfl, fun w' hS => by go_simp⟩) hHeld ?_
          simp only [Act.put, List.setIfInBounds_toArray, List.set_cons_zero, List.set_cons_succ]
          refine takeD (i := 21) (d := 217) (v := .pointer (some ⟨b1, 0, none⟩)) rfl (by kernel_rfl) (by kernel_rfl) (by kernel_rfl) (by kernel_rfl) (fun _ _ _ h => h) (Or.inl ⟨by kernel_rfl, fun w' hS => by go_simp⟩) hHeld ?_
          simp only [Act.put, List.setIfInBounds_toArray, List.set_cons_zero, List.set_cons_succ]
          refine takeD (i := 22) (d := 218) (v := .pointer (some ⟨b1, 0, none⟩)) rfl (by kernel_rfl) (by kernel_rfl) (by kernel_rfl) (by kernel_rfl) (fun _ _ _ h => h) (Or.inl ⟨by kernel_rfl, fun w' hS => by go_simp⟩) hHeld ?_
          simp only [Act.put, List.setIfInBounds_toArray, List.set_cons_zero, List.set_cons_succ]
          refine takeD (i := 23) (d := 219) (v := .pointer (some ⟨b1, 6, none⟩)) rfl (by kernel_rfl) (by kernel_rfl) (by kernel_rfl) (by kernel_rfl) (fun _ _ _ h => h) (Or.inl ⟨by kernel_rfl, fun w' hS => by go_simp⟩) hHeld ?_
          simp only [Act.put, List.setIfInBounds_toArray, List.set_cons_zero, List.set_cons_succ]
          refine takeD (i := 24) (d := 220) (v := .pointer (some ⟨b1, 7, none⟩)) rfl (by kernel_rfl) (by kernel_rfl) (by kernel_rfl) (by kernel_rfl) (fun _ _ _ h => h) (Or.inl ⟨by kernel_rfl, fun w' hS => by go_simp⟩) hHeld ?_
          simp only [Act.put, List.setIfInBounds_toArray, List.set_cons_zero, List.set_cons_succ]
          refine wpAnyH_ready (rs := [20, 25]) (by kernel_rfl) (by simp) ?_
          refine AllReadyH.cons rfl (fun K hK => ?_) (AllReadyH.cons rfl (fun K hK => ?_) AllReadyH.nil)
          · have zim := k7
            go_simp
            clear zim
            refine hK.out _ _ trivial (fun hHeld => ?_)
            clear hK K
            refine wpAnyH_ready (rs := [25]) (by kernel_rfl) (by simp) ?_
            refine AllReadyH.cons rfl (fun K hK => ?_) AllReadyH.nil
            have zim := k4
            go_simp
            clear zim
            refine hK.out _ _ trivial (fun hHeld => ?_)
            clear hK K
            refine wpAnyH_ready (rs := [26]) (by kernel_rfl) (by simp) ?_
            refine AllReadyH.cons rfl (fun K hK => ?_) AllReadyH.nil
            go_simp
            refine (HSl.out).mono ?_
            rintro e w8 ⟨rfl, hb8⟩
            refine hK.out _ _ trivial (fun hHeld => ?_)
            clear hK K
            refine takeD (i := 27) (d := 223) (v := .bool true) rfl (by kernel_rfl) (by kernel_rfl) (by kernel_rfl) (by kernel_rfl) (fun _ _ _ h => h) (Or.inl ⟨by rfl, fun w' hS => by go_simp⟩) hHeld ?_
            simp only [Act.put, List.setIfInBounds_toArray, List.set_cons_zero, List.set_cons_succ]
            refine takeD (i := 28) (d := 2) (v := .bool true) rfl (by kernel_rfl) (by kernel_rfl) (by kernel_rfl) (by kernel_rfl) (fun _ _ _ h => h) (Or.inl ⟨by rfl, fun w' hS => by go_simp⟩) hHeld ?_
            simp only [Act.put, List.setIfInBounds_toArray, List.set_cons_zero, List.set_cons_succ]
            refine wpAnyH_done (by kernel_rfl) ?_ _
            clear hHeld
            have HZ : Hid (Below w.heap.size w w8) := (show Below _ _ _ from bstep (bstep HbW.out hb7) hb8)
            clear hb8 hb7 k7 k4 HSl
            go_wp2
            go_ret
            exact ⟨rfl, HZ.out⟩
          · have zim := k4
            go_simp
            clear zim
            refine hK.out _ _ trivial (fun hHeld => ?_)
            clear hK K
            refine wpAnyH_ready (rs := [20]) (by kernel_rfl) (by simp) ?_
            refine AllReadyH.cons rfl (fun K hK => ?_) AllReadyH.nil
            have zim := k7
            go_simp
            clear zim
            refine hK.out _ _ trivial (fun hHeld => ?_)
            clear hK K
            refine wpAnyH_ready (rs := [26]) (by kernel_rfl) (by simp) ?_
            refine AllReadyH.cons rfl (fun K hK => ?_) AllReadyH.nil
            go_simp
            refine (HSl.out).mono ?_
            rintro e w8 ⟨rfl, hb8⟩
            refine hK.out _ _ trivial (fun hHeld => ?_)
            clear hK K
            refine takeD (i := 27) (d := 223) (v := .bool true) rfl (by kernel_rfl) (by kernel_rfl) (by kernel_rfl) (by kernel_rfl) (fun _ _ _ h => h) (Or.inl ⟨by rfl, fun w' hS => by go_simp⟩) hHeld ?_
            simp only [Act.put, List.setIfInBounds_toArray, List.set_cons_zero, List.set_cons_succ]
            refine takeD (i := 28) (d := 2) (v := .bool true) rfl (by kernel_rfl) (by kernel_rfl) (by kernel_rfl) (by kernel_rfl) (fun _ _ _ h => h) (Or.inl ⟨by rfl, fun w' hS => by go_simp⟩) hHeld ?_
            simp only [Act.put, List.setIfInBounds_toArray, List.set_cons_zero, List.set_cons_succ]
            refine wpAnyH_done (by kernel_rfl) ?_ _
            clear hHeld
            have HZ : Hid (Below w.heap.size w w8) := (show Below _ _ _ from bstep (bstep HbW.out hb7) hb8)
            clear hb8 hb7 k7 k4 HSl
            go_wp2
            go_ret
            exact ⟨rfl, HZ.out⟩
end
end Go.Proofs.Ytghihdenbdnnjaa.Ln
