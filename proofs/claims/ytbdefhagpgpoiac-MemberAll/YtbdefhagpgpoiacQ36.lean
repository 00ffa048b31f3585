import Derived.Test.YtbdefhagpgpoiacQ00
import Derived.Test.YtbdefhagpgpoiacQ35
namespace Go.Proofs.Ytbdefhagpgpoiac.Mb
open Go.RowKit
set_option linter.unusedVariables false
set_option maxRecDepth 100000
set_option linter.unusedSimpArgs false
section
variable {A A' : Ag} {w w' W : World} {B : Nat} {T : Int} {R R' : Rg}
theorem built_view (i0 i1 i2 i3 : Int) : Try.prog.built 51 [(0, .agg [.int .i64 i0, .int .i64 i1, .int .i64 i2, .int .i64 i3].toArray)] = some [.int .i64 i0, .int .i64 i1, .int .i64 i2, .int .i64 i3, .slice none 0 0].toArray := by kernel_rfl
theorem build_step1 {ops : Array Oper} {rest : List Oper} {o : Oper} {a : Act} {Q : Exit → Act → World → Prop} (t : TypeId) (i0 : Nat) (x0 : Operand) (v0 : Value) (cells : Array Value) (hb : Try.prog.built t [(i0, v0)] = some cells) (h0 : a.eval x0 = v0) (ho : o.op = .build t #[(i0, x0)]) (hg : o.guard = none) (h : wpList Try.prog ops Q rest (a.put o.dst (.agg cells)) w) : wpList Try.prog ops Q (o :: rest) a w := by
  have e : (((#[(i0, x0)] : Array (Nat × Operand)).map fun (i, x) => (i, a.eval x)).toList) = [(i0, v0)] := by simp [h0]
  refine wpList_build hg t _ ho (by rw [e, hb]; rfl) ?_
  rw [e, hb]
  exact h
set_option maxHeartbeats 8000000 in
theorem qview_any (i0 i1 i2 i3 : Int) {ao : Option Addr} {k c : Nat} {ms : List Int} (hr : RdM w ao k ms) (hk16 : k ≤ 16) : Calls Try.prog 52 #[.agg [.int .i64 i0, .int .i64 i1, .int .i64 i2, .int .i64 i3, .slice ao k c].toArray] w fun e w' => ∃ a2 c2, e = .returned (.agg [.int .i64 i0, .int .i64 i1, .int .i64 i2, .int .i64 i3, .slice a2 k c2].toArray) ∧ w'.ownsRow w.heap.size 92 3 (.slice a2 k c2) k (ints ms) ∧ Below w.heap.size w w' := by
  obtain ⟨j0, hj, hy0, hy1, hy2⟩ := info_parts info_m
  generalize hW1 : w.alloc (.cells [.int .i64 i0, .int .i64 i1, .int .i64 i2, .int .i64 i3, .slice ao k c].toArray 51) = W1
  have b1 : Below w.heap.size w W1 := by rw [← hW1]; exact balloc (Below.refl _ _)
  have k1 : W1.heap[w.heap.size]? = some (.cells [.int .i64 i0, .int .i64 i1, .int .i64 i2, .int .i64 i3, .slice ao k c].toArray 51 (0, 0)) := by rw [← hW1]; exact heap_alloc_new w _
  generalize hW2 : W1.alloc (.cells [.int .i64 0, .int .i64 0, .int .i64 0, .int .i64 0, .slice none 0 0].toArray 51) = W2
  have b2 : Below W1.heap.size W1 W2 := by rw [← hW2]; exact balloc (Below.refl _ _)
  have k2 : W2.heap[W1.heap.size]? = some (.cells [.int .i64 0, .int .i64 0, .int .i64 0, .int .i64 0, .slice none 0 0].toArray 51 (0, 0)) := by rw [← hW2]; exact heap_alloc_new W1 _
  have k1' := (b2.block _ (lt_heap k1)).trans k1
  generalize hZ3 : W2.alloc (.cells [.int .i64 0, .int .i64 0, .int .i64 0, .int .i64 0, .slice none 0 0].toArray 51) = Z3
  have bz3 : Below W2.heap.size W2 Z3 := by rw [← hZ3]; exact balloc (Below.refl _ _)
  have kz3 : Z3.heap[W2.heap.size]? = some (.cells [.int .i64 0, .int .i64 0, .int .i64 0, .int .i64 0, .slice none 0 0].toArray 51 (0, 0)) := by rw [← hZ3]; exact heap_alloc_new W2 _
  have TZ : Hid (Z3.there W2.heap.size 0 5) := blk_there kz3 rfl
  generalize hW3 : Z3.setCells W2.heap.size 0 [.int .i64 i0, .int .i64 i1, .int .i64 i2, .int .i64 i3, .slice none 0 0] = W3
  have b3 : Below W2.heap.size W2 W3 := by rw [← hW3]; exact bsets (Nat.le_refl _) _ 0 bz3
  have k3 : W3.heap[W2.heap.size]? = some (.cells [.int .i64 i0, .int .i64 i1, .int .i64 i2, .int .i64 i3, .slice none 0 0].toArray 51 (0, 0)) := by rw [← hW3]; exact sets_whole kz3 rfl
  have RID : Hid (W2.rangeAt w.heap.size 0 [.int .i64 i0, .int .i64 i1, .int .i64 i2, .int .i64 i3]) := range_sub k1' rfl
  have s1 : w.heap.size < W1.heap.size := lt_heap k1
  have s2 : W1.heap.size < W2.heap.size := lt_heap k2
  have HS : Hid ((W3.heap[W2.heap.size]? = some (.cells [.int .i64 i0, .int .i64 i1, .int .i64 i2, .int .i64 i3, .slice none 0 0].toArray 51 (0, 0))) ∧ (W3.heap[w.heap.size]? = some (.cells [.int .i64 i0, .int .i64 i1, .int .i64 i2, .int .i64 i3, .slice ao k c].toArray 51 (0, 0))) ∧ (W3.heap[W1.heap.size]? = some (.cells [.int .i64 0, .int .i64 0, .int .i64 0, .int .i64 0, .slice none 0 0].toArray 51 (0, 0))) ∧ Below w.heap.size w W3) := ⟨k3, (b3.block _ (lt_heap k1')).trans k1', (b3.block _ (lt_heap k2)).trans k2, bstep (bstep b1 b2) b3⟩
  have Hr : Hid (RdM w ao k ms) := hr
  have hml := hr.1
  simp only [List.toArray] at hW1 hW2 hZ3
  clear hr b1 b2 b3 k1 k2 k3 k1' bz3 kz3
  go_enter Try.func52, Try.ntmps52
  go_wp2_with (first
    | (refine load_mid 38 (.tmp 5) RID.out _ Try.underlying38 rfl (by kernel_rfl) rfl rfl rfl ?_)
    | (refine store_midL 51 (.tmp 3) (.tmp 7) (L := [.int .i64 i0, .int .i64 i1, .int .i64 i2, .int .i64 i3, .slice none 0 0]) TZ.out info_view (by simp [Value.oneCell']) rfl rfl rfl rfl ?_; rw [hW3])
    | (refine build_step1 51 0 (.tmp 6) _ _ (built_view i0 i1 i2 i3) rfl rfl rfl ?_)
    | fail)
  clear RID hW1 hW2 hW3 hZ3 TZ
  go_loopw [4] (fun v4 wr => ∃ (m : Nat) (v : Value), m ≤ k ∧ v4 = .int .i64 (m : Int) ∧ (wr.heap[W2.heap.size]? = some (.cells [.int .i64 i0, .int .i64 i1, .int .i64 i2, .int .i64 i3, v].toArray 51 (0, 0))) ∧ (wr.heap[w.heap.size]? = some (.cells [.int .i64 i0, .int .i64 i1, .int .i64 i2, .int .i64 i3, .slice ao k c].toArray 51 (0, 0))) ∧ (wr.heap[W1.heap.size]? = some (.cells [.int .i64 0, .int .i64 0, .int .i64 0, .int .i64 0, .slice none 0 0].toArray 51 (0, 0))) ∧ wr.ownsRow w.heap.size 92 3 v m (ints (ms.take (3 * m))) ∧ Below w.heap.size w wr) (fun v4 _ => k - (intOf v4).toNat)
  case atStart => exact ⟨0, .slice none 0 0, Nat.zero_le _, rfl, HS.out.1, HS.out.2.1, HS.out.2.2.1, ⟨rfl, .inl ⟨rfl, rfl⟩⟩, HS.out.2.2.2⟩
  case round =>
    obtain ⟨m, v, hm, rfl, h3, h1, h2, ho, hb⟩ := hrel
    have c1w : wr.cell? ⟨w.heap.size, 4, none⟩ = some (.slice ao k c) := blk_cell h1 4
    by_cases hlt : m < k
    · obtain ⟨g, hg, hrg⟩ := (Hr.out.still hb).at hlt
      have HrgG : Hid (∀ W, Below w.heap.size w W → W.rangeAt g (m * 3) [.int .i64 (ms.getD (m * 3) 0), .int .i64 (ms.getD (m * 3 + 1) 0), .int .i64 (ms.getD (m * 3 + 2) 0)]) := fun W hW => by
        obtain ⟨g', hg', hr'⟩ := (Hr.out.still hW).at hlt
        rw [hg] at hg'
        cases hg'
        exact hr'
      have hnx : ints (ms.take (3 * (m + 1))) = ints (ms.take (3 * m)) ++ [.int .i64 (ms.getD (m * 3) 0), .int .i64 (ms.getD (m * 3 + 1) 0), .int .i64 (ms.getD (m * 3 + 2) 0)] := by
        rw [show 3 * (m + 1) = 3 * m + 3 by omega, List.take_add]
        have e : (ms.drop (3 * m)).take 3 = [ms.getD (m * 3) 0, ms.getD (m * 3 + 1) 0, ms.getD (m * 3 + 2) 0] := by
          apply List.ext_getElem?
          intro i
          rw [List.getElem?_take]
          by_cases hi : i < 3
          · rw [if_pos hi, List.getElem?_drop]
            have hlen : 3 * m + i < ms.length := by omega
            rw [List.getElem?_eq_getElem hlen]
            match i, hi with
            | 0, _ => simp [List.getD, show m * 3 = 3 * m by omega, show 3 * m < ms.length by omega]
            | 1, _ => simp [List.getD, show m * 3 + 1 = 3 * m + 1 by omega, show 3 * m + 1 < ms.length by omega]
            | 2, _ => simp [List.getD, show m * 3 + 2 = 3 * m + 2 by omega, show 3 * m + 2 < ms.length by omega]
          · rw [if_neg hi, List.getElem?_eq_none (by simp; omega)]
        rw [e]
        simp [ints]
      generalize ms.getD (m * 3) 0 = x0 at HrgG hnx
      generalize ms.getD (m * 3 + 1) 0 = x1 at HrgG hnx
      generalize ms.getD (m * 3 + 2) 0 = x2 at HrgG hnx
      generalize hI : ints (ms.take (3 * m)) = I at ho hnx
      have HO : Hid (wr.ownsRow w.heap.size 92 3 v m I) := ho
      have HB : Hid (Below w.heap.size w wr) := hb
      have H3 : Hid (wr.heap[W2.heap.size]? = some (.cells [.int .i64 i0, .int .i64 i1, .int .i64 i2, .int .i64 i3, v].toArray 51 (0, 0))) := h3
      have H1 : Hid (wr.heap[w.heap.size]? = some (.cells [.int .i64 i0, .int .i64 i1, .int .i64 i2, .int .i64 i3, .slice ao k c].toArray 51 (0, 0))) := h1
      have H2 : Hid (wr.heap[W1.heap.size]? = some (.cells [.int .i64 0, .int .i64 0, .int .i64 0, .int .i64 0, .slice none 0 0].toArray 51 (0, 0))) := h2
      have Hao : Hid (ao = some ⟨g, 0, none⟩) := hg
      have Hrg : Hid (wr.rangeAt g (m * 3) [.int .i64 x0, .int .i64 x1, .int .i64 x2]) := HrgG.out wr hb
      have c3 : wr.cell? ⟨W2.heap.size, 4, none⟩ = some v := blk_cell h3 4
      have c1 : wr.cell? ⟨w.heap.size, 4, none⟩ = some (.slice (some ⟨g, 0, none⟩) k c) := by rw [← hg]; exact c1w
      rw [hg] at c1w
      have i1' : (0 : Int) ≤ (m : Int) := Int.natCast_nonneg _
      have i2' : (m : Int) < (k : Int) := by omega
      have Hnx : Hid (ints (ms.take (3 * (m + 1))) = I ++ [.int .i64 x0, .int .i64 x1, .int .i64 x2]) := hnx
      have d0 : wr.drew.cell? ⟨W2.heap.size, 4, none⟩ = some v := below_at (Below.refl _ _).drew c3
      have d1 : wr.drew.cell? ⟨w.heap.size, 4, none⟩ = some (.slice (some ⟨g, 0, none⟩) k c) := below_at (Below.refl _ _).drew c1
      have D2 : Hid (wr.drew.rangeAt g (m * 3) [.int .i64 x0, .int .i64 x1, .int .i64 x2]) := rng_below Hrg.out (Below.refl _ _).drew
      clear h3 h1 h2 ho hb hg hrg hnx
      go_wp2
      refine wp_region_held_drew (S := (fun w' => w'.cell? ⟨w.heap.size, 4, none⟩ = some (.slice (some ⟨g, 0, none⟩) k c) ∧ w'.rangeAt g (m * 3) [.int .i64 x0, .int .i64 x1, .int .i64 x2])) (by kernel_rfl) ⟨d1, D2.out⟩ (fun hHeld => ?_)
      simp only [Act.put, List.size_toArray, List.length_cons, List.length_nil, Nat.zero_add]
      refine tkI 0 (.pointer (some ⟨W2.heap.size, 4, none⟩)) rfl hHeld ?_
      simp only [Act.put, gA, gB, gC, gD, gE, gF]
      refine tkI 2 (.pointer (some ⟨w.heap.size, 4, none⟩)) rfl hHeld ?_
      simp only [Act.put, gA, gB, gC, gD, gE, gF]
      refine tkL 3 (.slice (some ⟨g, 0, none⟩) k c) rfl (fun w' hS => by (obtain ⟨s1, s2⟩ := hS; go_simp)) hHeld ?_
      simp only [Act.put, gA, gB, gC, gD, gE, gF]
      refine tkI 4 (.int .i64 (m : Int)) rfl hHeld ?_
      simp only [Act.put, gA, gB, gC, gD, gE, gF]
      refine tkL 5 (.pointer (some ⟨g, m * 3, none⟩)) rfl (fun w' hS => by (go_simp <;> first | omega | simp_all | (simp; omega))) hHeld ?_
      simp only [Act.put, gA, gB, gC, gD, gE, gF]
      refine wpAnyH_take (i := 6) (v := .agg ([.int .i64 x0, .int .i64 x1, .int .i64 x2]).toArray) rfl (by kernel_rfl) (by kernel_rfl) (by kernel_rfl) (fun _ _ _ h => h) (yieldsIf_load_mid (by rfl) 92 (.tmp 20) rfl g (m * 3) (by rfl) ([.int .i64 x0, .int .i64 x1, .int .i64 x2]) _ (fun w' hS => hS.2) Try.underlying92 rfl info_mem) hHeld ?_
      simp only [Act.put, gA, gB, gC, gD, gE, gF]
      refine wpAnyH_ready (rs := [1, 7]) (by kernel_rfl) (by simp) ?_
      refine AllReadyH.cons rfl (fun K hK => ?_) (AllReadyH.cons rfl (fun K hK => ?_) AllReadyH.nil)
      · go_simp
        refine hK.out _ _ ⟨d1, D2.out⟩ (fun hHeld => ?_)
        clear hK K
        refine wpAnyH_ready (rs := [7]) (by kernel_rfl) (by simp) ?_
        refine AllReadyH.cons rfl (fun K hK => ?_) AllReadyH.nil
        go_simp
        obtain ⟨X, hX⟩ : ∃ X, (wr.alloc (.cells [.int .i64 x0, .int .i64 x1, .int .i64 x2].toArray 92)).drew = X := ⟨_, rfl⟩
        have bX : Below wr.heap.size wr X := by rw [← hX]; exact (balloc (Below.refl _ _)).drew
        have kX : X.heap[wr.heap.size]? = some (.cells [.int .i64 x0, .int .i64 x1, .int .i64 x2].toArray 92 (0, 0)) := by rw [← hX]; exact heap_alloc_new wr _
        have HoX : Hid (X.ownsRow w.heap.size 92 3 v m I) := own_still HO.out bX
        have x3 : X.cell? ⟨W2.heap.size, 4, none⟩ = some v := below_at bX c3
        refine hK.out _ _ ⟨by rw [hX]; exact below_at bX c1, by rw [hX]; exact rng_below Hrg.out bX⟩ (fun hHeld => ?_)
        clear hK K
        rw [hX] at hHeld ⊢
        clear hX
        refine wpAnyH_ready (rs := [8]) (by kernel_rfl) (by simp) ?_
        refine AllReadyH.cons rfl (fun K hK => ?_) AllReadyH.nil
        have hsX := bX.size
        have hsw := HB.out.size
        refine step_append_lies _ (by rfl) _ _ 49 (by rfl) w.heap.size 92 j0 (.agg #[.int .i64 0, .int .i64 0, .int .i64 0]) 3 24 Try.underlying49 hj hy0 hy1 hy2 (by rfl) (by omega) v m I (by rfl) HoX.out ⟨wr.heap.size, 0, none⟩ 1 1 [.int .i64 x0, .int .i64 x1, .int .i64 x2] (by rfl) (by rfl) (fun j u hu => by rw [Addr.add_mid, Nat.zero_add, blk_cell kX, List.getElem?_toArray, hu]) (by simp [Value.oneCell']) (by omega) (by unfold maxLen; omega) (by omega) (by omega) _ (by rfl) ?_
        intro g3 cap3 Y hown3 hgrow3 hat3 hlt3
        have hk3X : X.heap[W2.heap.size]? = some (.cells [.int .i64 i0, .int .i64 i1, .int .i64 i2, .int .i64 i3, v].toArray 51 (0, 0)) := (bX.block _ (lt_heap H3.out)).trans H3.out
        have hk1X : X.heap[w.heap.size]? = some (.cells [.int .i64 i0, .int .i64 i1, .int .i64 i2, .int .i64 i3, .slice ao k c].toArray 51 (0, 0)) := (bX.block _ (lt_heap H1.out)).trans H1.out
        have hk2X : X.heap[W1.heap.size]? = some (.cells [.int .i64 0, .int .i64 0, .int .i64 0, .int .i64 0, .slice none 0 0].toArray 51 (0, 0)) := (bX.block _ (lt_heap H2.out)).trans H2.out
        have kg := Kept.ofGrown hgrow3
        have ne : ∀ kk (C : Array Value), X.heap[kk]? = some (.cells C 51 (0, 0)) → ¬ some kk = v.ownBlock := fun kk C hk e => own_ne HoX.out hk (by decide) kk e.symm rfl
        have hk3Y := kg.obj hk3X (ne _ _ hk3X)
        have hk1Y := kg.obj hk1X (ne _ _ hk1X)
        have hk2Y := kg.obj hk2X (ne _ _ hk2X)
        have BY : Below w.heap.size w Y := (bstep HB.out bX).grown hgrow3 (by omega) (fun q hq => (World.ownsRow.lt HoX.out q hq).1)
        have y4 : Y.cell? ⟨W2.heap.size, 4, none⟩ = some v := blk_cell hk3Y 4
        have yz : Y.frozen? ⟨W2.heap.size, 4, none⟩ = false := frozen_of_row Y _ _ _ _ hk3Y
        have y1 : Y.cell? ⟨w.heap.size, 4, none⟩ = some (.slice (some ⟨g, 0, none⟩) k c) := by rw [← Hao.out]; exact blk_cell hk1Y 4
        refine hK.out _ _ ⟨y1, HrgG.out Y BY⟩ (fun hHeld => ?_)
        clear hK K
        refine tkI 9 (.pointer (some ⟨W2.heap.size, 4, none⟩)) rfl hHeld ?_
        simp only [Act.put, gA, gB, gC, gD, gE, gF]
        refine wpAnyH_ready (rs := [10]) (by kernel_rfl) (by simp) ?_
        refine AllReadyH.cons rfl (fun K hK => ?_) AllReadyH.nil
        obtain ⟨Z, hZ⟩ : ∃ Z, Y.setCell ⟨W2.heap.size, 4, none⟩ (.slice (some ⟨g3, 0, none⟩) (m + 1) cap3) = Z := ⟨_, rfl⟩
        have kz : Kept Y Z (fun j => j = W2.heap.size) := by rw [← hZ]; exact kset Y _ _ _ rfl
        have z3 : Z.heap[W2.heap.size]? = some (.cells [.int .i64 i0, .int .i64 i1, .int .i64 i2, .int .i64 i3, .slice (some ⟨g3, 0, none⟩) (m + 1) cap3].toArray 51 (0, 0)) := by rw [← hZ]; exact blk_set hk3Y rfl
        have BZ : Below w.heap.size w Z := BY.trans (kz.below BY.size (fun kk hk e => by omega))
        have z1 := kz.obj hk1Y (fun e => by omega)
        have z2 := kz.obj hk2Y (fun e => by omega)
        have oZ := kz.owns hown3 (own_ne hown3 hk3Y (by decide))
        have HE : Hid (∃ (m_1 : Nat) (v : Value), m_1 ≤ k ∧ Value.int .i64 ((m : Int) + 1) = .int .i64 (m_1 : Int) ∧ (Z.heap[W2.heap.size]? = some (.cells [.int .i64 i0, .int .i64 i1, .int .i64 i2, .int .i64 i3, v].toArray 51 (0, 0))) ∧ (Z.heap[w.heap.size]? = some (.cells [.int .i64 i0, .int .i64 i1, .int .i64 i2, .int .i64 i3, .slice ao k c].toArray 51 (0, 0))) ∧ (Z.heap[W1.heap.size]? = some (.cells [.int .i64 0, .int .i64 0, .int .i64 0, .int .i64 0, .slice none 0 0].toArray 51 (0, 0))) ∧ Z.ownsRow w.heap.size 92 3 v m_1 (ints (ms.take (3 * m_1))) ∧ Below w.heap.size w Z) := ⟨m + 1, _, by omega, by simp, z3, z1, z2, by rw [Hnx.out]; exact oZ, BZ⟩
        have u1 : Z.cell? ⟨w.heap.size, 4, none⟩ = some (.slice (some ⟨g, 0, none⟩) k c) := by rw [← Hao.out]; exact blk_cell z1 4
        have u2 : Hid (Z.rangeAt g (m * 3) [.int .i64 x0, .int .i64 x1, .int .i64 x2]) := HrgG.out Z BZ
        clear hown3 hgrow3 hat3 hlt3 hk3X hk1X hk2X kg ne hk3Y hk1Y hk2Y BY kz z3 BZ z1 z2 oZ kX bX
        go_simp
        refine hK.out _ _ ⟨u1, u2.out⟩ (fun hHeld => ?_)
        clear hK K
        refine wpAnyH_done (by kernel_rfl) ?_ _
        clear hHeld u1 u2 hZ y4 yz y1 x3 c3 c1 d0 d1
        go_wp2
        first
          | exact ⟨HE.out, by simp [intOf]; omega⟩
          | (go_roundw
             case rel => exact HE.out
             case measure => simp [intOf]; omega)
      · skip
        go_simp
        obtain ⟨X, hX⟩ : ∃ X, (wr.alloc (.cells [.int .i64 x0, .int .i64 x1, .int .i64 x2].toArray 92)).drew = X := ⟨_, rfl⟩
        have bX : Below wr.heap.size wr X := by rw [← hX]; exact (balloc (Below.refl _ _)).drew
        have kX : X.heap[wr.heap.size]? = some (.cells [.int .i64 x0, .int .i64 x1, .int .i64 x2].toArray 92 (0, 0)) := by rw [← hX]; exact heap_alloc_new wr _
        have HoX : Hid (X.ownsRow w.heap.size 92 3 v m I) := own_still HO.out bX
        have x3 : X.cell? ⟨W2.heap.size, 4, none⟩ = some v := below_at bX c3
        refine hK.out _ _ ⟨by rw [hX]; exact below_at bX c1, by rw [hX]; exact rng_below Hrg.out bX⟩ (fun hHeld => ?_)
        clear hK K
        rw [hX] at hHeld ⊢
        clear hX
        refine wpAnyH_ready (rs := [1]) (by kernel_rfl) (by simp) ?_
        refine AllReadyH.cons rfl (fun K hK => ?_) AllReadyH.nil
        go_simp
        refine hK.out _ _ ⟨below_at bX c1, rng_below Hrg.out bX⟩ (fun hHeld => ?_)
        clear hK K
        refine wpAnyH_ready (rs := [8]) (by kernel_rfl) (by simp) ?_
        refine AllReadyH.cons rfl (fun K hK => ?_) AllReadyH.nil
        have hsX := bX.size
        have hsw := HB.out.size
        refine step_append_lies _ (by rfl) _ _ 49 (by rfl) w.heap.size 92 j0 (.agg #[.int .i64 0, .int .i64 0, .int .i64 0]) 3 24 Try.underlying49 hj hy0 hy1 hy2 (by rfl) (by omega) v m I (by rfl) HoX.out ⟨wr.heap.size, 0, none⟩ 1 1 [.int .i64 x0, .int .i64 x1, .int .i64 x2] (by rfl) (by rfl) (fun j u hu => by rw [Addr.add_mid, Nat.zero_add, blk_cell kX, List.getElem?_toArray, hu]) (by simp [Value.oneCell']) (by omega) (by unfold maxLen; omega) (by omega) (by omega) _ (by rfl) ?_
        intro g3 cap3 Y hown3 hgrow3 hat3 hlt3
        have hk3X : X.heap[W2.heap.size]? = some (.cells [.int .i64 i0, .int .i64 i1, .int .i64 i2, .int .i64 i3, v].toArray 51 (0, 0)) := (bX.block _ (lt_heap H3.out)).trans H3.out
        have hk1X : X.heap[w.heap.size]? = some (.cells [.int .i64 i0, .int .i64 i1, .int .i64 i2, .int .i64 i3, .slice ao k c].toArray 51 (0, 0)) := (bX.block _ (lt_heap H1.out)).trans H1.out
        have hk2X : X.heap[W1.heap.size]? = some (.cells [.int .i64 0, .int .i64 0, .int .i64 0, .int .i64 0, .slice none 0 0].toArray 51 (0, 0)) := (bX.block _ (lt_heap H2.out)).trans H2.out
        have kg := Kept.ofGrown hgrow3
        have ne : ∀ kk (C : Array Value), X.heap[kk]? = some (.cells C 51 (0, 0)) → ¬ some kk = v.ownBlock := fun kk C hk e => own_ne HoX.out hk (by decide) kk e.symm rfl
        have hk3Y := kg.obj hk3X (ne _ _ hk3X)
        have hk1Y := kg.obj hk1X (ne _ _ hk1X)
        have hk2Y := kg.obj hk2X (ne _ _ hk2X)
        have BY : Below w.heap.size w Y := (bstep HB.out bX).grown hgrow3 (by omega) (fun q hq => (World.ownsRow.lt HoX.out q hq).1)
        have y4 : Y.cell? ⟨W2.heap.size, 4, none⟩ = some v := blk_cell hk3Y 4
        have yz : Y.frozen? ⟨W2.heap.size, 4, none⟩ = false := frozen_of_row Y _ _ _ _ hk3Y
        have y1 : Y.cell? ⟨w.heap.size, 4, none⟩ = some (.slice (some ⟨g, 0, none⟩) k c) := by rw [← Hao.out]; exact blk_cell hk1Y 4
        refine hK.out _ _ ⟨y1, HrgG.out Y BY⟩ (fun hHeld => ?_)
        clear hK K
        refine tkI 9 (.pointer (some ⟨W2.heap.size, 4, none⟩)) rfl hHeld ?_
        simp only [Act.put, gA, gB, gC, gD, gE, gF]
        refine wpAnyH_ready (rs := [10]) (by kernel_rfl) (by simp) ?_
        refine AllReadyH.cons rfl (fun K hK => ?_) AllReadyH.nil
        obtain ⟨Z, hZ⟩ : ∃ Z, Y.setCell ⟨W2.heap.size, 4, none⟩ (.slice (some ⟨g3, 0, none⟩) (m + 1) cap3) = Z := ⟨_, rfl⟩
        have kz : Kept Y Z (fun j => j = W2.heap.size) := by rw [← hZ]; exact kset Y _ _ _ rfl
        have z3 : Z.heap[W2.heap.size]? = some (.cells [.int .i64 i0, .int .i64 i1, .int .i64 i2, .int .i64 i3, .slice (some ⟨g3, 0, none⟩) (m + 1) cap3].toArray 51 (0, 0)) := by rw [← hZ]; exact blk_set hk3Y rfl
        have BZ : Below w.heap.size w Z := BY.trans (kz.below BY.size (fun kk hk e => by omega))
        have z1 := kz.obj hk1Y (fun e => by omega)
        have z2 := kz.obj hk2Y (fun e => by omega)
        have oZ := kz.owns hown3 (own_ne hown3 hk3Y (by decide))
        have HE : Hid (∃ (m_1 : Nat) (v : Value), m_1 ≤ k ∧ Value.int .i64 ((m : Int) + 1) = .int .i64 (m_1 : Int) ∧ (Z.heap[W2.heap.size]? = some (.cells [.int .i64 i0, .int .i64 i1, .int .i64 i2, .int .i64 i3, v].toArray 51 (0, 0))) ∧ (Z.heap[w.heap.size]? = some (.cells [.int .i64 i0, .int .i64 i1, .int .i64 i2, .int .i64 i3, .slice ao k c].toArray 51 (0, 0))) ∧ (Z.heap[W1.heap.size]? = some (.cells [.int .i64 0, .int .i64 0, .int .i64 0, .int .i64 0, .slice none 0 0].toArray 51 (0, 0))) ∧ Z.ownsRow w.heap.size 92 3 v m_1 (ints (ms.take (3 * m_1))) ∧ Below w.heap.size w Z) := ⟨m + 1, _, by omega, by simp, z3, z1, z2, by rw [Hnx.out]; exact oZ, BZ⟩
        have u1 : Z.cell? ⟨w.heap.size, 4, none⟩ = some (.slice (some ⟨g, 0, none⟩) k c) := by rw [← Hao.out]; exact blk_cell z1 4
        have u2 : Hid (Z.rangeAt g (m * 3) [.int .i64 x0, .int .i64 x1, .int .i64 x2]) := HrgG.out Z BZ
        clear hown3 hgrow3 hat3 hlt3 hk3X hk1X hk2X kg ne hk3Y hk1Y hk2Y BY kz z3 BZ z1 z2 oZ kX bX
        go_simp
        refine hK.out _ _ ⟨u1, u2.out⟩ (fun hHeld => ?_)
        clear hK K
        refine wpAnyH_done (by kernel_rfl) ?_ _
        clear hHeld u1 u2 hZ y4 yz y1 x3 c3 c1 d0 d1
        go_wp2
        first
          | exact ⟨HE.out, by simp [intOf]; omega⟩
          | (go_roundw
             case rel => exact HE.out
             case measure => simp [intOf]; omega)
    · obtain rfl : m = k := by omega
      rw [List.take_of_length_le (by omega)] at ho
      obtain ⟨a2, q2, rfl⟩ := own_slice ho
      have j2 : decide ((m : Int) < (m : Int)) = false := decide_eq_false (by omega)
      have RF : Hid (wr.rangeAt W2.heap.size 0 [.int .i64 i0, .int .i64 i1, .int .i64 i2, .int .i64 i3, .slice a2 m q2]) := blk_range h3
      have TF : Hid (wr.there W1.heap.size 0 5) := blk_there h2 rfl
      generalize hF : wr.setCells W1.heap.size 0 [.int .i64 i0, .int .i64 i1, .int .i64 i2, .int .i64 i3, .slice a2 m q2] = F
      have kF : Kept wr F (fun j => j = W1.heap.size) := by rw [← hF]; exact ksets (P := fun j => j = W1.heap.size) (b := W1.heap.size) rfl _ 0 wr
      have f2 : F.heap[W1.heap.size]? = some (.cells [.int .i64 i0, .int .i64 i1, .int .i64 i2, .int .i64 i3, .slice a2 m q2].toArray 51 (0, 0)) := by rw [← hF]; exact sets_whole h2 rfl
      have HFin : Hid (∃ a2' c2', (Ending.returned (.agg [.int .i64 i0, .int .i64 i1, .int .i64 i2, .int .i64 i3, .slice a2 m q2].toArray)) = .returned (.agg [.int .i64 i0, .int .i64 i1, .int .i64 i2, .int .i64 i3, .slice a2' m c2'].toArray) ∧ F.ownsRow w.heap.size 92 3 (.slice a2' m c2') m (ints ms) ∧ Below w.heap.size w F) := ⟨a2, q2, rfl, kF.owns ho (own_ne ho h2 (by decide)), hb.trans (kF.below hb.size (fun kk hk e => by omega))⟩
      clear ho hb h1 h2 h3 kF
      go_wp2_with (first
        | (refine load_mid 51 (.tmp 3) RF.out _ Try.underlying51 rfl (by kernel_rfl) rfl rfl rfl ?_)
        | (refine store_midL 51 (.tmp 2) (.tmp 25) (L := [.int .i64 i0, .int .i64 i1, .int .i64 i2, .int .i64 i3, .slice a2 m q2]) TF.out info_view (by simp [Value.oneCell']) rfl rfl rfl rfl ?_; rw [hF])
        | fail)
      (try simp only [Exit.inBlock, Exit.then])
      refine bodyPost_ret (v := .agg [.int .i64 i0, .int .i64 i1, .int .i64 i2, .int .i64 i3, .slice a2 m q2].toArray) ?_ ?_ ?_
      · exact results_cell_row rfl _ _ W1.heap.size 51 _ (0, 0) _ rfl f2 Try.underlying51 rfl (by kernel_rfl)
      · rfl
      · exact HFin.out
end
end Go.Proofs.Ytbdefhagpgpoiac.Mb
