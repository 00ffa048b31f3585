import Derived.Test.YtbdefhagpgpoiacQ00
import Derived.Test.YtbdefhagpgpoiacQ39
namespace Go.Proofs.Ytbdefhagpgpoiac.Mb
open Go.RowKit
set_option linter.unusedVariables false
set_option maxRecDepth 100000
set_option linter.unusedSimpArgs false
section
variable {A A' : Ag} {w w' W : World} {B : Nat} {T : Int} {R R' : Rg}
theorem msN_first (R : Rg) (k : Nat) (hp : 0 < (R.mi k).length) : ∃ rest, R.msN k = (((R.mi k).getD 0 0 : Nat) : Int) :: R.own.ss.getD ((R.mi k).getD 0 0) 0 :: R.own.vs.getD ((R.mi k).getD 0 0) 0 :: rest := by
  unfold Rg.msN
  cases h : R.mi k with
  | nil => rw [h] at hp; simp at hp
  | cons x xs => exact ⟨_, by simp; rfl⟩
theorem ragP_lat (h : R.ragr = true) {q : Nat} (hq : q < R.n) (hi : R.inS q = true) (hs : q ≠ R.self) : ∃ j, lat R.all q = some j := by
  unfold Rg.ragr at h
  have := List.all_eq_true.1 (Bool.and_eq_true_iff.1 h).2 q (List.mem_range.2 hq)
  unfold Rg.ragP at this
  unfold Rg.inS at hi
  rw [decide_eq_false (by simpa using hi), decide_eq_false hs] at this
  cases hl : lat R.all q with
  | some j => exact ⟨j, rfl⟩
  | none => rw [hl] at this; simp at this
set_option maxHeartbeats 16000000 in
theorem ragreed_yes (h : R.Ok w B) (hL : R.all.length ≤ 1000000000000) (hl : R.Hlat) (hg : R.ragr = true) (hs : R.own.ss.getD R.self 0 ≠ 0) (ht : 0 ≤ R.tpN R.n ∧ R.tpN R.n ≤ 4611686018427387904) : Calls Try.prog 23 #[.pointer (some ⟨R.b, 0, none⟩)] w fun e w' => ∃ g' c' v', e = .returned (.tuple #[.agg [.int .i64 (R.tpN R.n + 1), .int .i64 (((R.mi R.n).getD 0 0 : Nat) : Int), .int .i64 (R.own.ss.getD ((R.mi R.n).getD 0 0) 0), .int .i64 (R.own.vs.getD ((R.mi R.n).getD 0 0) 0), .slice (some ⟨g', 0, none⟩) (R.mi R.n).length c'].toArray, v', .bool true]) ∧ w'.ownsRow w.heap.size 92 3 (.slice (some ⟨g', 0, none⟩) (R.mi R.n).length c') (R.mi R.n).length (ints (R.msN R.n)) ∧ w'.ownsRow w.heap.size 3 1 v' (R.trN R.n).length (ints (R.trN R.n)) ∧ Below w.heap.size w w' := by
  obtain ⟨j0, hj, hy0, hy1, hy2⟩ := info_parts info_m
  obtain ⟨i0, hi, hz0, hz1, hz2⟩ := info_parts info_i
  have h16 := h.n16
  have hpos : 0 < (R.mi R.n).length := List.length_pos_of_mem (List.mem_filter.2 ⟨List.mem_range.2 h16.2.2, by unfold Rg.inS; simpa using hs⟩)
  obtain ⟨b0, b1, b2, b3, hop⟩ := list4e R.own.prev h.pl
  have Hop : Hid (R.own.prev = [b0, b1, b2, b3]) := hop
  have H13 : Hid (∀ W, Below w.heap.size w W → W.rangeAt R.b 13 [.int .i64 b0, .int .i64 b1, .int .i64 b2, .int .i64 b3]) := fun W hW => range_sub (h.still hW).blk (by unfold Rg.cs; rw [hop]; rfl)
  generalize hW1 : w.alloc (.cells [.int .i64 0, .int .i64 0, .int .i64 0, .int .i64 0, .slice none 0 0].toArray 51) = W1
  have b1' : Below w.heap.size w W1 := hW1 ▸ balloc (Below.refl _ _)
  have k1 : W1.heap[w.heap.size]? = some (.cells [.int .i64 0, .int .i64 0, .int .i64 0, .int .i64 0, .slice none 0 0].toArray 51 (0, 0)) := by rw [← hW1]; exact heap_alloc_new w _
  have HI : Hid (Calls Try.prog 49 #[.pointer (some ⟨R.b, 0, none⟩)] W1 fun e w' => e = .returned (.bool true) ∧ Below W1.heap.size W1 w') := hg ▸ ragreement_any (h.still b1') hL hl
  have HK : Hid (W1.heap[w.heap.size]? = some (.cells [.int .i64 0, .int .i64 0, .int .i64 0, .int .i64 0, .slice none 0 0].toArray 51 (0, 0))) := k1
  have HB1 : Hid (Below w.heap.size w W1) := b1'
  have hs1 : w.heap.size < W1.heap.size := lt_heap k1
  have Hh : Hid (R.Ok w B) := h
  have HLK : Hid (∀ q, q < R.n → R.inS q = true → q ≠ R.self → ∃ j, lat R.all q = some j) := fun q hq hi hne => ragP_lat hg hq hi hne
  have c1w : w.cell? ⟨R.b, 1, none⟩ = some (.int .i64 (R.self : Int)) := h.cself
  simp only [List.toArray] at hW1
  clear h b1' k1 hop hl hg hs
  go_enter Try.func23, Try.ntmps23
  go_wp2_with (fail)
  refine HI.out.mono ?_
  rintro e W2 ⟨rfl, hb2⟩
  have HB2 : Hid (Below w.heap.size w W2) := bstep HB1.out hb2
  have k2 := (hb2.block _ (lt_heap HK.out)).trans HK.out
  generalize hZ3 : W2.alloc (.cells [.int .i64 0, .int .i64 0, .int .i64 0, .int .i64 0, .slice none 0 0].toArray 51) = Z3
  have bz3 : Below W2.heap.size W2 Z3 := by rw [← hZ3]; exact balloc (Below.refl _ _)
  have kz3 : Z3.heap[W2.heap.size]? = some (.cells [.int .i64 0, .int .i64 0, .int .i64 0, .int .i64 0, .slice none 0 0].toArray 51 (0, 0)) := by rw [← hZ3]; exact heap_alloc_new W2 _
  have TZ : Hid (Z3.there W2.heap.size 0 5) := blk_there kz3 rfl
  generalize hW3 : Z3.setCells W2.heap.size 0 [.int .i64 0, .int .i64 0, .int .i64 0, .int .i64 0, .slice none 0 0] = W3
  have b3' : Below W2.heap.size W2 W3 := by rw [← hW3]; exact bsets (Nat.le_refl _) _ 0 bz3
  have k3 : W3.heap[W2.heap.size]? = some (.cells [.int .i64 0, .int .i64 0, .int .i64 0, .int .i64 0, .slice none 0 0].toArray 51 (0, 0)) := by rw [← hW3]; exact sets_whole kz3 rfl
  have hs2 : w.heap.size < W2.heap.size := Nat.lt_of_lt_of_le hs1 hb2.size
  have HS0 : Hid (AS R w W3 w.heap.size W2.heap.size 0 0 (.slice none 0 0) (.slice none 0 0)) := ⟨k3, (b3'.block _ (lt_heap k2)).trans k2, row_nil _ _ _ _, row_nil _ _ _ _, bstep HB2.out b3'⟩
  have c12 : W3.cell? ⟨R.b, 12, none⟩ = some (.int .i64 R.own.top) := (Hh.out.still HS0.out.bl).c 12
  simp only [List.toArray] at hZ3
  clear hb2 k2 b3' k3 HI HK HB1 bz3 kz3
  go_wp2_with (first
    | (refine store_midL 51 (.tmp 6) (.tmp 19) (L := [.int .i64 0, .int .i64 0, .int .i64 0, .int .i64 0, .slice none 0 0]) TZ.out info_view (by simp [Value.oneCell']) rfl rfl rfl rfl ?_; rw [hW3])
    | fail)
  clear hW1 hW3 c12 hZ3 TZ
  go_loopw [7, 8, 9] (fun v7 v8 v9 wr => ∃ (k : Nat) (v : Value), k ≤ R.n ∧ v9 = .int .i64 (k : Int) ∧ v8 = .int .i64 (R.tpN k) ∧ AS R w wr w.heap.size W2.heap.size k k v v7) (fun _ _ v9 _ => R.n - (intOf v9).toNat)
  case atStart => exact ⟨0, _, Nat.zero_le _, rfl, rfl, HS0.out⟩
  case round =>
    obtain ⟨k, v, hk, rfl, rfl, has⟩ := hrel
    clear HS0
    have hR := Hh.out.still has.bl
    have x0 := hR.cn
    by_cases hlt : k < R.n
    · have x1 := hR.cself
      have x9 : wr.cell? ⟨R.b, 9, none⟩ = some (.slice R.own.sa R.own.sn R.own.sc) := hR.c 9
      have x17 : wr.cell? ⟨R.b, 17, none⟩ = some (.slice R.own.va R.own.vn R.own.vc) := hR.c 17
      have hsn := hR.sn
      obtain ⟨gs, os, hgs, es⟩ := hR.os.rd.at (i := k) (by omega)
      obtain ⟨gv, ov, hgv, ev⟩ := hR.ov.rd.at (i := k) (by omega)
      have HS : Hid (∀ W, Below w.heap.size w W → W.cell? ⟨R.b, 9, none⟩ = some (.slice (some ⟨gs, os, none⟩) R.n R.own.sc) ∧ W.cell? ⟨gs, os + k, none⟩ = some (.int .i64 (R.own.ss.getD k 0)) ∧ W.cell? ⟨R.b, 17, none⟩ = some (.slice (some ⟨gv, ov, none⟩) R.n R.own.vc) ∧ W.cell? ⟨gv, ov + k, none⟩ = some (.int .i64 (R.own.vs.getD k 0))) := fun W hW => by
        have hRW := Hh.out.still hW
        obtain ⟨gs', os', hgs', es'⟩ := hRW.os.rd.at (i := k) (by omega)
        obtain ⟨gv', ov', hgv', ev'⟩ := hRW.ov.rd.at (i := k) (by omega)
        rw [hgs] at hgs'
        rw [hgv] at hgv'
        cases hgs'
        cases hgv'
        have q9 : W.cell? ⟨R.b, 9, none⟩ = some (.slice R.own.sa R.own.sn R.own.sc) := hRW.c 9
        have q17 : W.cell? ⟨R.b, 17, none⟩ = some (.slice R.own.va R.own.vn R.own.vc) := hRW.c 17
        rw [hgs, hsn.1] at q9
        rw [hgv, hsn.2] at q17
        exact ⟨q9, es', q17, ev'⟩
      rw [hgs, hsn.1] at x9
      rw [hgv, hsn.2] at x17
      have i1 : (0 : Int) ≤ (k : Int) := Int.natCast_nonneg _
      have i2 : (k : Int) < (R.n : Int) := by omega
      have HTp0 := R.tpN_next k
      generalize R.tpN k = tp at HTp0
      have HTp0 : Hid (R.tpN (k + 1) = R.tpS tp k) := HTp0
      have hinS : R.inS k = (R.own.ss.getD k 0 != 0) := rfl
      obtain ⟨sx, hsx⟩ : ∃ sx, R.own.ss.getD k 0 = sx := ⟨_, rfl⟩
      obtain ⟨vx, hvx⟩ : ∃ vx, R.own.vs.getD k 0 = vx := ⟨_, rfl⟩
      rw [hsx] at es HS hinS
      rw [hvx] at ev HS
      have Hsx : Hid (R.own.ss.getD k 0 = sx) := hsx
      have Hvx : Hid (R.own.vs.getD k 0 = vx) := hvx
      have Has : Hid (AS R w wr w.heap.size W2.heap.size k k v u7) := has
      have hml := R.mi_len k
      clear hR hgs hgv hsx hvx hsn has
      by_cases g0 : sx = 0
      · subst g0
        have hin : R.inS k = false := by rw [hinS]; rfl
        have HE : Hid (∃ (k_1 : Nat) (v : Value), k_1 ≤ R.n ∧ Value.int .i64 ((k : Int) + 1) = .int .i64 (k_1 : Int) ∧ Value.int .i64 tp = .int .i64 (R.tpN k_1) ∧ AS R w wr w.heap.size W2.heap.size k_1 k_1 v u7) := ⟨k + 1, _, by omega, by simp, by rw [HTp0.out]; unfold Rg.tpS; rw [hin]; rfl, (Has.out.skipM hin).skipT (by rw [hin, Bool.false_and])⟩
        clear x1 x17 hinS hin HS ev HTp0
        go_wp2
        first
          | exact ⟨HE.out, by simp [intOf]; omega⟩
          | (go_roundw
             case rel => exact HE.out
             case measure => simp [intOf]; omega)
      · have g0' : (sx == 0) = false := by simpa using g0
        have HinS : Hid (R.inS k = true) := by show _ = _; rw [hinS]; simpa using g0
        have HLk : Hid (k ≠ R.self → ∃ j, lat R.all k = some j) := HLK.out k hlt HinS.out
        obtain ⟨d9, ds, d17, dv⟩ := HS.out wr.drew (bstep Has.out.bl (Below.refl _ _).drew)
        have d6 : wr.drew.cell? ⟨W2.heap.size, 4, none⟩ = some v := blk_cell (Has.out.still (Below.refl _ _).drew).b6 4
        clear g0 hinS x17
        go_wp2
        refine wp_region_held_drew (S := (fun w' => w'.cell? ⟨R.b, 9, none⟩ = some (.slice (some ⟨gs, os, none⟩) R.n R.own.sc) ∧ w'.cell? ⟨gs, os + k, none⟩ = some (.int .i64 sx) ∧ w'.cell? ⟨R.b, 17, none⟩ = some (.slice (some ⟨gv, ov, none⟩) R.n R.own.vc) ∧ w'.cell? ⟨gv, ov + k, none⟩ = some (.int .i64 vx))) (by kernel_rfl) ⟨d9, ds, d17, dv⟩ (fun hHeld => ?_)
        simp only [Act.put, List.size_toArray, List.length_cons, List.length_nil, Nat.zero_add]
        refine tkI 0 (.pointer (some ⟨W2.heap.size, 4, none⟩)) rfl hHeld ?_
        simp only [Act.put, gA, gB, gC, gD, gE, gF]
        refine tkI 2 (.int .i64 (k : Int)) rfl hHeld ?_
        simp only [Act.put, gA, gB, gC, gD, gE, gF]
        refine tkI 3 (.pointer (some ⟨R.b, 0, none⟩)) rfl hHeld ?_
        simp only [Act.put, gA, gB, gC, gD, gE, gF]
        refine tkI 4 (.pointer (some ⟨R.b, 0, none⟩)) rfl hHeld ?_
        simp only [Act.put, gA, gB, gC, gD, gE, gF]
        refine tkI 5 (.pointer (some ⟨R.b, 9, none⟩)) rfl hHeld ?_
        simp only [Act.put, gA, gB, gC, gD, gE, gF]
        refine tkI 6 (.pointer (some ⟨R.b, 9, none⟩)) rfl hHeld ?_
        simp only [Act.put, gA, gB, gC, gD, gE, gF]
        refine tkL 7 (.slice (some ⟨gs, os, none⟩) R.n R.own.sc) rfl (fun w' hS => by (obtain ⟨s0, s1, s2, s3⟩ := hS; go_simp)) hHeld ?_
        simp only [Act.put, gA, gB, gC, gD, gE, gF]
        refine tkI 8 (.int .i64 (k : Int)) rfl hHeld ?_
        simp only [Act.put, gA, gB, gC, gD, gE, gF]
        refine tkL 9 (.pointer (some ⟨gs, os + k, none⟩)) rfl (fun w' hS => by (go_simp <;> first | omega | simp_all | (simp; omega))) hHeld ?_
        simp only [Act.put, gA, gB, gC, gD, gE, gF]
        refine tkL 10 (.int .i64 sx) rfl (fun w' hS => by (obtain ⟨s0, s1, s2, s3⟩ := hS; go_simp)) hHeld ?_
        simp only [Act.put, gA, gB, gC, gD, gE, gF]
        refine tkI 11 (.pointer (some ⟨R.b, 0, none⟩)) rfl hHeld ?_
        simp only [Act.put, gA, gB, gC, gD, gE, gF]
        refine tkI 12 (.pointer (some ⟨R.b, 0, none⟩)) rfl hHeld ?_
        simp only [Act.put, gA, gB, gC, gD, gE, gF]
        refine tkI 13 (.pointer (some ⟨R.b, 9, none⟩)) rfl hHeld ?_
        simp only [Act.put, gA, gB, gC, gD, gE, gF]
        refine tkI 14 (.pointer (some ⟨R.b, 17, none⟩)) rfl hHeld ?_
        simp only [Act.put, gA, gB, gC, gD, gE, gF]
        refine tkL 15 (.slice (some ⟨gv, ov, none⟩) R.n R.own.vc) rfl (fun w' hS => by (obtain ⟨s0, s1, s2, s3⟩ := hS; go_simp)) hHeld ?_
        simp only [Act.put, gA, gB, gC, gD, gE, gF]
        refine tkI 16 (.int .i64 (k : Int)) rfl hHeld ?_
        simp only [Act.put, gA, gB, gC, gD, gE, gF]
        refine tkL 17 (.pointer (some ⟨gv, ov + k, none⟩)) rfl (fun w' hS => by (go_simp <;> first | omega | simp_all | (simp; omega))) hHeld ?_
        simp only [Act.put, gA, gB, gC, gD, gE, gF]
        refine tkL 18 (.int .i64 vx) rfl (fun w' hS => by (obtain ⟨s0, s1, s2, s3⟩ := hS; go_simp)) hHeld ?_
        simp only [Act.put, gA, gB, gC, gD, gE, gF]
        refine tkL 19 (.agg [.int .i64 (k : Int), .int .i64 sx, .int .i64 vx].toArray) rfl (fun w' hS => run_buildop 92 _ rfl _ (by kernel_rfl)) hHeld ?_
        simp only [Act.put, gA, gB, gC, gD, gE, gF]
        refine wpAnyH_ready (rs := [1, 20]) (by kernel_rfl) (by simp) ?_
        refine AllReadyH.cons rfl (fun K hK => ?_) (AllReadyH.cons rfl (fun K hK => ?_) AllReadyH.nil)
        · go_simp
          refine hK.out _ _ (HS.out _ (bstep Has.out.bl (Below.refl _ _).drew)) (fun hHeld => ?_)
          clear hK K
          refine wpAnyH_ready (rs := [20]) (by kernel_rfl) (by simp) ?_
          refine AllReadyH.cons rfl (fun K hK => ?_) AllReadyH.nil
          go_simp
          obtain ⟨X, hX⟩ : ∃ X, (wr.alloc (.cells [.int .i64 (k : Int), .int .i64 sx, .int .i64 vx].toArray 92)).drew = X := ⟨_, rfl⟩
          have bX : Below wr.heap.size wr X := by rw [← hX]; exact (balloc (Below.refl _ _)).drew
          have kX : X.heap[wr.heap.size]? = some (.cells [.int .i64 (k : Int), .int .i64 sx, .int .i64 vx].toArray 92 (0, 0)) := by rw [← hX]; exact heap_alloc_new wr _
          have asX := Has.out.still bX
          refine hK.out _ _ (by rw [hX]; exact HS.out X asX.bl) (fun hHeld => ?_)
          clear hK K
          rw [hX] at hHeld ⊢
          clear hX
          refine wpAnyH_ready (rs := [21]) (by kernel_rfl) (by simp) ?_
          refine AllReadyH.cons rfl (fun K hK => ?_) AllReadyH.nil
          have hsw := asX.bl.size
          refine step_append_lies _ (by rfl) _ _ 49 (by rfl) w.heap.size 92 j0 (.agg #[.int .i64 0, .int .i64 0, .int .i64 0]) 3 24 Try.underlying49 hj hy0 hy1 hy2 (by rfl) (by omega) v (R.mi k).length (ints (R.msN k)) (by rfl) asX.om ⟨wr.heap.size, 0, none⟩ 1 1 [.int .i64 (k : Int), .int .i64 sx, .int .i64 vx] (by rfl) (by rfl) (fun j u hu => by rw [Addr.add_mid, Nat.zero_add, blk_cell kX, List.getElem?_toArray, hu]) (by simp [Value.oneCell']) (by omega) (by unfold maxLen; omega) (by omega) (by omega) _ (by rfl) ?_
          intro g3 cap3 Y hown3 hgrow3 hat3 hlt3
          obtain ⟨y4, yz, BY, hasZ⟩ := asX.putM (by omega) (by omega) HinS.out (by rw [Hsx.out, Hvx.out]; exact hown3) hgrow3
          refine hK.out _ _ (HS.out Y BY) (fun hHeld => ?_)
          clear hK K
          refine tkI 22 (.pointer (some ⟨W2.heap.size, 4, none⟩)) rfl hHeld ?_
          simp only [Act.put, gA, gB, gC, gD, gE, gF]
          refine wpAnyH_ready (rs := [23]) (by kernel_rfl) (by simp) ?_
          refine AllReadyH.cons rfl (fun K hK => ?_) AllReadyH.nil
          obtain ⟨Z, hZ⟩ : ∃ Z, Y.setCell ⟨W2.heap.size, 4, none⟩ (.slice (some ⟨g3, 0, none⟩) ((R.mi k).length + 1) cap3) = Z := ⟨_, rfl⟩
          rw [hZ] at hasZ
          go_simp
          refine hK.out _ _ (HS.out Z hasZ.bl) (fun hHeld => ?_)
          clear hK K
          refine wpAnyH_done (by kernel_rfl) ?_ _
          obtain ⟨vN, hvN⟩ : ∃ vN, Value.slice (some ⟨g3, 0, none⟩) ((R.mi k).length + 1) cap3 = vN := ⟨_, rfl⟩
          rw [hvN] at hasZ
          clear hown3 hgrow3 hat3 hlt3 y4 yz BY kX bX asX d9 ds d17 dv x0 x1 x9 es ev hvN
          have HasZ : Hid (AS R w Z w.heap.size W2.heap.size (k + 1) k vN u7) := hasZ
          have z1c : Z.cell? ⟨R.b, 1, none⟩ = some (.int .i64 (R.self : Int)) := below_at hasZ.bl c1w
          clear hasZ hZ hHeld
          by_cases hself : k = R.self
          · have e1 : ((k : Int) == (R.self : Int)) = true := by simp [hself]
            have ho7 := HasZ.out.ot
            have hl7 := R.trN_len k
            generalize hI7 : ints (R.trN k) = I7 at ho7
            generalize hm7 : (R.trN k).length = m7 at ho7 hl7
            have HO7 : Hid (Z.ownsRow w.heap.size 3 1 u7 m7 I7) := ho7
            have hzs := HasZ.out.bl.size
            have hTp : R.tpN (k + 1) = tp := by rw [HTp0.out]; unfold Rg.tpS; rw [if_pos HinS.out, if_pos hself]
            have HEG : Hid (∀ (g5 cap5 : Nat) (w5 : World) (o : Obj), w5.ownsRow w.heap.size 3 1 (.slice (some ⟨g5, 0, none⟩) (m7 + 1) cap5) (m7 + 1) (I7 ++ [.int .i64 (k : Int)]) → (Z.alloc o).grownBy w5 u7.ownBlock → (∃ (k_1 : Nat) (v : Value), k_1 ≤ R.n ∧ Value.int .i64 ((k : Int) + 1) = .int .i64 (k_1 : Int) ∧ Value.int .i64 tp = .int .i64 (R.tpN k_1) ∧ AS R w w5 w.heap.size W2.heap.size k_1 k_1 v (.slice (some ⟨g5, 0, none⟩) (m7 + 1) cap5))) := fun g5 cap5 w5 o ho hg => ⟨k + 1, _, by omega, by simp, by rw [hTp], hm7 ▸ HasZ.out.putT (by rw [HinS.out]; unfold Rg.tg; rw [decide_eq_true hself]; rfl) (by rw [hI7, hm7]; exact ho) hg⟩
            clear ho7 hTp hself
            go_wp2_with (first
              | (at_builtin
                 refine wpList_append_lies _ rfl _ _ 36 rfl w.heap.size 3 i0 (.int .i64 0) 1 8 Try.underlying36 hi hz0 hz1 hz2 rfl (by omega) u7 m7 I7 rfl (World.ownsRow.alloc HO7.out _) _ 1 1 _ rfl rfl (World.news_of_block (heap_alloc_new _ _)) (by simp [Value.oneCell']) (by omega) (by unfold maxLen; omega) (by omega) (by simp; omega) _ rfl ?_
                 intro g5 cap5 w5 hown5 hgrow5 hat5 hlt5
                 have HE : Hid (∃ (k_1 : Nat) (v : Value), k_1 ≤ R.n ∧ Value.int .i64 ((k : Int) + 1) = .int .i64 (k_1 : Int) ∧ Value.int .i64 tp = .int .i64 (R.tpN k_1) ∧ AS R w w5 w.heap.size W2.heap.size k_1 k_1 v (.slice (some ⟨g5, 0, none⟩) (m7 + 1) cap5)) := HEG.out g5 cap5 w5 _ (by simpa using hown5) hgrow5
                 clear hown5 hgrow5 hat5 hlt5 HEG)
              | fail)
            first
              | exact ⟨HE.out, by simp [intOf]; omega⟩
              | (go_roundw
                 case rel => exact HE.out
                 case measure => simp [intOf]; omega)
          · have e1 : ((k : Int) == (R.self : Int)) = false := by simp; omega
            obtain ⟨j, hj⟩ := HLk.out hself
            have HLa := rlatest_any (Hh.out.still HasZ.out.bl) (k : Int) hL
            rw [hj] at HLa
            have HLn : Hid (Calls Try.prog 40 #[.pointer (some ⟨R.b, 0, none⟩), .int .i64 (k : Int)] Z fun e w' => e = .returned (.int .i64 (j : Int)) ∧ Below Z.heap.size Z w') := HLa
            have hjl := latN_lt R.all k R.all.length j hj
            obtain ⟨g, hc, hv, hrg, hrs, hrv, hsl, hvl, hpl⟩ := (Hh.out.still HasZ.out.bl).elem hjl
            have x18 := (Hh.out.still HasZ.out.bl).call
            rw [hv] at x18
            have hTp1 : R.tpN (k + 1) = (if tp < (R.all.getD j h0).p.top then (R.all.getD j h0).p.top else tp) := by rw [HTp0.out]; unfold Rg.tpS; rw [if_pos HinS.out, if_neg hself, hj]
            have hTG : R.tg k = (decide ((R.all.getD j h0).p.prev = R.own.prev) && !(decide ((R.all.getD j h0).p.prev = [0, 0, 0, 0]))) := by unfold Rg.tg; rw [decide_eq_false hself, hj]; rfl
            generalize R.all.getD j h0 = y at hrg hrs hrv hsl hvl hpl hTp1 hTG
            obtain ⟨a0, a1, a2, a3, hpv⟩ := list4e y.p.prev hpl
            have HSameG : Hid (∀ W, Calls Try.prog 50 #[.agg [.int .i64 a0, .int .i64 a1, .int .i64 a2, .int .i64 a3].toArray, .agg [.int .i64 b0, .int .i64 b1, .int .i64 b2, .int .i64 b3].toArray] W fun e w' => e = .returned (.bool (decide (y.p.prev = R.own.prev))) ∧ Below W.heap.size W w') := fun W => by rw [hpv, Hop.out]; exact qsid_any [a0, a1, a2, a3] [b0, b1, b2, b3] rfl rfl
            have HNoneG : Hid (∀ W, Calls Try.prog 51 #[.agg [.int .i64 a0, .int .i64 a1, .int .i64 a2, .int .i64 a3].toArray] W fun e w' => e = .returned (.bool (decide (y.p.prev = [0, 0, 0, 0]))) ∧ Below W.heap.size W w') := fun W => by rw [hpv]; exact qnone_any [a0, a1, a2, a3] rfl
            have HTG : Hid (R.tg k = (decide (y.p.prev = R.own.prev) && !(decide (y.p.prev = [0, 0, 0, 0])))) := hTG
            have jj1 : (0 : Int) ≤ (j : Int) := Int.natCast_nonneg _
            have jj2 : (j : Int) < (R.all.length : Int) := by omega
            have HRG : Hid (Z.rangeAt g (j * 11 + 2) [.slice y.p.sa y.p.sn y.p.sc, .int .i64 y.p.cid, .int .i64 y.p.rev, .int .i64 y.p.top, .int .i64 a0, .int .i64 a1, .int .i64 a2, .int .i64 a3, .slice y.p.va y.p.vn y.p.vc]) := by
              intro i u hu
              have hi9 : i < 9 := (List.getElem?_eq_some_iff.1 hu).1
              have := hrg (i + 2) u (by rw [← hu]; simp [Hx.cs, hpv])
              rw [show j * 11 + (i + 2) = j * 11 + 2 + i by omega] at this
              exact this
            clear hj HLa hv hrg hrs hrv hsl hvl hTG hpl
            go_wp2_with (fail)
            refine HLn.out.mono ?_
            rintro e z1 ⟨rfl, hb1⟩
            have c18 : z1.cell? ⟨R.b, 18, none⟩ = some (.slice (some ⟨g, 0, none⟩) R.all.length hc) := below_at hb1 x18
            have HRG1 : Hid (z1.rangeAt g (j * 11 + 2) [.slice y.p.sa y.p.sn y.p.sc, .int .i64 y.p.cid, .int .i64 y.p.rev, .int .i64 y.p.top, .int .i64 a0, .int .i64 a1, .int .i64 a2, .int .i64 a3, .slice y.p.va y.p.vn y.p.vc]) := rng_below HRG.out hb1
            generalize hX2 : z1.alloc (.cells [.slice y.p.sa y.p.sn y.p.sc, .int .i64 y.p.cid, .int .i64 y.p.rev, .int .i64 y.p.top, .int .i64 a0, .int .i64 a1, .int .i64 a2, .int .i64 a3, .slice y.p.va y.p.vn y.p.vc].toArray 40) = X2
            have bX2 : Below z1.heap.size z1 X2 := by rw [← hX2]; exact balloc (Below.refl _ _)
            have kX2 : X2.heap[z1.heap.size]? = some (.cells [.slice y.p.sa y.p.sn y.p.sc, .int .i64 y.p.cid, .int .i64 y.p.rev, .int .i64 y.p.top, .int .i64 a0, .int .i64 a1, .int .i64 a2, .int .i64 a3, .slice y.p.va y.p.vn y.p.vc].toArray 40 (0, 0)) := by rw [← hX2]; exact heap_alloc_new z1 _
            have y3 : X2.cell? ⟨z1.heap.size, 3, none⟩ = some (.int .i64 y.p.top) := blk_cell kX2 3
            have HasX : Hid (AS R w X2 w.heap.size W2.heap.size (k + 1) k vN u7) := (HasZ.out.still hb1).still bX2
            have P4 : Hid (X2.drew.rangeAt z1.heap.size 4 [.int .i64 a0, .int .i64 a1, .int .i64 a2, .int .i64 a3]) := rng_below (range_sub kX2 rfl) (Below.refl _ _).drew
            have P13 : Hid (X2.drew.rangeAt R.b 13 [.int .i64 b0, .int .i64 b1, .int .i64 b2, .int .i64 b3]) := rng_below (H13.out X2 HasX.out.bl) (Below.refl _ _).drew
            have hX2s := lt_heap kX2
            simp only [List.toArray] at hX2
            clear hb1 bX2 kX2 HRG HasZ HLn x18
            by_cases hgt : tp < y.p.top
            · have HTp : Hid (R.tpN (k + 1) = y.p.top) := by show _ = _; rw [hTp1, if_pos hgt]
              have hgt' : decide (tp < y.p.top) = true := decide_eq_true hgt
              clear hTp1
              go_wp2_with (first | (refine load_mid 40 (.tmp 84) HRG1.out _ Try.underlying40 rfl (by kernel_rfl) rfl rfl rfl ?_) | fail)
              clear hgt hgt' HRG1 c18 hX2
              cases e1 : decide (y.p.prev = R.own.prev) with
              | true =>
                cases e2 : decide (y.p.prev = [0, 0, 0, 0]) with
                | true =>
                  have HSame : Hid (Calls Try.prog 50 #[.agg [.int .i64 a0, .int .i64 a1, .int .i64 a2, .int .i64 a3].toArray, .agg [.int .i64 b0, .int .i64 b1, .int .i64 b2, .int .i64 b3].toArray] X2.drew fun e w' => e = .returned (.bool true) ∧ Below X2.drew.heap.size X2.drew w') := e1 ▸ HSameG.out X2.drew
                  have HNone : Hid (∀ W, Calls Try.prog 51 #[.agg [.int .i64 a0, .int .i64 a1, .int .i64 a2, .int .i64 a3].toArray] W fun e w' => e = .returned (.bool true) ∧ Below W.heap.size W w') := e2 ▸ HNoneG.out
                  have Htg : Hid (R.tg k = false) := by
                    show _ = _
                    rw [HTG.out]
                    simp [e1, e2]
                  clear HSameG HNoneG HTG
                  go_wp2
                  refine wp_region_held_drew (S := (fun w' => w'.rangeAt z1.heap.size 4 [.int .i64 a0, .int .i64 a1, .int .i64 a2, .int .i64 a3] ∧ w'.rangeAt R.b 13 [.int .i64 b0, .int .i64 b1, .int .i64 b2, .int .i64 b3])) (by kernel_rfl) ⟨P4.out, P13.out⟩ (fun hHeld => ?_)
                  simp only [Act.put, List.size_toArray, List.length_cons, List.length_nil, Nat.zero_add]
                  refine tkI 0 (.pointer (some ⟨z1.heap.size, 4, none⟩)) rfl hHeld ?_
                  simp only [Act.put, gA, gB, gC, gD, gE, gF]
                  refine wpAnyH_take (i := 1) (v := .agg ([.int .i64 a0, .int .i64 a1, .int .i64 a2, .int .i64 a3]).toArray) rfl (by kernel_rfl) (by kernel_rfl) (by kernel_rfl) (fun _ _ _ h => h) (yieldsIf_load_mid (by rfl) 38 (.tmp 92) rfl z1.heap.size (4) (by rfl) ([.int .i64 a0, .int .i64 a1, .int .i64 a2, .int .i64 a3]) _ (fun w' hS => hS.1) Try.underlying38 rfl info_id) hHeld ?_
                  simp only [Act.put, gA, gB, gC, gD, gE, gF]
                  refine tkI 2 (.pointer (some ⟨R.b, 0, none⟩)) rfl hHeld ?_
                  simp only [Act.put, gA, gB, gC, gD, gE, gF]
                  refine tkI 3 (.pointer (some ⟨R.b, 0, none⟩)) rfl hHeld ?_
                  simp only [Act.put, gA, gB, gC, gD, gE, gF]
                  refine tkI 4 (.pointer (some ⟨R.b, 9, none⟩)) rfl hHeld ?_
                  simp only [Act.put, gA, gB, gC, gD, gE, gF]
                  refine tkI 5 (.pointer (some ⟨R.b, 13, none⟩)) rfl hHeld ?_
                  simp only [Act.put, gA, gB, gC, gD, gE, gF]
                  refine wpAnyH_take (i := 6) (v := .agg ([.int .i64 b0, .int .i64 b1, .int .i64 b2, .int .i64 b3]).toArray) rfl (by kernel_rfl) (by kernel_rfl) (by kernel_rfl) (fun _ _ _ h => h) (yieldsIf_load_mid (by rfl) 38 (.tmp 97) rfl R.b (13) (by rfl) ([.int .i64 b0, .int .i64 b1, .int .i64 b2, .int .i64 b3]) _ (fun w' hS => hS.2) Try.underlying38 rfl info_id) hHeld ?_
                  simp only [Act.put, gA, gB, gC, gD, gE, gF]
                  refine wpAnyH_ready (rs := [7]) (by kernel_rfl) (by simp) ?_
                  refine AllReadyH.cons rfl (fun K hK => ?_) AllReadyH.nil
                  go_simp
                  refine (HSame.out).mono ?_
                  rintro e z3 ⟨rfl, hb3⟩
                  have Hb3 : Hid (Below X2.drew.heap.size X2.drew z3) := hb3
                  refine hK.out _ _ ⟨rng_below P4.out hb3, rng_below P13.out hb3⟩ (fun hHeld => ?_)
                  clear hK K
                  refine tkI 8 (.bool true) rfl hHeld ?_
                  simp only [Act.put, gA, gB, gC, gD, gE, gF]
                  refine tkI 9 (.pointer (some ⟨z1.heap.size, 4, none⟩)) rfl hHeld ?_
                  simp only [Act.put, gA, gB, gC, gD, gE, gF]
                  refine wpAnyH_take (i := 10) (v := .agg ([.int .i64 a0, .int .i64 a1, .int .i64 a2, .int .i64 a3]).toArray) rfl (by kernel_rfl) (by kernel_rfl) (by kernel_rfl) (fun _ _ _ h => h) (yieldsIf_load_mid (by rfl) 38 (.tmp 101) rfl z1.heap.size (4) (by rfl) ([.int .i64 a0, .int .i64 a1, .int .i64 a2, .int .i64 a3]) _ (fun w' hS => hS.1) Try.underlying38 rfl info_id) hHeld ?_
                  simp only [Act.put, gA, gB, gC, gD, gE, gF]
                  refine wpAnyH_ready (rs := [11]) (by kernel_rfl) (by simp) ?_
                  refine AllReadyH.cons rfl (fun K hK => ?_) AllReadyH.nil
                  go_simp
                  refine (HNone.out z3).mono ?_
                  rintro e z4 ⟨rfl, hb4⟩
                  have Hb4 : Hid (Below X2.drew.heap.size X2.drew z4) := bstep Hb3.out hb4
                  refine hK.out _ _ ⟨rng_below (rng_below P4.out Hb3.out) hb4, rng_below (rng_below P13.out Hb3.out) hb4⟩ (fun hHeld => ?_)
                  clear hK K
                  refine tkI 12 (.bool false) rfl hHeld ?_
                  simp only [Act.put, gA, gB, gC, gD, gE, gF]
                  refine tkI 13 (.bool false) rfl hHeld ?_
                  simp only [Act.put, gA, gB, gC, gD, gE, gF]
                  refine tkI 14 (.bool false) rfl hHeld ?_
                  simp only [Act.put, gA, gB, gC, gD, gE, gF]
                  refine wpAnyH_done (by kernel_rfl) ?_ _
                  clear hHeld
                  clear hb3 hb4
                  have asz : AS R w z4 w.heap.size W2.heap.size (k + 1) k vN u7 := (HasX.out.still (Below.refl _ _).drew).still Hb4.out
                  have HE : Hid (∃ (k_1 : Nat) (v : Value), k_1 ≤ R.n ∧ Value.int .i64 ((k : Int) + 1) = .int .i64 (k_1 : Int) ∧ Value.int .i64 y.p.top = .int .i64 (R.tpN k_1) ∧ AS R w z4 w.heap.size W2.heap.size k_1 k_1 v u7) := ⟨k + 1, _, by omega, by simp, by rw [HTp.out], asz.skipT (by rw [Htg.out, Bool.and_false])⟩
                  clear asz
                  go_wp2
                  first
                    | exact ⟨HE.out, by simp [intOf]; omega⟩
                    | (go_roundw
                       case rel => exact HE.out
                       case measure => simp [intOf]; omega)
                | false =>
                  have HSame : Hid (Calls Try.prog 50 #[.agg [.int .i64 a0, .int .i64 a1, .int .i64 a2, .int .i64 a3].toArray, .agg [.int .i64 b0, .int .i64 b1, .int .i64 b2, .int .i64 b3].toArray] X2.drew fun e w' => e = .returned (.bool true) ∧ Below X2.drew.heap.size X2.drew w') := e1 ▸ HSameG.out X2.drew
                  have HNone : Hid (∀ W, Calls Try.prog 51 #[.agg [.int .i64 a0, .int .i64 a1, .int .i64 a2, .int .i64 a3].toArray] W fun e w' => e = .returned (.bool false) ∧ Below W.heap.size W w') := e2 ▸ HNoneG.out
                  have Htg : Hid (R.tg k = true) := by
                    show _ = _
                    rw [HTG.out]
                    simp [e1, e2]
                  clear HSameG HNoneG HTG
                  go_wp2
                  refine wp_region_held_drew (S := (fun w' => w'.rangeAt z1.heap.size 4 [.int .i64 a0, .int .i64 a1, .int .i64 a2, .int .i64 a3] ∧ w'.rangeAt R.b 13 [.int .i64 b0, .int .i64 b1, .int .i64 b2, .int .i64 b3])) (by kernel_rfl) ⟨P4.out, P13.out⟩ (fun hHeld => ?_)
                  simp only [Act.put, List.size_toArray, List.length_cons, List.length_nil, Nat.zero_add]
                  refine tkI 0 (.pointer (some ⟨z1.heap.size, 4, none⟩)) rfl hHeld ?_
                  simp only [Act.put, gA, gB, gC, gD, gE, gF]
                  refine wpAnyH_take (i := 1) (v := .agg ([.int .i64 a0, .int .i64 a1, .int .i64 a2, .int .i64 a3]).toArray) rfl (by kernel_rfl) (by kernel_rfl) (by kernel_rfl) (fun _ _ _ h => h) (yieldsIf_load_mid (by rfl) 38 (.tmp 92) rfl z1.heap.size (4) (by rfl) ([.int .i64 a0, .int .i64 a1, .int .i64 a2, .int .i64 a3]) _ (fun w' hS => hS.1) Try.underlying38 rfl info_id) hHeld ?_
                  simp only [Act.put, gA, gB, gC, gD, gE, gF]
                  refine tkI 2 (.pointer (some ⟨R.b, 0, none⟩)) rfl hHeld ?_
                  simp only [Act.put, gA, gB, gC, gD, gE, gF]
                  refine tkI 3 (.pointer (some ⟨R.b, 0, none⟩)) rfl hHeld ?_
                  simp only [Act.put, gA, gB, gC, gD, gE, gF]
                  refine tkI 4 (.pointer (some ⟨R.b, 9, none⟩)) rfl hHeld ?_
                  simp only [Act.put, gA, gB, gC, gD, gE, gF]
                  refine tkI 5 (.pointer (some ⟨R.b, 13, none⟩)) rfl hHeld ?_
                  simp only [Act.put, gA, gB, gC, gD, gE, gF]
                  refine wpAnyH_take (i := 6) (v := .agg ([.int .i64 b0, .int .i64 b1, .int .i64 b2, .int .i64 b3]).toArray) rfl (by kernel_rfl) (by kernel_rfl) (by kernel_rfl) (fun _ _ _ h => h) (yieldsIf_load_mid (by rfl) 38 (.tmp 97) rfl R.b (13) (by rfl) ([.int .i64 b0, .int .i64 b1, .int .i64 b2, .int .i64 b3]) _ (fun w' hS => hS.2) Try.underlying38 rfl info_id) hHeld ?_
                  simp only [Act.put, gA, gB, gC, gD, gE, gF]
                  refine wpAnyH_ready (rs := [7]) (by kernel_rfl) (by simp) ?_
                  refine AllReadyH.cons rfl (fun K hK => ?_) AllReadyH.nil
                  go_simp
                  refine (HSame.out).mono ?_
                  rintro e z3 ⟨rfl, hb3⟩
                  have Hb3 : Hid (Below X2.drew.heap.size X2.drew z3) := hb3
                  refine hK.out _ _ ⟨rng_below P4.out hb3, rng_below P13.out hb3⟩ (fun hHeld => ?_)
                  clear hK K
                  refine tkI 8 (.bool true) rfl hHeld ?_
                  simp only [Act.put, gA, gB, gC, gD, gE, gF]
                  refine tkI 9 (.pointer (some ⟨z1.heap.size, 4, none⟩)) rfl hHeld ?_
                  simp only [Act.put, gA, gB, gC, gD, gE, gF]
                  refine wpAnyH_take (i := 10) (v := .agg ([.int .i64 a0, .int .i64 a1, .int .i64 a2, .int .i64 a3]).toArray) rfl (by kernel_rfl) (by kernel_rfl) (by kernel_rfl) (fun _ _ _ h => h) (yieldsIf_load_mid (by rfl) 38 (.tmp 101) rfl z1.heap.size (4) (by rfl) ([.int .i64 a0, .int .i64 a1, .int .i64 a2, .int .i64 a3]) _ (fun w' hS => hS.1) Try.underlying38 rfl info_id) hHeld ?_
                  simp only [Act.put, gA, gB, gC, gD, gE, gF]
                  refine wpAnyH_ready (rs := [11]) (by kernel_rfl) (by simp) ?_
                  refine AllReadyH.cons rfl (fun K hK => ?_) AllReadyH.nil
                  go_simp
                  refine (HNone.out z3).mono ?_
                  rintro e z4 ⟨rfl, hb4⟩
                  have Hb4 : Hid (Below X2.drew.heap.size X2.drew z4) := bstep Hb3.out hb4
                  refine hK.out _ _ ⟨rng_below (rng_below P4.out Hb3.out) hb4, rng_below (rng_below P13.out Hb3.out) hb4⟩ (fun hHeld => ?_)
                  clear hK K
                  refine tkI 12 (.bool true) rfl hHeld ?_
                  simp only [Act.put, gA, gB, gC, gD, gE, gF]
                  refine tkI 13 (.bool true) rfl hHeld ?_
                  simp only [Act.put, gA, gB, gC, gD, gE, gF]
                  refine tkI 14 (.bool true) rfl hHeld ?_
                  simp only [Act.put, gA, gB, gC, gD, gE, gF]
                  refine wpAnyH_done (by kernel_rfl) ?_ _
                  clear hHeld
                  clear hb3 hb4
                  have asz : AS R w z4 w.heap.size W2.heap.size (k + 1) k vN u7 := (HasX.out.still (Below.refl _ _).drew).still Hb4.out
                  have ho7 := asz.ot
                  have hl7 := R.trN_len k
                  generalize hI7 : ints (R.trN k) = I7 at ho7
                  generalize hm7 : (R.trN k).length = m7 at ho7 hl7
                  have HO7 : Hid (z4.ownsRow w.heap.size 3 1 u7 m7 I7) := ho7
                  have hzs := asz.bl.size
                  have HEG : Hid (∀ (g5 cap5 : Nat) (w5 : World) (o : Obj), w5.ownsRow w.heap.size 3 1 (.slice (some ⟨g5, 0, none⟩) (m7 + 1) cap5) (m7 + 1) (I7 ++ [.int .i64 (k : Int)]) → (z4.alloc o).grownBy w5 u7.ownBlock → (∃ (k_1 : Nat) (v : Value), k_1 ≤ R.n ∧ Value.int .i64 ((k : Int) + 1) = .int .i64 (k_1 : Int) ∧ Value.int .i64 y.p.top = .int .i64 (R.tpN k_1) ∧ AS R w w5 w.heap.size W2.heap.size k_1 k_1 v (.slice (some ⟨g5, 0, none⟩) (m7 + 1) cap5))) := fun g5 cap5 w5 o ho hg => ⟨k + 1, _, by omega, by simp, by rw [HTp.out], hm7 ▸ asz.putT (by rw [HinS.out, Htg.out]; rfl) (by rw [hI7, hm7]; exact ho) hg⟩
                  clear asz ho7
                  go_wp2_with (first
                    | (at_builtin
                       refine wpList_append_lies _ rfl _ _ 36 rfl w.heap.size 3 i0 (.int .i64 0) 1 8 Try.underlying36 hi hz0 hz1 hz2 rfl (by omega) u7 m7 I7 rfl (World.ownsRow.alloc HO7.out _) _ 1 1 _ rfl rfl (World.news_of_block (heap_alloc_new _ _)) (by simp [Value.oneCell']) (by omega) (by unfold maxLen; omega) (by omega) (by simp; omega) _ rfl ?_
                       intro g5 cap5 w5 hown5 hgrow5 hat5 hlt5
                       have HE : Hid (∃ (k_1 : Nat) (v : Value), k_1 ≤ R.n ∧ Value.int .i64 ((k : Int) + 1) = .int .i64 (k_1 : Int) ∧ Value.int .i64 y.p.top = .int .i64 (R.tpN k_1) ∧ AS R w w5 w.heap.size W2.heap.size k_1 k_1 v (.slice (some ⟨g5, 0, none⟩) (m7 + 1) cap5)) := HEG.out g5 cap5 w5 _ (by simpa using hown5) hgrow5
                       clear hown5 hgrow5 hat5 hlt5 HEG)
                    | fail)
                  first
                    | exact ⟨HE.out, by simp [intOf]; omega⟩
                    | (go_roundw
                       case rel => exact HE.out
                       case measure => simp [intOf]; omega)
              | false =>
                have HSame : Hid (Calls Try.prog 50 #[.agg [.int .i64 a0, .int .i64 a1, .int .i64 a2, .int .i64 a3].toArray, .agg [.int .i64 b0, .int .i64 b1, .int .i64 b2, .int .i64 b3].toArray] X2.drew fun e w' => e = .returned (.bool false) ∧ Below X2.drew.heap.size X2.drew w') := e1 ▸ HSameG.out X2.drew
                have Htg : Hid (R.tg k = false) := by
                  show _ = _
                  rw [HTG.out]
                  simp [e1]
                clear HSameG HNoneG HTG
                go_wp2
                refine wp_region_held_drew (S := (fun w' => w'.rangeAt z1.heap.size 4 [.int .i64 a0, .int .i64 a1, .int .i64 a2, .int .i64 a3] ∧ w'.rangeAt R.b 13 [.int .i64 b0, .int .i64 b1, .int .i64 b2, .int .i64 b3])) (by kernel_rfl) ⟨P4.out, P13.out⟩ (fun hHeld => ?_)
                simp only [Act.put, List.size_toArray, List.length_cons, List.length_nil, Nat.zero_add]
                refine tkI 0 (.pointer (some ⟨z1.heap.size, 4, none⟩)) rfl hHeld ?_
                simp only [Act.put, gA, gB, gC, gD, gE, gF]
                refine wpAnyH_take (i := 1) (v := .agg ([.int .i64 a0, .int .i64 a1, .int .i64 a2, .int .i64 a3]).toArray) rfl (by kernel_rfl) (by kernel_rfl) (by kernel_rfl) (fun _ _ _ h => h) (yieldsIf_load_mid (by rfl) 38 (.tmp 92) rfl z1.heap.size (4) (by rfl) ([.int .i64 a0, .int .i64 a1, .int .i64 a2, .int .i64 a3]) _ (fun w' hS => hS.1) Try.underlying38 rfl info_id) hHeld ?_
                simp only [Act.put, gA, gB, gC, gD, gE, gF]
                refine tkI 2 (.pointer (some ⟨R.b, 0, none⟩)) rfl hHeld ?_
                simp only [Act.put, gA, gB, gC, gD, gE, gF]
                refine tkI 3 (.pointer (some ⟨R.b, 0, none⟩)) rfl hHeld ?_
                simp only [Act.put, gA, gB, gC, gD, gE, gF]
                refine tkI 4 (.pointer (some ⟨R.b, 9, none⟩)) rfl hHeld ?_
                simp only [Act.put, gA, gB, gC, gD, gE, gF]
                refine tkI 5 (.pointer (some ⟨R.b, 13, none⟩)) rfl hHeld ?_
                simp only [Act.put, gA, gB, gC, gD, gE, gF]
                refine wpAnyH_take (i := 6) (v := .agg ([.int .i64 b0, .int .i64 b1, .int .i64 b2, .int .i64 b3]).toArray) rfl (by kernel_rfl) (by kernel_rfl) (by kernel_rfl) (fun _ _ _ h => h) (yieldsIf_load_mid (by rfl) 38 (.tmp 97) rfl R.b (13) (by rfl) ([.int .i64 b0, .int .i64 b1, .int .i64 b2, .int .i64 b3]) _ (fun w' hS => hS.2) Try.underlying38 rfl info_id) hHeld ?_
                simp only [Act.put, gA, gB, gC, gD, gE, gF]
                refine wpAnyH_ready (rs := [7]) (by kernel_rfl) (by simp) ?_
                refine AllReadyH.cons rfl (fun K hK => ?_) AllReadyH.nil
                go_simp
                refine (HSame.out).mono ?_
                rintro e z3 ⟨rfl, hb3⟩
                have Hb3 : Hid (Below X2.drew.heap.size X2.drew z3) := hb3
                refine hK.out _ _ ⟨rng_below P4.out hb3, rng_below P13.out hb3⟩ (fun hHeld => ?_)
                clear hK K
                refine tkI 8 (.bool false) rfl hHeld ?_
                simp only [Act.put, gA, gB, gC, gD, gE, gF]
                refine tkO 9 rfl hHeld ?_
                simp only [Act.put, gA, gB, gC, gD, gE, gF]
                refine tkO 10 rfl hHeld ?_
                simp only [Act.put, gA, gB, gC, gD, gE, gF]
                refine tkO 11 rfl hHeld ?_
                simp only [Act.put, gA, gB, gC, gD, gE, gF]
                refine tkO 12 rfl hHeld ?_
                simp only [Act.put, gA, gB, gC, gD, gE, gF]
                refine tkI 13 (.bool false) rfl hHeld ?_
                simp only [Act.put, gA, gB, gC, gD, gE, gF]
                refine tkI 14 (.bool false) rfl hHeld ?_
                simp only [Act.put, gA, gB, gC, gD, gE, gF]
                refine wpAnyH_done (by kernel_rfl) ?_ _
                clear hHeld
                clear hb3
                have asz : AS R w z3 w.heap.size W2.heap.size (k + 1) k vN u7 := (HasX.out.still (Below.refl _ _).drew).still Hb3.out
                have HE : Hid (∃ (k_1 : Nat) (v : Value), k_1 ≤ R.n ∧ Value.int .i64 ((k : Int) + 1) = .int .i64 (k_1 : Int) ∧ Value.int .i64 y.p.top = .int .i64 (R.tpN k_1) ∧ AS R w z3 w.heap.size W2.heap.size k_1 k_1 v u7) := ⟨k + 1, _, by omega, by simp, by rw [HTp.out], asz.skipT (by rw [Htg.out, Bool.and_false])⟩
                clear asz
                go_wp2
                first
                  | exact ⟨HE.out, by simp [intOf]; omega⟩
                  | (go_roundw
                     case rel => exact HE.out
                     case measure => simp [intOf]; omega)
            · have HTp : Hid (R.tpN (k + 1) = tp) := by show _ = _; rw [hTp1, if_neg hgt]
              have hgt' : decide (tp < y.p.top) = false := decide_eq_false hgt
              clear hTp1
              go_wp2_with (first | (refine load_mid 40 (.tmp 84) HRG1.out _ Try.underlying40 rfl (by kernel_rfl) rfl rfl rfl ?_) | fail)
              clear hgt hgt' HRG1 c18 hX2
              cases e1 : decide (y.p.prev = R.own.prev) with
              | true =>
                cases e2 : decide (y.p.prev = [0, 0, 0, 0]) with
                | true =>
                  have HSame : Hid (Calls Try.prog 50 #[.agg [.int .i64 a0, .int .i64 a1, .int .i64 a2, .int .i64 a3].toArray, .agg [.int .i64 b0, .int .i64 b1, .int .i64 b2, .int .i64 b3].toArray] X2.drew fun e w' => e = .returned (.bool true) ∧ Below X2.drew.heap.size X2.drew w') := e1 ▸ HSameG.out X2.drew
                  have HNone : Hid (∀ W, Calls Try.prog 51 #[.agg [.int .i64 a0, .int .i64 a1, .int .i64 a2, .int .i64 a3].toArray] W fun e w' => e = .returned (.bool true) ∧ Below W.heap.size W w') := e2 ▸ HNoneG.out
                  have Htg : Hid (R.tg k = false) := by
                    show _ = _
                    rw [HTG.out]
                    simp [e1, e2]
                  clear HSameG HNoneG HTG
                  go_wp2
                  refine wp_region_held_drew (S := (fun w' => w'.rangeAt z1.heap.size 4 [.int .i64 a0, .int .i64 a1, .int .i64 a2, .int .i64 a3] ∧ w'.rangeAt R.b 13 [.int .i64 b0, .int .i64 b1, .int .i64 b2, .int .i64 b3])) (by kernel_rfl) ⟨P4.out, P13.out⟩ (fun hHeld => ?_)
                  simp only [Act.put, List.size_toArray, List.length_cons, List.length_nil, Nat.zero_add]
                  refine tkI 0 (.pointer (some ⟨z1.heap.size, 4, none⟩)) rfl hHeld ?_
                  simp only [Act.put, gA, gB, gC, gD, gE, gF]
                  refine wpAnyH_take (i := 1) (v := .agg ([.int .i64 a0, .int .i64 a1, .int .i64 a2, .int .i64 a3]).toArray) rfl (by kernel_rfl) (by kernel_rfl) (by kernel_rfl) (fun _ _ _ h => h) (yieldsIf_load_mid (by rfl) 38 (.tmp 92) rfl z1.heap.size (4) (by rfl) ([.int .i64 a0, .int .i64 a1, .int .i64 a2, .int .i64 a3]) _ (fun w' hS => hS.1) Try.underlying38 rfl info_id) hHeld ?_
                  simp only [Act.put, gA, gB, gC, gD, gE, gF]
                  refine tkI 2 (.pointer (some ⟨R.b, 0, none⟩)) rfl hHeld ?_
                  simp only [Act.put, gA, gB, gC, gD, gE, gF]
                  refine tkI 3 (.pointer (some ⟨R.b, 0, none⟩)) rfl hHeld ?_
                  simp only [Act.put, gA, gB, gC, gD, gE, gF]
                  refine tkI 4 (.pointer (some ⟨R.b, 9, none⟩)) rfl hHeld ?_
                  simp only [Act.put, gA, gB, gC, gD, gE, gF]
                  refine tkI 5 (.pointer (some ⟨R.b, 13, none⟩)) rfl hHeld ?_
                  simp only [Act.put, gA, gB, gC, gD, gE, gF]
                  refine wpAnyH_take (i := 6) (v := .agg ([.int .i64 b0, .int .i64 b1, .int .i64 b2, .int .i64 b3]).toArray) rfl (by kernel_rfl) (by kernel_rfl) (by kernel_rfl) (fun _ _ _ h => h) (yieldsIf_load_mid (by rfl) 38 (.tmp 97) rfl R.b (13) (by rfl) ([.int .i64 b0, .int .i64 b1, .int .i64 b2, .int .i64 b3]) _ (fun w' hS => hS.2) Try.underlying38 rfl info_id) hHeld ?_
                  simp only [Act.put, gA, gB, gC, gD, gE, gF]
                  refine wpAnyH_ready (rs := [7]) (by kernel_rfl) (by simp) ?_
                  refine AllReadyH.cons rfl (fun K hK => ?_) AllReadyH.nil
                  go_simp
                  refine (HSame.out).mono ?_
                  rintro e z3 ⟨rfl, hb3⟩
                  have Hb3 : Hid (Below X2.drew.heap.size X2.drew z3) := hb3
                  refine hK.out _ _ ⟨rng_below P4.out hb3, rng_below P13.out hb3⟩ (fun hHeld => ?_)
                  clear hK K
                  refine tkI 8 (.bool true) rfl hHeld ?_
                  simp only [Act.put, gA, gB, gC, gD, gE, gF]
                  refine tkI 9 (.pointer (some ⟨z1.heap.size, 4, none⟩)) rfl hHeld ?_
                  simp only [Act.put, gA, gB, gC, gD, gE, gF]
                  refine wpAnyH_take (i := 10) (v := .agg ([.int .i64 a0, .int .i64 a1, .int .i64 a2, .int .i64 a3]).toArray) rfl (by kernel_rfl) (by kernel_rfl) (by kernel_rfl) (fun _ _ _ h => h) (yieldsIf_load_mid (by rfl) 38 (.tmp 101) rfl z1.heap.size (4) (by rfl) ([.int .i64 a0, .int .i64 a1, .int .i64 a2, .int .i64 a3]) _ (fun w' hS => hS.1) Try.underlying38 rfl info_id) hHeld ?_
                  simp only [Act.put, gA, gB, gC, gD, gE, gF]
                  refine wpAnyH_ready (rs := [11]) (by kernel_rfl) (by simp) ?_
                  refine AllReadyH.cons rfl (fun K hK => ?_) AllReadyH.nil
                  go_simp
                  refine (HNone.out z3).mono ?_
                  rintro e z4 ⟨rfl, hb4⟩
                  have Hb4 : Hid (Below X2.drew.heap.size X2.drew z4) := bstep Hb3.out hb4
                  refine hK.out _ _ ⟨rng_below (rng_below P4.out Hb3.out) hb4, rng_below (rng_below P13.out Hb3.out) hb4⟩ (fun hHeld => ?_)
                  clear hK K
                  refine tkI 12 (.bool false) rfl hHeld ?_
                  simp only [Act.put, gA, gB, gC, gD, gE, gF]
                  refine tkI 13 (.bool false) rfl hHeld ?_
                  simp only [Act.put, gA, gB, gC, gD, gE, gF]
                  refine tkI 14 (.bool false) rfl hHeld ?_
                  simp only [Act.put, gA, gB, gC, gD, gE, gF]
                  refine wpAnyH_done (by kernel_rfl) ?_ _
                  clear hHeld
                  clear hb3 hb4
                  have asz : AS R w z4 w.heap.size W2.heap.size (k + 1) k vN u7 := (HasX.out.still (Below.refl _ _).drew).still Hb4.out
                  have HE : Hid (∃ (k_1 : Nat) (v : Value), k_1 ≤ R.n ∧ Value.int .i64 ((k : Int) + 1) = .int .i64 (k_1 : Int) ∧ Value.int .i64 tp = .int .i64 (R.tpN k_1) ∧ AS R w z4 w.heap.size W2.heap.size k_1 k_1 v u7) := ⟨k + 1, _, by omega, by simp, by rw [HTp.out], asz.skipT (by rw [Htg.out, Bool.and_false])⟩
                  clear asz
                  go_wp2
                  first
                    | exact ⟨HE.out, by simp [intOf]; omega⟩
                    | (go_roundw
                       case rel => exact HE.out
                       case measure => simp [intOf]; omega)
                | false =>
                  have HSame : Hid (Calls Try.prog 50 #[.agg [.int .i64 a0, .int .i64 a1, .int .i64 a2, .int .i64 a3].toArray, .agg [.int .i64 b0, .int .i64 b1, .int .i64 b2, .int .i64 b3].toArray] X2.drew fun e w' => e = .returned (.bool true) ∧ Below X2.drew.heap.size X2.drew w') := e1 ▸ HSameG.out X2.drew
                  have HNone : Hid (∀ W, Calls Try.prog 51 #[.agg [.int .i64 a0, .int .i64 a1, .int .i64 a2, .int .i64 a3].toArray] W fun e w' => e = .returned (.bool false) ∧ Below W.heap.size W w') := e2 ▸ HNoneG.out
                  have Htg : Hid (R.tg k = true) := by
                    show _ = _
                    rw [HTG.out]
                    simp [e1, e2]
                  clear HSameG HNoneG HTG
                  go_wp2
                  refine wp_region_held_drew (S := (fun w' => w'.rangeAt z1.heap.size 4 [.int .i64 a0, .int .i64 a1, .int .i64 a2, .int .i64 a3] ∧ w'.rangeAt R.b 13 [.int .i64 b0, .int .i64 b1, .int .i64 b2, .int .i64 b3])) (by kernel_rfl) ⟨P4.out, P13.out⟩ (fun hHeld => ?_)
                  simp only [Act.put, List.size_toArray, List.length_cons, List.length_nil, Nat.zero_add]
                  refine tkI 0 (.pointer (some ⟨z1.heap.size, 4, none⟩)) rfl hHeld ?_
                  simp only [Act.put, gA, gB, gC, gD, gE, gF]
                  refine wpAnyH_take (i := 1) (v := .agg ([.int .i64 a0, .int .i64 a1, .int .i64 a2, .int .i64 a3]).toArray) rfl (by kernel_rfl) (by kernel_rfl) (by kernel_rfl) (fun _ _ _ h => h) (yieldsIf_load_mid (by rfl) 38 (.tmp 92) rfl z1.heap.size (4) (by rfl) ([.int .i64 a0, .int .i64 a1, .int .i64 a2, .int .i64 a3]) _ (fun w' hS => hS.1) Try.underlying38 rfl info_id) hHeld ?_
                  simp only [Act.put, gA, gB, gC, gD, gE, gF]
                  refine tkI 2 (.pointer (some ⟨R.b, 0, none⟩)) rfl hHeld ?_
                  simp only [Act.put, gA, gB, gC, gD, gE, gF]
                  refine tkI 3 (.pointer (some ⟨R.b, 0, none⟩)) rfl hHeld ?_
                  simp only [Act.put, gA, gB, gC, gD, gE, gF]
                  refine tkI 4 (.pointer (some ⟨R.b, 9, none⟩)) rfl hHeld ?_
                  simp only [Act.put, gA, gB, gC, gD, gE, gF]
                  refine tkI 5 (.pointer (some ⟨R.b, 13, none⟩)) rfl hHeld ?_
                  simp only [Act.put, gA, gB, gC, gD, gE, gF]
                  refine wpAnyH_take (i := 6) (v := .agg ([.int .i64 b0, .int .i64 b1, .int .i64 b2, .int .i64 b3]).toArray) rfl (by kernel_rfl) (by kernel_rfl) (by kernel_rfl) (fun _ _ _ h => h) (yieldsIf_load_mid (by rfl) 38 (.tmp 97) rfl R.b (13) (by rfl) ([.int .i64 b0, .int .i64 b1, .int .i64 b2, .int .i64 b3]) _ (fun w' hS => hS.2) Try.underlying38 rfl info_id) hHeld ?_
                  simp only [Act.put, gA, gB, gC, gD, gE, gF]
                  refine wpAnyH_ready (rs := [7]) (by kernel_rfl) (by simp) ?_
                  refine AllReadyH.cons rfl (fun K hK => ?_) AllReadyH.nil
                  go_simp
                  refine (HSame.out).mono ?_
                  rintro e z3 ⟨rfl, hb3⟩
                  have Hb3 : Hid (Below X2.drew.heap.size X2.drew z3) := hb3
                  refine hK.out _ _ ⟨rng_below P4.out hb3, rng_below P13.out hb3⟩ (fun hHeld => ?_)
                  clear hK K
                  refine tkI 8 (.bool true) rfl hHeld ?_
                  simp only [Act.put, gA, gB, gC, gD, gE, gF]
                  refine tkI 9 (.pointer (some ⟨z1.heap.size, 4, none⟩)) rfl hHeld ?_
                  simp only [Act.put, gA, gB, gC, gD, gE, gF]
                  refine wpAnyH_take (i := 10) (v := .agg ([.int .i64 a0, .int .i64 a1, .int .i64 a2, .int .i64 a3]).toArray) rfl (by kernel_rfl) (by kernel_rfl) (by kernel_rfl) (fun _ _ _ h => h) (yieldsIf_load_mid (by rfl) 38 (.tmp 101) rfl z1.heap.size (4) (by rfl) ([.int .i64 a0, .int .i64 a1, .int .i64 a2, .int .i64 a3]) _ (fun w' hS => hS.1) Try.underlying38 rfl info_id) hHeld ?_
                  simp only [Act.put, gA, gB, gC, gD, gE, gF]
                  refine wpAnyH_ready (rs := [11]) (by kernel_rfl) (by simp) ?_
                  refine AllReadyH.cons rfl (fun K hK => ?_) AllReadyH.nil
                  go_simp
                  refine (HNone.out z3).mono ?_
                  rintro e z4 ⟨rfl, hb4⟩
                  have Hb4 : Hid (Below X2.drew.heap.size X2.drew z4) := bstep Hb3.out hb4
                  refine hK.out _ _ ⟨rng_below (rng_below P4.out Hb3.out) hb4, rng_below (rng_below P13.out Hb3.out) hb4⟩ (fun hHeld => ?_)
                  clear hK K
                  refine tkI 12 (.bool true) rfl hHeld ?_
                  simp only [Act.put, gA, gB, gC, gD, gE, gF]
                  refine tkI 13 (.bool true) rfl hHeld ?_
                  simp only [Act.put, gA, gB, gC, gD, gE, gF]
                  refine tkI 14 (.bool true) rfl hHeld ?_
                  simp only [Act.put, gA, gB, gC, gD, gE, gF]
                  refine wpAnyH_done (by kernel_rfl) ?_ _
                  clear hHeld
                  clear hb3 hb4
                  have asz : AS R w z4 w.heap.size W2.heap.size (k + 1) k vN u7 := (HasX.out.still (Below.refl _ _).drew).still Hb4.out
                  have ho7 := asz.ot
                  have hl7 := R.trN_len k
                  generalize hI7 : ints (R.trN k) = I7 at ho7
                  generalize hm7 : (R.trN k).length = m7 at ho7 hl7
                  have HO7 : Hid (z4.ownsRow w.heap.size 3 1 u7 m7 I7) := ho7
                  have hzs := asz.bl.size
                  have HEG : Hid (∀ (g5 cap5 : Nat) (w5 : World) (o : Obj), w5.ownsRow w.heap.size 3 1 (.slice (some ⟨g5, 0, none⟩) (m7 + 1) cap5) (m7 + 1) (I7 ++ [.int .i64 (k : Int)]) → (z4.alloc o).grownBy w5 u7.ownBlock → (∃ (k_1 : Nat) (v : Value), k_1 ≤ R.n ∧ Value.int .i64 ((k : Int) + 1) = .int .i64 (k_1 : Int) ∧ Value.int .i64 tp = .int .i64 (R.tpN k_1) ∧ AS R w w5 w.heap.size W2.heap.size k_1 k_1 v (.slice (some ⟨g5, 0, none⟩) (m7 + 1) cap5))) := fun g5 cap5 w5 o ho hg => ⟨k + 1, _, by omega, by simp, by rw [HTp.out], hm7 ▸ asz.putT (by rw [HinS.out, Htg.out]; rfl) (by rw [hI7, hm7]; exact ho) hg⟩
                  clear asz ho7
                  go_wp2_with (first
                    | (at_builtin
                       refine wpList_append_lies _ rfl _ _ 36 rfl w.heap.size 3 i0 (.int .i64 0) 1 8 Try.underlying36 hi hz0 hz1 hz2 rfl (by omega) u7 m7 I7 rfl (World.ownsRow.alloc HO7.out _) _ 1 1 _ rfl rfl (World.news_of_block (heap_alloc_new _ _)) (by simp [Value.oneCell']) (by omega) (by unfold maxLen; omega) (by omega) (by simp; omega) _ rfl ?_
                       intro g5 cap5 w5 hown5 hgrow5 hat5 hlt5
                       have HE : Hid (∃ (k_1 : Nat) (v : Value), k_1 ≤ R.n ∧ Value.int .i64 ((k : Int) + 1) = .int .i64 (k_1 : Int) ∧ Value.int .i64 tp = .int .i64 (R.tpN k_1) ∧ AS R w w5 w.heap.size W2.heap.size k_1 k_1 v (.slice (some ⟨g5, 0, none⟩) (m7 + 1) cap5)) := HEG.out g5 cap5 w5 _ (by simpa using hown5) hgrow5
                       clear hown5 hgrow5 hat5 hlt5 HEG)
                    | fail)
                  first
                    | exact ⟨HE.out, by simp [intOf]; omega⟩
                    | (go_roundw
                       case rel => exact HE.out
                       case measure => simp [intOf]; omega)
              | false =>
                have HSame : Hid (Calls Try.prog 50 #[.agg [.int .i64 a0, .int .i64 a1, .int .i64 a2, .int .i64 a3].toArray, .agg [.int .i64 b0, .int .i64 b1, .int .i64 b2, .int .i64 b3].toArray] X2.drew fun e w' => e = .returned (.bool false) ∧ Below X2.drew.heap.size X2.drew w') := e1 ▸ HSameG.out X2.drew
                have Htg : Hid (R.tg k = false) := by
                  show _ = _
                  rw [HTG.out]
                  simp [e1]
                clear HSameG HNoneG HTG
                go_wp2
                refine wp_region_held_drew (S := (fun w' => w'.rangeAt z1.heap.size 4 [.int .i64 a0, .int .i64 a1, .int .i64 a2, .int .i64 a3] ∧ w'.rangeAt R.b 13 [.int .i64 b0, .int .i64 b1, .int .i64 b2, .int .i64 b3])) (by kernel_rfl) ⟨P4.out, P13.out⟩ (fun hHeld => ?_)
                simp only [Act.put, List.size_toArray, List.length_cons, List.length_nil, Nat.zero_add]
                refine tkI 0 (.pointer (some ⟨z1.heap.size, 4, none⟩)) rfl hHeld ?_
                simp only [Act.put, gA, gB, gC, gD, gE, gF]
                refine wpAnyH_take (i := 1) (v := .agg ([.int .i64 a0, .int .i64 a1, .int .i64 a2, .int .i64 a3]).toArray) rfl (by kernel_rfl) (by kernel_rfl) (by kernel_rfl) (fun _ _ _ h => h) (yieldsIf_load_mid (by rfl) 38 (.tmp 92) rfl z1.heap.size (4) (by rfl) ([.int .i64 a0, .int .i64 a1, .int .i64 a2, .int .i64 a3]) _ (fun w' hS => hS.1) Try.underlying38 rfl info_id) hHeld ?_
                simp only [Act.put, gA, gB, gC, gD, gE, gF]
                refine tkI 2 (.pointer (some ⟨R.b, 0, none⟩)) rfl hHeld ?_
                simp only [Act.put, gA, gB, gC, gD, gE, gF]
                refine tkI 3 (.pointer (some ⟨R.b, 0, none⟩)) rfl hHeld ?_
                simp only [Act.put, gA, gB, gC, gD, gE, gF]
                refine tkI 4 (.pointer (some ⟨R.b, 9, none⟩)) rfl hHeld ?_
                simp only [Act.put, gA, gB, gC, gD, gE, gF]
                refine tkI 5 (.pointer (some ⟨R.b, 13, none⟩)) rfl hHeld ?_
                simp only [Act.put, gA, gB, gC, gD, gE, gF]
                refine wpAnyH_take (i := 6) (v := .agg ([.int .i64 b0, .int .i64 b1, .int .i64 b2, .int .i64 b3]).toArray) rfl (by kernel_rfl) (by kernel_rfl) (by kernel_rfl) (fun _ _ _ h => h) (yieldsIf_load_mid (by rfl) 38 (.tmp 97) rfl R.b (13) (by rfl) ([.int .i64 b0, .int .i64 b1, .int .i64 b2, .int .i64 b3]) _ (fun w' hS => hS.2) Try.underlying38 rfl info_id) hHeld ?_
                simp only [Act.put, gA, gB, gC, gD, gE, gF]
                refine wpAnyH_ready (rs := [7]) (by kernel_rfl) (by simp) ?_
                refine AllReadyH.cons rfl (fun K hK => ?_) AllReadyH.nil
                go_simp
                refine (HSame.out).mono ?_
                rintro e z3 ⟨rfl, hb3⟩
                have Hb3 : Hid (Below X2.drew.heap.size X2.drew z3) := hb3
                refine hK.out _ _ ⟨rng_below P4.out hb3, rng_below P13.out hb3⟩ (fun hHeld => ?_)
                clear hK K
                refine tkI 8 (.bool false) rfl hHeld ?_
                simp only [Act.put, gA, gB, gC, gD, gE, gF]
                refine tkO 9 rfl hHeld ?_
                simp only [Act.put, gA, gB, gC, gD, gE, gF]
                refine tkO 10 rfl hHeld ?_
                simp only [Act.put, gA, gB, gC, gD, gE, gF]
                refine tkO 11 rfl hHeld ?_
                simp only [Act.put, gA, gB, gC, gD, gE, gF]
                refine tkO 12 rfl hHeld ?_
                simp only [Act.put, gA, gB, gC, gD, gE, gF]
                refine tkI 13 (.bool false) rfl hHeld ?_
                simp only [Act.put, gA, gB, gC, gD, gE, gF]
                refine tkI 14 (.bool false) rfl hHeld ?_
                simp only [Act.put, gA, gB, gC, gD, gE, gF]
                refine wpAnyH_done (by kernel_rfl) ?_ _
                clear hHeld
                clear hb3
                have asz : AS R w z3 w.heap.size W2.heap.size (k + 1) k vN u7 := (HasX.out.still (Below.refl _ _).drew).still Hb3.out
                have HE : Hid (∃ (k_1 : Nat) (v : Value), k_1 ≤ R.n ∧ Value.int .i64 ((k : Int) + 1) = .int .i64 (k_1 : Int) ∧ Value.int .i64 tp = .int .i64 (R.tpN k_1) ∧ AS R w z3 w.heap.size W2.heap.size k_1 k_1 v u7) := ⟨k + 1, _, by omega, by simp, by rw [HTp.out], asz.skipT (by rw [Htg.out, Bool.and_false])⟩
                clear asz
                go_wp2
                first
                  | exact ⟨HE.out, by simp [intOf]; omega⟩
                  | (go_roundw
                     case rel => exact HE.out
                     case measure => simp [intOf]; omega)
        · skip
          go_simp
          obtain ⟨X, hX⟩ : ∃ X, (wr.alloc (.cells [.int .i64 (k : Int), .int .i64 sx, .int .i64 vx].toArray 92)).drew = X := ⟨_, rfl⟩
          have bX : Below wr.heap.size wr X := by rw [← hX]; exact (balloc (Below.refl _ _)).drew
          have kX : X.heap[wr.heap.size]? = some (.cells [.int .i64 (k : Int), .int .i64 sx, .int .i64 vx].toArray 92 (0, 0)) := by rw [← hX]; exact heap_alloc_new wr _
          have asX := Has.out.still bX
          refine hK.out _ _ (by rw [hX]; exact HS.out X asX.bl) (fun hHeld => ?_)
          clear hK K
          rw [hX] at hHeld ⊢
          clear hX
          refine wpAnyH_ready (rs := [1]) (by kernel_rfl) (by simp) ?_
          refine AllReadyH.cons rfl (fun K hK => ?_) AllReadyH.nil
          have x6 : X.cell? ⟨W2.heap.size, 4, none⟩ = some v := blk_cell asX.b6 4
          go_simp
          refine hK.out _ _ (HS.out _ asX.bl) (fun hHeld => ?_)
          clear hK K x6
          refine wpAnyH_ready (rs := [21]) (by kernel_rfl) (by simp) ?_
          refine AllReadyH.cons rfl (fun K hK => ?_) AllReadyH.nil
          have hsw := asX.bl.size
          refine step_append_lies _ (by rfl) _ _ 49 (by rfl) w.heap.size 92 j0 (.agg #[.int .i64 0, .int .i64 0, .int .i64 0]) 3 24 Try.underlying49 hj hy0 hy1 hy2 (by rfl) (by omega) v (R.mi k).length (ints (R.msN k)) (by rfl) asX.om ⟨wr.heap.size, 0, none⟩ 1 1 [.int .i64 (k : Int), .int .i64 sx, .int .i64 vx] (by rfl) (by rfl) (fun j u hu => by rw [Addr.add_mid, Nat.zero_add, blk_cell kX, List.getElem?_toArray, hu]) (by simp [Value.oneCell']) (by omega) (by unfold maxLen; omega) (by omega) (by omega) _ (by rfl) ?_
          intro g3 cap3 Y hown3 hgrow3 hat3 hlt3
          obtain ⟨y4, yz, BY, hasZ⟩ := asX.putM (by omega) (by omega) HinS.out (by rw [Hsx.out, Hvx.out]; exact hown3) hgrow3
          refine hK.out _ _ (HS.out Y BY) (fun hHeld => ?_)
          clear hK K
          refine tkI 22 (.pointer (some ⟨W2.heap.size, 4, none⟩)) rfl hHeld ?_
          simp only [Act.put, gA, gB, gC, gD, gE, gF]
          refine wpAnyH_ready (rs := [23]) (by kernel_rfl) (by simp) ?_
          refine AllReadyH.cons rfl (fun K hK => ?_) AllReadyH.nil
          obtain ⟨Z, hZ⟩ : ∃ Z, Y.setCell ⟨W2.heap.size, 4, none⟩ (.slice (some ⟨g3, 0, none⟩) ((R.mi k).length + 1) cap3) = Z := ⟨_, rfl⟩
          rw [hZ] at hasZ
          go_simp
          refine hK.out _ _ (HS.out Z hasZ.bl) (fun hHeld => ?_)
          clear hK K
          refine wpAnyH_done (by kernel_rfl) ?_ _
          obtain ⟨vN, hvN⟩ : ∃ vN, Value.slice (some ⟨g3, 0, none⟩) ((R.mi k).length + 1) cap3 = vN := ⟨_, rfl⟩
          rw [hvN] at hasZ
          clear hown3 hgrow3 hat3 hlt3 y4 yz BY kX bX asX d9 ds d17 dv x0 x1 x9 es ev hvN
          have HasZ : Hid (AS R w Z w.heap.size W2.heap.size (k + 1) k vN u7) := hasZ
          have z1c : Z.cell? ⟨R.b, 1, none⟩ = some (.int .i64 (R.self : Int)) := below_at hasZ.bl c1w
          clear hasZ hZ hHeld
          by_cases hself : k = R.self
          · have e1 : ((k : Int) == (R.self : Int)) = true := by simp [hself]
            have ho7 := HasZ.out.ot
            have hl7 := R.trN_len k
            generalize hI7 : ints (R.trN k) = I7 at ho7
            generalize hm7 : (R.trN k).length = m7 at ho7 hl7
            have HO7 : Hid (Z.ownsRow w.heap.size 3 1 u7 m7 I7) := ho7
            have hzs := HasZ.out.bl.size
            have hTp : R.tpN (k + 1) = tp := by rw [HTp0.out]; unfold Rg.tpS; rw [if_pos HinS.out, if_pos hself]
            have HEG : Hid (∀ (g5 cap5 : Nat) (w5 : World) (o : Obj), w5.ownsRow w.heap.size 3 1 (.slice (some ⟨g5, 0, none⟩) (m7 + 1) cap5) (m7 + 1) (I7 ++ [.int .i64 (k : Int)]) → (Z.alloc o).grownBy w5 u7.ownBlock → (∃ (k_1 : Nat) (v : Value), k_1 ≤ R.n ∧ Value.int .i64 ((k : Int) + 1) = .int .i64 (k_1 : Int) ∧ Value.int .i64 tp = .int .i64 (R.tpN k_1) ∧ AS R w w5 w.heap.size W2.heap.size k_1 k_1 v (.slice (some ⟨g5, 0, none⟩) (m7 + 1) cap5))) := fun g5 cap5 w5 o ho hg => ⟨k + 1, _, by omega, by simp, by rw [hTp], hm7 ▸ HasZ.out.putT (by rw [HinS.out]; unfold Rg.tg; rw [decide_eq_true hself]; rfl) (by rw [hI7, hm7]; exact ho) hg⟩
            clear ho7 hTp hself
            go_wp2_with (first
              | (at_builtin
                 refine wpList_append_lies _ rfl _ _ 36 rfl w.heap.size 3 i0 (.int .i64 0) 1 8 Try.underlying36 hi hz0 hz1 hz2 rfl (by omega) u7 m7 I7 rfl (World.ownsRow.alloc HO7.out _) _ 1 1 _ rfl rfl (World.news_of_block (heap_alloc_new _ _)) (by simp [Value.oneCell']) (by omega) (by unfold maxLen; omega) (by omega) (by simp; omega) _ rfl ?_
                 intro g5 cap5 w5 hown5 hgrow5 hat5 hlt5
                 have HE : Hid (∃ (k_1 : Nat) (v : Value), k_1 ≤ R.n ∧ Value.int .i64 ((k : Int) + 1) = .int .i64 (k_1 : Int) ∧ Value.int .i64 tp = .int .i64 (R.tpN k_1) ∧ AS R w w5 w.heap.size W2.heap.size k_1 k_1 v (.slice (some ⟨g5, 0, none⟩) (m7 + 1) cap5)) := HEG.out g5 cap5 w5 _ (by simpa using hown5) hgrow5
                 clear hown5 hgrow5 hat5 hlt5 HEG)
              | fail)
            first
              | exact ⟨HE.out, by simp [intOf]; omega⟩
              | (go_roundw
                 case rel => exact HE.out
                 case measure => simp [intOf]; omega)
          · have e1 : ((k : Int) == (R.self : Int)) = false := by simp; omega
            obtain ⟨j, hj⟩ := HLk.out hself
            have HLa := rlatest_any (Hh.out.still HasZ.out.bl) (k : Int) hL
            rw [hj] at HLa
            have HLn : Hid (Calls Try.prog 40 #[.pointer (some ⟨R.b, 0, none⟩), .int .i64 (k : Int)] Z fun e w' => e = .returned (.int .i64 (j : Int)) ∧ Below Z.heap.size Z w') := HLa
            have hjl := latN_lt R.all k R.all.length j hj
            obtain ⟨g, hc, hv, hrg, hrs, hrv, hsl, hvl, hpl⟩ := (Hh.out.still HasZ.out.bl).elem hjl
            have x18 := (Hh.out.still HasZ.out.bl).call
            rw [hv] at x18
            have hTp1 : R.tpN (k + 1) = (if tp < (R.all.getD j h0).p.top then (R.all.getD j h0).p.top else tp) := by rw [HTp0.out]; unfold Rg.tpS; rw [if_pos HinS.out, if_neg hself, hj]
            have hTG : R.tg k = (decide ((R.all.getD j h0).p.prev = R.own.prev) && !(decide ((R.all.getD j h0).p.prev = [0, 0, 0, 0]))) := by unfold Rg.tg; rw [decide_eq_false hself, hj]; rfl
            generalize R.all.getD j h0 = y at hrg hrs hrv hsl hvl hpl hTp1 hTG
            obtain ⟨a0, a1, a2, a3, hpv⟩ := list4e y.p.prev hpl
            have HSameG : Hid (∀ W, Calls Try.prog 50 #[.agg [.int .i64 a0, .int .i64 a1, .int .i64 a2, .int .i64 a3].toArray, .agg [.int .i64 b0, .int .i64 b1, .int .i64 b2, .int .i64 b3].toArray] W fun e w' => e = .returned (.bool (decide (y.p.prev = R.own.prev))) ∧ Below W.heap.size W w') := fun W => by rw [hpv, Hop.out]; exact qsid_any [a0, a1, a2, a3] [b0, b1, b2, b3] rfl rfl
            have HNoneG : Hid (∀ W, Calls Try.prog 51 #[.agg [.int .i64 a0, .int .i64 a1, .int .i64 a2, .int .i64 a3].toArray] W fun e w' => e = .returned (.bool (decide (y.p.prev = [0, 0, 0, 0]))) ∧ Below W.heap.size W w') := fun W => by rw [hpv]; exact qnone_any [a0, a1, a2, a3] rfl
            have HTG : Hid (R.tg k = (decide (y.p.prev = R.own.prev) && !(decide (y.p.prev = [0, 0, 0, 0])))) := hTG
            have jj1 : (0 : Int) ≤ (j : Int) := Int.natCast_nonneg _
            have jj2 : (j : Int) < (R.all.length : Int) := by omega
            have HRG : Hid (Z.rangeAt g (j * 11 + 2) [.slice y.p.sa y.p.sn y.p.sc, .int .i64 y.p.cid, .int .i64 y.p.rev, .int .i64 y.p.top, .int .i64 a0, .int .i64 a1, .int .i64 a2, .int .i64 a3, .slice y.p.va y.p.vn y.p.vc]) := by
              intro i u hu
              have hi9 : i < 9 := (List.getElem?_eq_some_iff.1 hu).1
              have := hrg (i + 2) u (by rw [← hu]; simp [Hx.cs, hpv])
              rw [show j * 11 + (i + 2) = j * 11 + 2 + i by omega] at this
              exact this
            clear hj HLa hv hrg hrs hrv hsl hvl hTG hpl
            go_wp2_with (fail)
            refine HLn.out.mono ?_
            rintro e z1 ⟨rfl, hb1⟩
            have c18 : z1.cell? ⟨R.b, 18, none⟩ = some (.slice (some ⟨g, 0, none⟩) R.all.length hc) := below_at hb1 x18
            have HRG1 : Hid (z1.rangeAt g (j * 11 + 2) [.slice y.p.sa y.p.sn y.p.sc, .int .i64 y.p.cid, .int .i64 y.p.rev, .int .i64 y.p.top, .int .i64 a0, .int .i64 a1, .int .i64 a2, .int .i64 a3, .slice y.p.va y.p.vn y.p.vc]) := rng_below HRG.out hb1
            generalize hX2 : z1.alloc (.cells [.slice y.p.sa y.p.sn y.p.sc, .int .i64 y.p.cid, .int .i64 y.p.rev, .int .i64 y.p.top, .int .i64 a0, .int .i64 a1, .int .i64 a2, .int .i64 a3, .slice y.p.va y.p.vn y.p.vc].toArray 40) = X2
            have bX2 : Below z1.heap.size z1 X2 := by rw [← hX2]; exact balloc (Below.refl _ _)
            have kX2 : X2.heap[z1.heap.size]? = some (.cells [.slice y.p.sa y.p.sn y.p.sc, .int .i64 y.p.cid, .int .i64 y.p.rev, .int .i64 y.p.top, .int .i64 a0, .int .i64 a1, .int .i64 a2, .int .i64 a3, .slice y.p.va y.p.vn y.p.vc].toArray 40 (0, 0)) := by rw [← hX2]; exact heap_alloc_new z1 _
            have y3 : X2.cell? ⟨z1.heap.size, 3, none⟩ = some (.int .i64 y.p.top) := blk_cell kX2 3
            have HasX : Hid (AS R w X2 w.heap.size W2.heap.size (k + 1) k vN u7) := (HasZ.out.still hb1).still bX2
            have P4 : Hid (X2.drew.rangeAt z1.heap.size 4 [.int .i64 a0, .int .i64 a1, .int .i64 a2, .int .i64 a3]) := rng_below (range_sub kX2 rfl) (Below.refl _ _).drew
            have P13 : Hid (X2.drew.rangeAt R.b 13 [.int .i64 b0, .int .i64 b1, .int .i64 b2, .int .i64 b3]) := rng_below (H13.out X2 HasX.out.bl) (Below.refl _ _).drew
            have hX2s := lt_heap kX2
            simp only [List.toArray] at hX2
            clear hb1 bX2 kX2 HRG HasZ HLn x18
            by_cases hgt : tp < y.p.top
            · have HTp : Hid (R.tpN (k + 1) = y.p.top) := by show _ = _; rw [hTp1, if_pos hgt]
              have hgt' : decide (tp < y.p.top) = true := decide_eq_true hgt
              clear hTp1
              go_wp2_with (first | (refine load_mid 40 (.tmp 84) HRG1.out _ Try.underlying40 rfl (by kernel_rfl) rfl rfl rfl ?_) | fail)
              clear hgt hgt' HRG1 c18 hX2
              cases e1 : decide (y.p.prev = R.own.prev) with
              | true =>
                cases e2 : decide (y.p.prev = [0, 0, 0, 0]) with
                | true =>
                  have HSame : Hid (Calls Try.prog 50 #[.agg [.int .i64 a0, .int .i64 a1, .int .i64 a2, .int .i64 a3].toArray, .agg [.int .i64 b0, .int .i64 b1, .int .i64 b2, .int .i64 b3].toArray] X2.drew fun e w' => e = .returned (.bool true) ∧ Below X2.drew.heap.size X2.drew w') := e1 ▸ HSameG.out X2.drew
                  have HNone : Hid (∀ W, Calls Try.prog 51 #[.agg [.int .i64 a0, .int .i64 a1, .int .i64 a2, .int .i64 a3].toArray] W fun e w' => e = .returned (.bool true) ∧ Below W.heap.size W w') := e2 ▸ HNoneG.out
                  have Htg : Hid (R.tg k = false) := by
                    show _ = _
                    rw [HTG.out]
                    simp [e1, e2]
                  clear HSameG HNoneG HTG
                  go_wp2
                  refine wp_region_held_drew (S := (fun w' => w'.rangeAt z1.heap.size 4 [.int .i64 a0, .int .i64 a1, .int .i64 a2, .int .i64 a3] ∧ w'.rangeAt R.b 13 [.int .i64 b0, .int .i64 b1, .int .i64 b2, .int .i64 b3])) (by kernel_rfl) ⟨P4.out, P13.out⟩ (fun hHeld => ?_)
                  simp only [Act.put, List.size_toArray, List.length_cons, List.length_nil, Nat.zero_add]
                  refine tkI 0 (.pointer (some ⟨z1.heap.size, 4, none⟩)) rfl hHeld ?_
                  simp only [Act.put, gA, gB, gC, gD, gE, gF]
                  refine wpAnyH_take (i := 1) (v := .agg ([.int .i64 a0, .int .i64 a1, .int .i64 a2, .int .i64 a3]).toArray) rfl (by kernel_rfl) (by kernel_rfl) (by kernel_rfl) (fun _ _ _ h => h) (yieldsIf_load_mid (by rfl) 38 (.tmp 92) rfl z1.heap.size (4) (by rfl) ([.int .i64 a0, .int .i64 a1, .int .i64 a2, .int .i64 a3]) _ (fun w' hS => hS.1) Try.underlying38 rfl info_id) hHeld ?_
                  simp only [Act.put, gA, gB, gC, gD, gE, gF]
                  refine tkI 2 (.pointer (some ⟨R.b, 0, none⟩)) rfl hHeld ?_
                  simp only [Act.put, gA, gB, gC, gD, gE, gF]
                  refine tkI 3 (.pointer (some ⟨R.b, 0, none⟩)) rfl hHeld ?_
                  simp only [Act.put, gA, gB, gC, gD, gE, gF]
                  refine tkI 4 (.pointer (some ⟨R.b, 9, none⟩)) rfl hHeld ?_
                  simp only [Act.put, gA, gB, gC, gD, gE, gF]
                  refine tkI 5 (.pointer (some ⟨R.b, 13, none⟩)) rfl hHeld ?_
                  simp only [Act.put, gA, gB, gC, gD, gE, gF]
                  refine wpAnyH_take (i := 6) (v := .agg ([.int .i64 b0, .int .i64 b1, .int .i64 b2, .int .i64 b3]).toArray) rfl (by kernel_rfl) (by kernel_rfl) (by kernel_rfl) (fun _ _ _ h => h) (yieldsIf_load_mid (by rfl) 38 (.tmp 97) rfl R.b (13) (by rfl) ([.int .i64 b0, .int .i64 b1, .int .i64 b2, .int .i64 b3]) _ (fun w' hS => hS.2) Try.underlying38 rfl info_id) hHeld ?_
                  simp only [Act.put, gA, gB, gC, gD, gE, gF]
                  refine wpAnyH_ready (rs := [7]) (by kernel_rfl) (by simp) ?_
                  refine AllReadyH.cons rfl (fun K hK => ?_) AllReadyH.nil
                  go_simp
                  refine (HSame.out).mono ?_
                  rintro e z3 ⟨rfl, hb3⟩
                  have Hb3 : Hid (Below X2.drew.heap.size X2.drew z3) := hb3
                  refine hK.out _ _ ⟨rng_below P4.out hb3, rng_below P13.out hb3⟩ (fun hHeld => ?_)
                  clear hK K
                  refine tkI 8 (.bool true) rfl hHeld ?_
                  simp only [Act.put, gA, gB, gC, gD, gE, gF]
                  refine tkI 9 (.pointer (some ⟨z1.heap.size, 4, none⟩)) rfl hHeld ?_
                  simp only [Act.put, gA, gB, gC, gD, gE, gF]
                  refine wpAnyH_take (i := 10) (v := .agg ([.int .i64 a0, .int .i64 a1, .int .i64 a2, .int .i64 a3]).toArray) rfl (by kernel_rfl) (by kernel_rfl) (by kernel_rfl) (fun _ _ _ h => h) (yieldsIf_load_mid (by rfl) 38 (.tmp 101) rfl z1.heap.size (4) (by rfl) ([.int .i64 a0, .int .i64 a1, .int .i64 a2, .int .i64 a3]) _ (fun w' hS => hS.1) Try.underlying38 rfl info_id) hHeld ?_
                  simp only [Act.put, gA, gB, gC, gD, gE, gF]
                  refine wpAnyH_ready (rs := [11]) (by kernel_rfl) (by simp) ?_
                  refine AllReadyH.cons rfl (fun K hK => ?_) AllReadyH.nil
                  go_simp
                  refine (HNone.out z3).mono ?_
                  rintro e z4 ⟨rfl, hb4⟩
                  have Hb4 : Hid (Below X2.drew.heap.size X2.drew z4) := bstep Hb3.out hb4
                  refine hK.out _ _ ⟨rng_below (rng_below P4.out Hb3.out) hb4, rng_below (rng_below P13.out Hb3.out) hb4⟩ (fun hHeld => ?_)
                  clear hK K
                  refine tkI 12 (.bool false) rfl hHeld ?_
                  simp only [Act.put, gA, gB, gC, gD, gE, gF]
                  refine tkI 13 (.bool false) rfl hHeld ?_
                  simp only [Act.put, gA, gB, gC, gD, gE, gF]
                  refine tkI 14 (.bool false) rfl hHeld ?_
                  simp only [Act.put, gA, gB, gC, gD, gE, gF]
                  refine wpAnyH_done (by kernel_rfl) ?_ _
                  clear hHeld
                  clear hb3 hb4
                  have asz : AS R w z4 w.heap.size W2.heap.size (k + 1) k vN u7 := (HasX.out.still (Below.refl _ _).drew).still Hb4.out
                  have HE : Hid (∃ (k_1 : Nat) (v : Value), k_1 ≤ R.n ∧ Value.int .i64 ((k : Int) + 1) = .int .i64 (k_1 : Int) ∧ Value.int .i64 y.p.top = .int .i64 (R.tpN k_1) ∧ AS R w z4 w.heap.size W2.heap.size k_1 k_1 v u7) := ⟨k + 1, _, by omega, by simp, by rw [HTp.out], asz.skipT (by rw [Htg.out, Bool.and_false])⟩
                  clear asz
                  go_wp2
                  first
                    | exact ⟨HE.out, by simp [intOf]; omega⟩
                    | (go_roundw
                       case rel => exact HE.out
                       case measure => simp [intOf]; omega)
                | false =>
                  have HSame : Hid (Calls Try.prog 50 #[.agg [.int .i64 a0, .int .i64 a1, .int .i64 a2, .int .i64 a3].toArray, .agg [.int .i64 b0, .int .i64 b1, .int .i64 b2, .int .i64 b3].toArray] X2.drew fun e w' => e = .returned (.bool true) ∧ Below X2.drew.heap.size X2.drew w') := e1 ▸ HSameG.out X2.drew
                  have HNone : Hid (∀ W, Calls Try.prog 51 #[.agg [.int .i64 a0, .int .i64 a1, .int .i64 a2, .int .i64 a3].toArray] W fun e w' => e = .returned (.bool false) ∧ Below W.heap.size W w') := e2 ▸ HNoneG.out
                  have Htg : Hid (R.tg k = true) := by
                    show _ = _
                    rw [HTG.out]
                    simp [e1, e2]
                  clear HSameG HNoneG HTG
                  go_wp2
                  refine wp_region_held_drew (S := (fun w' => w'.rangeAt z1.heap.size 4 [.int .i64 a0, .int .i64 a1, .int .i64 a2, .int .i64 a3] ∧ w'.rangeAt R.b 13 [.int .i64 b0, .int .i64 b1, .int .i64 b2, .int .i64 b3])) (by kernel_rfl) ⟨P4.out, P13.out⟩ (fun hHeld => ?_)
                  simp only [Act.put, List.size_toArray, List.length_cons, List.length_nil, Nat.zero_add]
                  refine tkI 0 (.pointer (some ⟨z1.heap.size, 4, none⟩)) rfl hHeld ?_
                  simp only [Act.put, gA, gB, gC, gD, gE, gF]
                  refine wpAnyH_take (i := 1) (v := .agg ([.int .i64 a0, .int .i64 a1, .int .i64 a2, .int .i64 a3]).toArray) rfl (by kernel_rfl) (by kernel_rfl) (by kernel_rfl) (fun _ _ _ h => h) (yieldsIf_load_mid (by rfl) 38 (.tmp 92) rfl z1.heap.size (4) (by rfl) ([.int .i64 a0, .int .i64 a1, .int .i64 a2, .int .i64 a3]) _ (fun w' hS => hS.1) Try.underlying38 rfl info_id) hHeld ?_
                  simp only [Act.put, gA, gB, gC, gD, gE, gF]
                  refine tkI 2 (.pointer (some ⟨R.b, 0, none⟩)) rfl hHeld ?_
                  simp only [Act.put, gA, gB, gC, gD, gE, gF]
                  refine tkI 3 (.pointer (some ⟨R.b, 0, none⟩)) rfl hHeld ?_
                  simp only [Act.put, gA, gB, gC, gD, gE, gF]
                  refine tkI 4 (.pointer (some ⟨R.b, 9, none⟩)) rfl hHeld ?_
                  simp only [Act.put, gA, gB, gC, gD, gE, gF]
                  refine tkI 5 (.pointer (some ⟨R.b, 13, none⟩)) rfl hHeld ?_
                  simp only [Act.put, gA, gB, gC, gD, gE, gF]
                  refine wpAnyH_take (i := 6) (v := .agg ([.int .i64 b0, .int .i64 b1, .int .i64 b2, .int .i64 b3]).toArray) rfl (by kernel_rfl) (by kernel_rfl) (by kernel_rfl) (fun _ _ _ h => h) (yieldsIf_load_mid (by rfl) 38 (.tmp 97) rfl R.b (13) (by rfl) ([.int .i64 b0, .int .i64 b1, .int .i64 b2, .int .i64 b3]) _ (fun w' hS => hS.2) Try.underlying38 rfl info_id) hHeld ?_
                  simp only [Act.put, gA, gB, gC, gD, gE, gF]
                  refine wpAnyH_ready (rs := [7]) (by kernel_rfl) (by simp) ?_
                  refine AllReadyH.cons rfl (fun K hK => ?_) AllReadyH.nil
                  go_simp
                  refine (HSame.out).mono ?_
                  rintro e z3 ⟨rfl, hb3⟩
                  have Hb3 : Hid (Below X2.drew.heap.size X2.drew z3) := hb3
                  refine hK.out _ _ ⟨rng_below P4.out hb3, rng_below P13.out hb3⟩ (fun hHeld => ?_)
                  clear hK K
                  refine tkI 8 (.bool true) rfl hHeld ?_
                  simp only [Act.put, gA, gB, gC, gD, gE, gF]
                  refine tkI 9 (.pointer (some ⟨z1.heap.size, 4, none⟩)) rfl hHeld ?_
                  simp only [Act.put, gA, gB, gC, gD, gE, gF]
                  refine wpAnyH_take (i := 10) (v := .agg ([.int .i64 a0, .int .i64 a1, .int .i64 a2, .int .i64 a3]).toArray) rfl (by kernel_rfl) (by kernel_rfl) (by kernel_rfl) (fun _ _ _ h => h) (yieldsIf_load_mid (by rfl) 38 (.tmp 101) rfl z1.heap.size (4) (by rfl) ([.int .i64 a0, .int .i64 a1, .int .i64 a2, .int .i64 a3]) _ (fun w' hS => hS.1) Try.underlying38 rfl info_id) hHeld ?_
                  simp only [Act.put, gA, gB, gC, gD, gE, gF]
                  refine wpAnyH_ready (rs := [11]) (by kernel_rfl) (by simp) ?_
                  refine AllReadyH.cons rfl (fun K hK => ?_) AllReadyH.nil
                  go_simp
                  refine (HNone.out z3).mono ?_
                  rintro e z4 ⟨rfl, hb4⟩
                  have Hb4 : Hid (Below X2.drew.heap.size X2.drew z4) := bstep Hb3.out hb4
                  refine hK.out _ _ ⟨rng_below (rng_below P4.out Hb3.out) hb4, rng_below (rng_below P13.out Hb3.out) hb4⟩ (fun hHeld => ?_)
                  clear hK K
                  refine tkI 12 (.bool true) rfl hHeld ?_
                  simp only [Act.put, gA, gB, gC, gD, gE, gF]
                  refine tkI 13 (.bool true) rfl hHeld ?_
                  simp only [Act.put, gA, gB, gC, gD, gE, gF]
                  refine tkI 14 (.bool true) rfl hHeld ?_
                  simp only [Act.put, gA, gB, gC, gD, gE, gF]
                  refine wpAnyH_done (by kernel_rfl) ?_ _
                  clear hHeld
                  clear hb3 hb4
                  have asz : AS R w z4 w.heap.size W2.heap.size (k + 1) k vN u7 := (HasX.out.still (Below.refl _ _).drew).still Hb4.out
                  have ho7 := asz.ot
                  have hl7 := R.trN_len k
                  generalize hI7 : ints (R.trN k) = I7 at ho7
                  generalize hm7 : (R.trN k).length = m7 at ho7 hl7
                  have HO7 : Hid (z4.ownsRow w.heap.size 3 1 u7 m7 I7) := ho7
                  have hzs := asz.bl.size
                  have HEG : Hid (∀ (g5 cap5 : Nat) (w5 : World) (o : Obj), w5.ownsRow w.heap.size 3 1 (.slice (some ⟨g5, 0, none⟩) (m7 + 1) cap5) (m7 + 1) (I7 ++ [.int .i64 (k : Int)]) → (z4.alloc o).grownBy w5 u7.ownBlock → (∃ (k_1 : Nat) (v : Value), k_1 ≤ R.n ∧ Value.int .i64 ((k : Int) + 1) = .int .i64 (k_1 : Int) ∧ Value.int .i64 y.p.top = .int .i64 (R.tpN k_1) ∧ AS R w w5 w.heap.size W2.heap.size k_1 k_1 v (.slice (some ⟨g5, 0, none⟩) (m7 + 1) cap5))) := fun g5 cap5 w5 o ho hg => ⟨k + 1, _, by omega, by simp, by rw [HTp.out], hm7 ▸ asz.putT (by rw [HinS.out, Htg.out]; rfl) (by rw [hI7, hm7]; exact ho) hg⟩
                  clear asz ho7
                  go_wp2_with (first
                    | (at_builtin
                       refine wpList_append_lies _ rfl _ _ 36 rfl w.heap.size 3 i0 (.int .i64 0) 1 8 Try.underlying36 hi hz0 hz1 hz2 rfl (by omega) u7 m7 I7 rfl (World.ownsRow.alloc HO7.out _) _ 1 1 _ rfl rfl (World.news_of_block (heap_alloc_new _ _)) (by simp [Value.oneCell']) (by omega) (by unfold maxLen; omega) (by omega) (by simp; omega) _ rfl ?_
                       intro g5 cap5 w5 hown5 hgrow5 hat5 hlt5
                       have HE : Hid (∃ (k_1 : Nat) (v : Value), k_1 ≤ R.n ∧ Value.int .i64 ((k : Int) + 1) = .int .i64 (k_1 : Int) ∧ Value.int .i64 y.p.top = .int .i64 (R.tpN k_1) ∧ AS R w w5 w.heap.size W2.heap.size k_1 k_1 v (.slice (some ⟨g5, 0, none⟩) (m7 + 1) cap5)) := HEG.out g5 cap5 w5 _ (by simpa using hown5) hgrow5
                       clear hown5 hgrow5 hat5 hlt5 HEG)
                    | fail)
                  first
                    | exact ⟨HE.out, by simp [intOf]; omega⟩
                    | (go_roundw
                       case rel => exact HE.out
                       case measure => simp [intOf]; omega)
              | false =>
                have HSame : Hid (Calls Try.prog 50 #[.agg [.int .i64 a0, .int .i64 a1, .int .i64 a2, .int .i64 a3].toArray, .agg [.int .i64 b0, .int .i64 b1, .int .i64 b2, .int .i64 b3].toArray] X2.drew fun e w' => e = .returned (.bool false) ∧ Below X2.drew.heap.size X2.drew w') := e1 ▸ HSameG.out X2.drew
                have Htg : Hid (R.tg k = false) := by
                  show _ = _
                  rw [HTG.out]
                  simp [e1]
                clear HSameG HNoneG HTG
                go_wp2
                refine wp_region_held_drew (S := (fun w' => w'.rangeAt z1.heap.size 4 [.int .i64 a0, .int .i64 a1, .int .i64 a2, .int .i64 a3] ∧ w'.rangeAt R.b 13 [.int .i64 b0, .int .i64 b1, .int .i64 b2, .int .i64 b3])) (by kernel_rfl) ⟨P4.out, P13.out⟩ (fun hHeld => ?_)
                simp only [Act.put, List.size_toArray, List.length_cons, List.length_nil, Nat.zero_add]
                refine tkI 0 (.pointer (some ⟨z1.heap.size, 4, none⟩)) rfl hHeld ?_
                simp only [Act.put, gA, gB, gC, gD, gE, gF]
                refine wpAnyH_take (i := 1) (v := .agg ([.int .i64 a0, .int .i64 a1, .int .i64 a2, .int .i64 a3]).toArray) rfl (by kernel_rfl) (by kernel_rfl) (by kernel_rfl) (fun _ _ _ h => h) (yieldsIf_load_mid (by rfl) 38 (.tmp 92) rfl z1.heap.size (4) (by rfl) ([.int .i64 a0, .int .i64 a1, .int .i64 a2, .int .i64 a3]) _ (fun w' hS => hS.1) Try.underlying38 rfl info_id) hHeld ?_
                simp only [Act.put, gA, gB, gC, gD, gE, gF]
                refine tkI 2 (.pointer (some ⟨R.b, 0, none⟩)) rfl hHeld ?_
                simp only [Act.put, gA, gB, gC, gD, gE, gF]
                refine tkI 3 (.pointer (some ⟨R.b, 0, none⟩)) rfl hHeld ?_
                simp only [Act.put, gA, gB, gC, gD, gE, gF]
                refine tkI 4 (.pointer (some ⟨R.b, 9, none⟩)) rfl hHeld ?_
                simp only [Act.put, gA, gB, gC, gD, gE, gF]
                refine tkI 5 (.pointer (some ⟨R.b, 13, none⟩)) rfl hHeld ?_
                simp only [Act.put, gA, gB, gC, gD, gE, gF]
                refine wpAnyH_take (i := 6) (v := .agg ([.int .i64 b0, .int .i64 b1, .int .i64 b2, .int .i64 b3]).toArray) rfl (by kernel_rfl) (by kernel_rfl) (by kernel_rfl) (fun _ _ _ h => h) (yieldsIf_load_mid (by rfl) 38 (.tmp 97) rfl R.b (13) (by rfl) ([.int .i64 b0, .int .i64 b1, .int .i64 b2, .int .i64 b3]) _ (fun w' hS => hS.2) Try.underlying38 rfl info_id) hHeld ?_
                simp only [Act.put, gA, gB, gC, gD, gE, gF]
                refine wpAnyH_ready (rs := [7]) (by kernel_rfl) (by simp) ?_
                refine AllReadyH.cons rfl (fun K hK => ?_) AllReadyH.nil
                go_simp
                refine (HSame.out).mono ?_
                rintro e z3 ⟨rfl, hb3⟩
                have Hb3 : Hid (Below X2.drew.heap.size X2.drew z3) := hb3
                refine hK.out _ _ ⟨rng_below P4.out hb3, rng_below P13.out hb3⟩ (fun hHeld => ?_)
                clear hK K
                refine tkI 8 (.bool false) rfl hHeld ?_
                simp only [Act.put, gA, gB, gC, gD, gE, gF]
                refine tkO 9 rfl hHeld ?_
                simp only [Act.put, gA, gB, gC, gD, gE, gF]
                refine tkO 10 rfl hHeld ?_
                simp only [Act.put, gA, gB, gC, gD, gE, gF]
                refine tkO 11 rfl hHeld ?_
                simp only [Act.put, gA, gB, gC, gD, gE, gF]
                refine tkO 12 rfl hHeld ?_
                simp only [Act.put, gA, gB, gC, gD, gE, gF]
                refine tkI 13 (.bool false) rfl hHeld ?_
                simp only [Act.put, gA, gB, gC, gD, gE, gF]
                refine tkI 14 (.bool false) rfl hHeld ?_
                simp only [Act.put, gA, gB, gC, gD, gE, gF]
                refine wpAnyH_done (by kernel_rfl) ?_ _
                clear hHeld
                clear hb3
                have asz : AS R w z3 w.heap.size W2.heap.size (k + 1) k vN u7 := (HasX.out.still (Below.refl _ _).drew).still Hb3.out
                have HE : Hid (∃ (k_1 : Nat) (v : Value), k_1 ≤ R.n ∧ Value.int .i64 ((k : Int) + 1) = .int .i64 (k_1 : Int) ∧ Value.int .i64 y.p.top = .int .i64 (R.tpN k_1) ∧ AS R w z3 w.heap.size W2.heap.size k_1 k_1 v u7) := ⟨k + 1, _, by omega, by simp, by rw [HTp.out], asz.skipT (by rw [Htg.out, Bool.and_false])⟩
                clear asz
                go_wp2
                first
                  | exact ⟨HE.out, by simp [intOf]; omega⟩
                  | (go_roundw
                     case rel => exact HE.out
                     case measure => simp [intOf]; omega)
            · have HTp : Hid (R.tpN (k + 1) = tp) := by show _ = _; rw [hTp1, if_neg hgt]
              have hgt' : decide (tp < y.p.top) = false := decide_eq_false hgt
              clear hTp1
              go_wp2_with (first | (refine load_mid 40 (.tmp 84) HRG1.out _ Try.underlying40 rfl (by kernel_rfl) rfl rfl rfl ?_) | fail)
              clear hgt hgt' HRG1 c18 hX2
              cases e1 : decide (y.p.prev = R.own.prev) with
              | true =>
                cases e2 : decide (y.p.prev = [0, 0, 0, 0]) with
                | true =>
                  have HSame : Hid (Calls Try.prog 50 #[.agg [.int .i64 a0, .int .i64 a1, .int .i64 a2, .int .i64 a3].toArray, .agg [.int .i64 b0, .int .i64 b1, .int .i64 b2, .int .i64 b3].toArray] X2.drew fun e w' => e = .returned (.bool true) ∧ Below X2.drew.heap.size X2.drew w') := e1 ▸ HSameG.out X2.drew
                  have HNone : Hid (∀ W, Calls Try.prog 51 #[.agg [.int .i64 a0, .int .i64 a1, .int .i64 a2, .int .i64 a3].toArray] W fun e w' => e = .returned (.bool true) ∧ Below W.heap.size W w') := e2 ▸ HNoneG.out
                  have Htg : Hid (R.tg k = false) := by
                    show _ = _
                    rw [HTG.out]
                    simp [e1, e2]
                  clear HSameG HNoneG HTG
                  go_wp2
                  refine wp_region_held_drew (S := (fun w' => w'.rangeAt z1.heap.size 4 [.int .i64 a0, .int .i64 a1, .int .i64 a2, .int .i64 a3] ∧ w'.rangeAt R.b 13 [.int .i64 b0, .int .i64 b1, .int .i64 b2, .int .i64 b3])) (by kernel_rfl) ⟨P4.out, P13.out⟩ (fun hHeld => ?_)
                  simp only [Act.put, List.size_toArray, List.length_cons, List.length_nil, Nat.zero_add]
                  refine tkI 0 (.pointer (some ⟨z1.heap.size, 4, none⟩)) rfl hHeld ?_
                  simp only [Act.put, gA, gB, gC, gD, gE, gF]
                  refine wpAnyH_take (i := 1) (v := .agg ([.int .i64 a0, .int .i64 a1, .int .i64 a2, .int .i64 a3]).toArray) rfl (by kernel_rfl) (by kernel_rfl) (by kernel_rfl) (fun _ _ _ h => h) (yieldsIf_load_mid (by rfl) 38 (.tmp 92) rfl z1.heap.size (4) (by rfl) ([.int .i64 a0, .int .i64 a1, .int .i64 a2, .int .i64 a3]) _ (fun w' hS => hS.1) Try.underlying38 rfl info_id) hHeld ?_
                  simp only [Act.put, gA, gB, gC, gD, gE, gF]
                  refine tkI 2 (.pointer (some ⟨R.b, 0, none⟩)) rfl hHeld ?_
                  simp only [Act.put, gA, gB, gC, gD, gE, gF]
                  refine tkI 3 (.pointer (some ⟨R.b, 0, none⟩)) rfl hHeld ?_
                  simp only [Act.put, gA, gB, gC, gD, gE, gF]
                  refine tkI 4 (.pointer (some ⟨R.b, 9, none⟩)) rfl hHeld ?_
                  simp only [Act.put, gA, gB, gC, gD, gE, gF]
                  refine tkI 5 (.pointer (some ⟨R.b, 13, none⟩)) rfl hHeld ?_
                  simp only [Act.put, gA, gB, gC, gD, gE, gF]
                  refine wpAnyH_take (i := 6) (v := .agg ([.int .i64 b0, .int .i64 b1, .int .i64 b2, .int .i64 b3]).toArray) rfl (by kernel_rfl) (by kernel_rfl) (by kernel_rfl) (fun _ _ _ h => h) (yieldsIf_load_mid (by rfl) 38 (.tmp 97) rfl R.b (13) (by rfl) ([.int .i64 b0, .int .i64 b1, .int .i64 b2, .int .i64 b3]) _ (fun w' hS => hS.2) Try.underlying38 rfl info_id) hHeld ?_
                  simp only [Act.put, gA, gB, gC, gD, gE, gF]
                  refine wpAnyH_ready (rs := [7]) (by kernel_rfl) (by simp) ?_
                  refine AllReadyH.cons rfl (fun K hK => ?_) AllReadyH.nil
                  go_simp
                  refine (HSame.out).mono ?_
                  rintro e z3 ⟨rfl, hb3⟩
                  have Hb3 : Hid (Below X2.drew.heap.size X2.drew z3) := hb3
                  refine hK.out _ _ ⟨rng_below P4.out hb3, rng_below P13.out hb3⟩ (fun hHeld => ?_)
                  clear hK K
                  refine tkI 8 (.bool true) rfl hHeld ?_
                  simp only [Act.put, gA, gB, gC, gD, gE, gF]
                  refine tkI 9 (.pointer (some ⟨z1.heap.size, 4, none⟩)) rfl hHeld ?_
                  simp only [Act.put, gA, gB, gC, gD, gE, gF]
                  refine wpAnyH_take (i := 10) (v := .agg ([.int .i64 a0, .int .i64 a1, .int .i64 a2, .int .i64 a3]).toArray) rfl (by kernel_rfl) (by kernel_rfl) (by kernel_rfl) (fun _ _ _ h => h) (yieldsIf_load_mid (by rfl) 38 (.tmp 101) rfl z1.heap.size (4) (by rfl) ([.int .i64 a0, .int .i64 a1, .int .i64 a2, .int .i64 a3]) _ (fun w' hS => hS.1) Try.underlying38 rfl info_id) hHeld ?_
                  simp only [Act.put, gA, gB, gC, gD, gE, gF]
                  refine wpAnyH_ready (rs := [11]) (by kernel_rfl) (by simp) ?_
                  refine AllReadyH.cons rfl (fun K hK => ?_) AllReadyH.nil
                  go_simp
                  refine (HNone.out z3).mono ?_
                  rintro e z4 ⟨rfl, hb4⟩
                  have Hb4 : Hid (Below X2.drew.heap.size X2.drew z4) := bstep Hb3.out hb4
                  refine hK.out _ _ ⟨rng_below (rng_below P4.out Hb3.out) hb4, rng_below (rng_below P13.out Hb3.out) hb4⟩ (fun hHeld => ?_)
                  clear hK K
                  refine tkI 12 (.bool false) rfl hHeld ?_
                  simp only [Act.put, gA, gB, gC, gD, gE, gF]
                  refine tkI 13 (.bool false) rfl hHeld ?_
                  simp only [Act.put, gA, gB, gC, gD, gE, gF]
                  refine tkI 14 (.bool false) rfl hHeld ?_
                  simp only [Act.put, gA, gB, gC, gD, gE, gF]
                  refine wpAnyH_done (by kernel_rfl) ?_ _
                  clear hHeld
                  clear hb3 hb4
                  have asz : AS R w z4 w.heap.size W2.heap.size (k + 1) k vN u7 := (HasX.out.still (Below.refl _ _).drew).still Hb4.out
                  have HE : Hid (∃ (k_1 : Nat) (v : Value), k_1 ≤ R.n ∧ Value.int .i64 ((k : Int) + 1) = .int .i64 (k_1 : Int) ∧ Value.int .i64 tp = .int .i64 (R.tpN k_1) ∧ AS R w z4 w.heap.size W2.heap.size k_1 k_1 v u7) := ⟨k + 1, _, by omega, by simp, by rw [HTp.out], asz.skipT (by rw [Htg.out, Bool.and_false])⟩
                  clear asz
                  go_wp2
                  first
                    | exact ⟨HE.out, by simp [intOf]; omega⟩
                    | (go_roundw
                       case rel => exact HE.out
                       case measure => simp [intOf]; omega)
                | false =>
                  have HSame : Hid (Calls Try.prog 50 #[.agg [.int .i64 a0, .int .i64 a1, .int .i64 a2, .int .i64 a3].toArray, .agg [.int .i64 b0, .int .i64 b1, .int .i64 b2, .int .i64 b3].toArray] X2.drew fun e w' => e = .returned (.bool true) ∧ Below X2.drew.heap.size X2.drew w') := e1 ▸ HSameG.out X2.drew
                  have HNone : Hid (∀ W, Calls Try.prog 51 #[.agg [.int .i64 a0, .int .i64 a1, .int .i64 a2, .int .i64 a3].toArray] W fun e w' => e = .returned (.bool false) ∧ Below W.heap.size W w') := e2 ▸ HNoneG.out
                  have Htg : Hid (R.tg k = true) := by
                    show _ = _
                    rw [HTG.out]
                    simp [e1, e2]
                  clear HSameG HNoneG HTG
                  go_wp2
                  refine wp_region_held_drew (S := (fun w' => w'.rangeAt z1.heap.size 4 [.int .i64 a0, .int .i64 a1, .int .i64 a2, .int .i64 a3] ∧ w'.rangeAt R.b 13 [.int .i64 b0, .int .i64 b1, .int .i64 b2, .int .i64 b3])) (by kernel_rfl) ⟨P4.out, P13.out⟩ (fun hHeld => ?_)
                  simp only [Act.put, List.size_toArray, List.length_cons, List.length_nil, Nat.zero_add]
                  refine tkI 0 (.pointer (some ⟨z1.heap.size, 4, none⟩)) rfl hHeld ?_
                  simp only [Act.put, gA, gB, gC, gD, gE, gF]
                  refine wpAnyH_take (i := 1) (v := .agg ([.int .i64 a0, .int .i64 a1, .int .i64 a2, .int .i64 a3]).toArray) rfl (by kernel_rfl) (by kernel_rfl) (by kernel_rfl) (fun _ _ _ h => h) (yieldsIf_load_mid (by rfl) 38 (.tmp 92) rfl z1.heap.size (4) (by rfl) ([.int .i64 a0, .int .i64 a1, .int .i64 a2, .int .i64 a3]) _ (fun w' hS => hS.1) Try.underlying38 rfl info_id) hHeld ?_
                  simp only [Act.put, gA, gB, gC, gD, gE, gF]
                  refine tkI 2 (.pointer (some ⟨R.b, 0, none⟩)) rfl hHeld ?_
                  simp only [Act.put, gA, gB, gC, gD, gE, gF]
                  refine tkI 3 (.pointer (some ⟨R.b, 0, none⟩)) rfl hHeld ?_
                  simp only [Act.put, gA, gB, gC, gD, gE, gF]
                  refine tkI 4 (.pointer (some ⟨R.b, 9, none⟩)) rfl hHeld ?_
                  simp only [Act.put, gA, gB, gC, gD, gE, gF]
                  refine tkI 5 (.pointer (some ⟨R.b, 13, none⟩)) rfl hHeld ?_
                  simp only [Act.put, gA, gB, gC, gD, gE, gF]
                  refine wpAnyH_take (i := 6) (v := .agg ([.int .i64 b0, .int .i64 b1, .int .i64 b2, .int .i64 b3]).toArray) rfl (by kernel_rfl) (by kernel_rfl) (by kernel_rfl) (fun _ _ _ h => h) (yieldsIf_load_mid (by rfl) 38 (.tmp 97) rfl R.b (13) (by rfl) ([.int .i64 b0, .int .i64 b1, .int .i64 b2, .int .i64 b3]) _ (fun w' hS => hS.2) Try.underlying38 rfl info_id) hHeld ?_
                  simp only [Act.put, gA, gB, gC, gD, gE, gF]
                  refine wpAnyH_ready (rs := [7]) (by kernel_rfl) (by simp) ?_
                  refine AllReadyH.cons rfl (fun K hK => ?_) AllReadyH.nil
                  go_simp
                  refine (HSame.out).mono ?_
                  rintro e z3 ⟨rfl, hb3⟩
                  have Hb3 : Hid (Below X2.drew.heap.size X2.drew z3) := hb3
                  refine hK.out _ _ ⟨rng_below P4.out hb3, rng_below P13.out hb3⟩ (fun hHeld => ?_)
                  clear hK K
                  refine tkI 8 (.bool true) rfl hHeld ?_
                  simp only [Act.put, gA, gB, gC, gD, gE, gF]
                  refine tkI 9 (.pointer (some ⟨z1.heap.size, 4, none⟩)) rfl hHeld ?_
                  simp only [Act.put, gA, gB, gC, gD, gE, gF]
                  refine wpAnyH_take (i := 10) (v := .agg ([.int .i64 a0, .int .i64 a1, .int .i64 a2, .int .i64 a3]).toArray) rfl (by kernel_rfl) (by kernel_rfl) (by kernel_rfl) (fun _ _ _ h => h) (yieldsIf_load_mid (by rfl) 38 (.tmp 101) rfl z1.heap.size (4) (by rfl) ([.int .i64 a0, .int .i64 a1, .int .i64 a2, .int .i64 a3]) _ (fun w' hS => hS.1) Try.underlying38 rfl info_id) hHeld ?_
                  simp only [Act.put, gA, gB, gC, gD, gE, gF]
                  refine wpAnyH_ready (rs := [11]) (by kernel_rfl) (by simp) ?_
                  refine AllReadyH.cons rfl (fun K hK => ?_) AllReadyH.nil
                  go_simp
                  refine (HNone.out z3).mono ?_
                  rintro e z4 ⟨rfl, hb4⟩
                  have Hb4 : Hid (Below X2.drew.heap.size X2.drew z4) := bstep Hb3.out hb4
                  refine hK.out _ _ ⟨rng_below (rng_below P4.out Hb3.out) hb4, rng_below (rng_below P13.out Hb3.out) hb4⟩ (fun hHeld => ?_)
                  clear hK K
                  refine tkI 12 (.bool true) rfl hHeld ?_
                  simp only [Act.put, gA, gB, gC, gD, gE, gF]
                  refine tkI 13 (.bool true) rfl hHeld ?_
                  simp only [Act.put, gA, gB, gC, gD, gE, gF]
                  refine tkI 14 (.bool true) rfl hHeld ?_
                  simp only [Act.put, gA, gB, gC, gD, gE, gF]
                  refine wpAnyH_done (by kernel_rfl) ?_ _
                  clear hHeld
                  clear hb3 hb4
                  have asz : AS R w z4 w.heap.size W2.heap.size (k + 1) k vN u7 := (HasX.out.still (Below.refl _ _).drew).still Hb4.out
                  have ho7 := asz.ot
                  have hl7 := R.trN_len k
                  generalize hI7 : ints (R.trN k) = I7 at ho7
                  generalize hm7 : (R.trN k).length = m7 at ho7 hl7
                  have HO7 : Hid (z4.ownsRow w.heap.size 3 1 u7 m7 I7) := ho7
                  have hzs := asz.bl.size
                  have HEG : Hid (∀ (g5 cap5 : Nat) (w5 : World) (o : Obj), w5.ownsRow w.heap.size 3 1 (.slice (some ⟨g5, 0, none⟩) (m7 + 1) cap5) (m7 + 1) (I7 ++ [.int .i64 (k : Int)]) → (z4.alloc o).grownBy w5 u7.ownBlock → (∃ (k_1 : Nat) (v : Value), k_1 ≤ R.n ∧ Value.int .i64 ((k : Int) + 1) = .int .i64 (k_1 : Int) ∧ Value.int .i64 tp = .int .i64 (R.tpN k_1) ∧ AS R w w5 w.heap.size W2.heap.size k_1 k_1 v (.slice (some ⟨g5, 0, none⟩) (m7 + 1) cap5))) := fun g5 cap5 w5 o ho hg => ⟨k + 1, _, by omega, by simp, by rw [HTp.out], hm7 ▸ asz.putT (by rw [HinS.out, Htg.out]; rfl) (by rw [hI7, hm7]; exact ho) hg⟩
                  clear asz ho7
                  go_wp2_with (first
                    | (at_builtin
                       refine wpList_append_lies _ rfl _ _ 36 rfl w.heap.size 3 i0 (.int .i64 0) 1 8 Try.underlying36 hi hz0 hz1 hz2 rfl (by omega) u7 m7 I7 rfl (World.ownsRow.alloc HO7.out _) _ 1 1 _ rfl rfl (World.news_of_block (heap_alloc_new _ _)) (by simp [Value.oneCell']) (by omega) (by unfold maxLen; omega) (by omega) (by simp; omega) _ rfl ?_
                       intro g5 cap5 w5 hown5 hgrow5 hat5 hlt5
                       have HE : Hid (∃ (k_1 : Nat) (v : Value), k_1 ≤ R.n ∧ Value.int .i64 ((k : Int) + 1) = .int .i64 (k_1 : Int) ∧ Value.int .i64 tp = .int .i64 (R.tpN k_1) ∧ AS R w w5 w.heap.size W2.heap.size k_1 k_1 v (.slice (some ⟨g5, 0, none⟩) (m7 + 1) cap5)) := HEG.out g5 cap5 w5 _ (by simpa using hown5) hgrow5
                       clear hown5 hgrow5 hat5 hlt5 HEG)
                    | fail)
                  first
                    | exact ⟨HE.out, by simp [intOf]; omega⟩
                    | (go_roundw
                       case rel => exact HE.out
                       case measure => simp [intOf]; omega)
              | false =>
                have HSame : Hid (Calls Try.prog 50 #[.agg [.int .i64 a0, .int .i64 a1, .int .i64 a2, .int .i64 a3].toArray, .agg [.int .i64 b0, .int .i64 b1, .int .i64 b2, .int .i64 b3].toArray] X2.drew fun e w' => e = .returned (.bool false) ∧ Below X2.drew.heap.size X2.drew w') := e1 ▸ HSameG.out X2.drew
                have Htg : Hid (R.tg k = false) := by
                  show _ = _
                  rw [HTG.out]
                  simp [e1]
                clear HSameG HNoneG HTG
                go_wp2
                refine wp_region_held_drew (S := (fun w' => w'.rangeAt z1.heap.size 4 [.int .i64 a0, .int .i64 a1, .int .i64 a2, .int .i64 a3] ∧ w'.rangeAt R.b 13 [.int .i64 b0, .int .i64 b1, .int .i64 b2, .int .i64 b3])) (by kernel_rfl) ⟨P4.out, P13.out⟩ (fun hHeld => ?_)
                simp only [Act.put, List.size_toArray, List.length_cons, List.length_nil, Nat.zero_add]
                refine tkI 0 (.pointer (some ⟨z1.heap.size, 4, none⟩)) rfl hHeld ?_
                simp only [Act.put, gA, gB, gC, gD, gE, gF]
                refine wpAnyH_take (i := 1) (v := .agg ([.int .i64 a0, .int .i64 a1, .int .i64 a2, .int .i64 a3]).toArray) rfl (by kernel_rfl) (by kernel_rfl) (by kernel_rfl) (fun _ _ _ h => h) (yieldsIf_load_mid (by rfl) 38 (.tmp 92) rfl z1.heap.size (4) (by rfl) ([.int .i64 a0, .int .i64 a1, .int .i64 a2, .int .i64 a3]) _ (fun w' hS => hS.1) Try.underlying38 rfl info_id) hHeld ?_
                simp only [Act.put, gA, gB, gC, gD, gE, gF]
                refine tkI 2 (.pointer (some ⟨R.b, 0, none⟩)) rfl hHeld ?_
                simp only [Act.put, gA, gB, gC, gD, gE, gF]
                refine tkI 3 (.pointer (some ⟨R.b, 0, none⟩)) rfl hHeld ?_
                simp only [Act.put, gA, gB, gC, gD, gE, gF]
                refine tkI 4 (.pointer (some ⟨R.b, 9, none⟩)) rfl hHeld ?_
                simp only [Act.put, gA, gB, gC, gD, gE, gF]
                refine tkI 5 (.pointer (some ⟨R.b, 13, none⟩)) rfl hHeld ?_
                simp only [Act.put, gA, gB, gC, gD, gE, gF]
                refine wpAnyH_take (i := 6) (v := .agg ([.int .i64 b0, .int .i64 b1, .int .i64 b2, .int .i64 b3]).toArray) rfl (by kernel_rfl) (by kernel_rfl) (by kernel_rfl) (fun _ _ _ h => h) (yieldsIf_load_mid (by rfl) 38 (.tmp 97) rfl R.b (13) (by rfl) ([.int .i64 b0, .int .i64 b1, .int .i64 b2, .int .i64 b3]) _ (fun w' hS => hS.2) Try.underlying38 rfl info_id) hHeld ?_
                simp only [Act.put, gA, gB, gC, gD, gE, gF]
                refine wpAnyH_ready (rs := [7]) (by kernel_rfl) (by simp) ?_
                refine AllReadyH.cons rfl (fun K hK => ?_) AllReadyH.nil
                go_simp
                refine (HSame.out).mono ?_
                rintro e z3 ⟨rfl, hb3⟩
                have Hb3 : Hid (Below X2.drew.heap.size X2.drew z3) := hb3
                refine hK.out _ _ ⟨rng_below P4.out hb3, rng_below P13.out hb3⟩ (fun hHeld => ?_)
                clear hK K
                refine tkI 8 (.bool false) rfl hHeld ?_
                simp only [Act.put, gA, gB, gC, gD, gE, gF]
                refine tkO 9 rfl hHeld ?_
                simp only [Act.put, gA, gB, gC, gD, gE, gF]
                refine tkO 10 rfl hHeld ?_
                simp only [Act.put, gA, gB, gC, gD, gE, gF]
                refine tkO 11 rfl hHeld ?_
                simp only [Act.put, gA, gB, gC, gD, gE, gF]
                refine tkO 12 rfl hHeld ?_
                simp only [Act.put, gA, gB, gC, gD, gE, gF]
                refine tkI 13 (.bool false) rfl hHeld ?_
                simp only [Act.put, gA, gB, gC, gD, gE, gF]
                refine tkI 14 (.bool false) rfl hHeld ?_
                simp only [Act.put, gA, gB, gC, gD, gE, gF]
                refine wpAnyH_done (by kernel_rfl) ?_ _
                clear hHeld
                clear hb3
                have asz : AS R w z3 w.heap.size W2.heap.size (k + 1) k vN u7 := (HasX.out.still (Below.refl _ _).drew).still Hb3.out
                have HE : Hid (∃ (k_1 : Nat) (v : Value), k_1 ≤ R.n ∧ Value.int .i64 ((k : Int) + 1) = .int .i64 (k_1 : Int) ∧ Value.int .i64 tp = .int .i64 (R.tpN k_1) ∧ AS R w z3 w.heap.size W2.heap.size k_1 k_1 v u7) := ⟨k + 1, _, by omega, by simp, by rw [HTp.out], asz.skipT (by rw [Htg.out, Bool.and_false])⟩
                clear asz
                go_wp2
                first
                  | exact ⟨HE.out, by simp [intOf]; omega⟩
                  | (go_roundw
                     case rel => exact HE.out
                     case measure => simp [intOf]; omega)
    · obtain rfl : k = R.n := by omega
      obtain ⟨mv, mc, rfl⟩ := own_slice has.om
      obtain ⟨g, hgm, hrg⟩ := (own_rdM has.om).at (i := 0) hpos
      subst hgm
      obtain ⟨rest, hms⟩ := msN_first R R.n hpos
      rw [hms] at hrg
      have j2 : decide ((R.n : Int) < (R.n : Int)) = false := decide_eq_false (by omega)
      have c4 : wr.cell? ⟨W2.heap.size, 4, none⟩ = some (.slice (some ⟨g, 0, none⟩) (R.mi R.n).length mc) := blk_cell has.b6 4
      have i1 : (0 : Int) < ((R.mi R.n).length : Int) := by omega
      obtain ⟨f, hf⟩ : ∃ f, (R.mi R.n).getD 0 0 = f := ⟨_, rfl⟩
      obtain ⟨sx, hsx⟩ : ∃ sx, R.own.ss.getD ((R.mi R.n).getD 0 0) 0 = sx := ⟨_, rfl⟩
      obtain ⟨vx, hvx⟩ : ∃ vx, R.own.vs.getD ((R.mi R.n).getD 0 0) 0 = vx := ⟨_, rfl⟩
      have hrg' : wr.rangeAt g 0 [.int .i64 (f : Int), .int .i64 sx, .int .i64 vx] := by
        have := hrg
        rw [hsx, hvx, hf] at this
        simpa [ints] using this
      have HRG : Hid (wr.rangeAt g 0 [.int .i64 (f : Int), .int .i64 sx, .int .i64 vx]) := hrg'
      obtain ⟨tp, htp⟩ : ∃ tp, R.tpN R.n = tp := ⟨_, rfl⟩
      rw [htp] at ht ⊢
      generalize hX : wr.alloc (.cells [.int .i64 (f : Int), .int .i64 sx, .int .i64 vx].toArray 92) = X
      have bX : Below wr.heap.size wr X := by rw [← hX]; exact balloc (Below.refl _ _)
      have kX : X.heap[wr.heap.size]? = some (.cells [.int .i64 (f : Int), .int .i64 sx, .int .i64 vx].toArray 92 (0, 0)) := by rw [← hX]; exact heap_alloc_new wr _
      have y0 : X.cell? ⟨wr.heap.size, 0, none⟩ = some (.int .i64 (f : Int)) := blk_cell kX 0
      have y1 : X.cell? ⟨wr.heap.size, 1, none⟩ = some (.int .i64 sx) := blk_cell kX 1
      have y2 : X.cell? ⟨wr.heap.size, 2, none⟩ = some (.int .i64 vx) := blk_cell kX 2
      have asX := has.still bX
      have T6 : Hid (X.there W2.heap.size 0 4) := blk_there' asX.b6 (by simp)
      generalize hY : X.setCells W2.heap.size 0 [.int .i64 (tp + 1), .int .i64 (f : Int), .int .i64 sx, .int .i64 vx] = Y
      have kkY : Kept X Y (fun j => j = W2.heap.size) := by rw [← hY]; exact ksets (P := fun j => j = W2.heap.size) (b := W2.heap.size) rfl _ 0 X
      have k6Y : Y.heap[W2.heap.size]? = some (.cells [.int .i64 (tp + 1), .int .i64 (f : Int), .int .i64 sx, .int .i64 vx, .slice (some ⟨g, 0, none⟩) (R.mi R.n).length mc].toArray 51 (0, 0)) := by rw [← hY]; exact sets_list [.int .i64 (tp + 1), .int .i64 (f : Int), .int .i64 sx, .int .i64 vx] 0 X _ asX.b6 (by simp)
      have k2Y := kkY.obj asX.b2 (by omega)
      have R6 : Hid (Y.rangeAt W2.heap.size 0 [.int .i64 (tp + 1), .int .i64 (f : Int), .int .i64 sx, .int .i64 vx, .slice (some ⟨g, 0, none⟩) (R.mi R.n).length mc]) := blk_range k6Y
      have T2 : Hid (Y.there w.heap.size 0 5) := blk_there k2Y rfl
      generalize hZ : Y.setCells w.heap.size 0 [.int .i64 (tp + 1), .int .i64 (f : Int), .int .i64 sx, .int .i64 vx, .slice (some ⟨g, 0, none⟩) (R.mi R.n).length mc] = Z
      have kkZ : Kept Y Z (fun j => j = w.heap.size) := by rw [← hZ]; exact ksets (P := fun j => j = w.heap.size) (b := w.heap.size) rfl _ 0 Y
      have k2Z : Z.heap[w.heap.size]? = some (.cells [.int .i64 (tp + 1), .int .i64 (f : Int), .int .i64 sx, .int .i64 vx, .slice (some ⟨g, 0, none⟩) (R.mi R.n).length mc].toArray 51 (0, 0)) := by rw [← hZ]; exact sets_whole k2Y rfl
      have omY := kkY.owns asX.om (own_ne asX.om asX.b6 (by decide))
      have otY := kkY.owns asX.ot (own_ne asX.ot asX.b6 (by decide))
      have bY : Below w.heap.size w Y := asX.bl.trans (kkY.below asX.bl.size (fun q hq e => by omega))
      have HFin : Hid (∃ g' c' v', Ending.returned (.tuple #[.agg [.int .i64 (tp + 1), .int .i64 (f : Int), .int .i64 sx, .int .i64 vx, .slice (some ⟨g, 0, none⟩) (R.mi R.n).length mc].toArray, u7, .bool true]) = .returned (.tuple #[.agg [.int .i64 (R.tpN R.n + 1), .int .i64 (((R.mi R.n).getD 0 0 : Nat) : Int), .int .i64 (R.own.ss.getD ((R.mi R.n).getD 0 0) 0), .int .i64 (R.own.vs.getD ((R.mi R.n).getD 0 0) 0), .slice (some ⟨g', 0, none⟩) (R.mi R.n).length c'].toArray, v', .bool true]) ∧ Z.ownsRow w.heap.size 92 3 (.slice (some ⟨g', 0, none⟩) (R.mi R.n).length c') (R.mi R.n).length (ints (R.msN R.n)) ∧ Z.ownsRow w.heap.size 3 1 v' (R.trN R.n).length (ints (R.trN R.n)) ∧ Below w.heap.size w Z) := ⟨g, mc, u7, by rw [htp, hsx, hvx, hf], kkZ.owns omY (own_ne omY k2Y (by decide)), kkZ.owns otY (own_ne otY k2Y (by decide)), bY.trans (kkZ.below bY.size (fun q hq e => by omega))⟩
      have K2Z : Hid (Z.heap[w.heap.size]? = some (.cells [.int .i64 (tp + 1), .int .i64 (f : Int), .int .i64 sx, .int .i64 vx, .slice (some ⟨g, 0, none⟩) (R.mi R.n).length mc].toArray 51 (0, 0))) := k2Z
      have hov1 : -9223372036854775808 ≤ tp + 1 := by omega
      have hov2 : tp + 1 ≤ 9223372036854775807 := by omega
      simp only [List.toArray] at hX
      clear hR has hrg hrg' bX kX asX kkY k6Y k2Y kkZ k2Z omY otY bY hms hf hsx hvx
      go_wp2_with (first
        | (refine load_mid 92 (.tmp 113) HRG.out _ Try.underlying92 rfl (by kernel_rfl) rfl rfl rfl ?_)
        | (refine build_stepG 38 _ [.int .i64 (tp + 1), .int .i64 (f : Int), .int .i64 sx, .int .i64 vx].toArray rfl rfl (by kernel_rfl) ?_)
        | (refine store_midL 38 (.tmp 124) (.tmp 123) (L := [.int .i64 (tp + 1), .int .i64 (f : Int), .int .i64 sx, .int .i64 vx]) T6.out info_id (by simp [Value.oneCell']) rfl rfl rfl rfl ?_; rw [hY])
        | (refine load_mid 51 (.tmp 6) R6.out _ Try.underlying51 rfl (by kernel_rfl) rfl rfl rfl ?_)
        | (refine store_midL 51 (.tmp 2) (.tmp 125) (L := [.int .i64 (tp + 1), .int .i64 (f : Int), .int .i64 sx, .int .i64 vx, .slice (some ⟨g, 0, none⟩) (R.mi R.n).length mc]) T2.out info_view (by simp [Value.oneCell']) rfl rfl rfl rfl ?_; rw [hZ])
        | fail)
      (try simp only [Exit.inBlock, Exit.then])
      refine bodyPost_ret (v := .tuple #[.agg [.int .i64 (tp + 1), .int .i64 (f : Int), .int .i64 sx, .int .i64 vx, .slice (some ⟨g, 0, none⟩) (R.mi R.n).length mc].toArray, u7, .bool true]) ?_ ?_ ?_
      · exact results_cell_tmp2 rfl _ _ w.heap.size 51 _ _ _ _ rfl rfl rfl K2Z.out Try.underlying51 rfl (by kernel_rfl)
      · rfl
      · exact HFin.out
end
end Go.Proofs.Ytbdefhagpgpoiac.Mb
