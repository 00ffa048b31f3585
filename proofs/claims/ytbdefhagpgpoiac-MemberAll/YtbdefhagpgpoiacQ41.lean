import Derived.Test.YtbdefhagpgpoiacQ00
import Derived.Test.YtbdefhagpgpoiacQ40
import Derived.Test.YtbdefhagpgpoiacQ39
import Derived.Test.YtbdefhagpgpoiacQ30
namespace Go.Proofs.Ytbdefhagpgpoiac.Mb
open Go.RowKit
set_option linter.unusedVariables false
set_option maxRecDepth 100000
set_option linter.unusedSimpArgs false
section
variable {A A' : Ag} {w w' W : World} {B : Nat} {T : Int} {R R' : Rg}
def Rg.avI (R : Rg) : List Int := [R.tpN R.n + 1, (((R.mi R.n).getD 0 0 : Nat) : Int), R.own.ss.getD ((R.mi R.n).getD 0 0) 0, R.own.vs.getD ((R.mi R.n).getD 0 0) 0]
def Rg.rinst (R : Rg) (mv' : Value) : Rg := { R with id := R.avI, mv := mv', k := (R.mi R.n).length, ms := R.msN R.n, op := false }
set_option maxHeartbeats 2000000 in
theorem rinstall_no (h : R.Ok w B) (hL : R.all.length ≤ 1000000000000) (hl : R.Hlat) (hg : R.ragr = false) : Calls Try.prog 27 #[.pointer (some ⟨R.b, 0, none⟩)] w fun e w' => e = .returned (.tuple #[.agg [.int .i64 0, .int .i64 0, .int .i64 0, .int .i64 0, .slice none 0 0].toArray, .slice none 0 0, .int .i64 61]) ∧ Below w.heap.size w w' := by
  generalize hW1 : w.alloc (.cells [.int .i64 0, .int .i64 0, .int .i64 0, .int .i64 0, .slice none 0 0].toArray 51) = W1
  have b1 : Below w.heap.size w W1 := hW1 ▸ balloc (Below.refl _ _)
  have k1 : W1.heap[w.heap.size]? = some (.cells [.int .i64 0, .int .i64 0, .int .i64 0, .int .i64 0, .slice none 0 0].toArray 51 (0, 0)) := by rw [← hW1]; exact heap_alloc_new w _
  have HI := ragreed_no (h.still b1) hL hl hg
  have HK : Hid (W1.heap[w.heap.size]? = some (.cells [.int .i64 0, .int .i64 0, .int .i64 0, .int .i64 0, .slice none 0 0].toArray 51 (0, 0))) := k1
  have HB1 : Hid (Below w.heap.size w W1) := b1
  simp only [List.toArray] at hW1
  clear h b1 k1
  go_enter Try.func27, Try.ntmps27
  go_wp2_with (fail)
  refine HI.mono ?_
  rintro e W2 ⟨rfl, hb2⟩
  have k2 := (hb2.block _ (lt_heap HK.out)).trans HK.out
  generalize hX0 : W2.alloc (.cells [.int .i64 0, .int .i64 0, .int .i64 0, .int .i64 0, .slice none 0 0].toArray 51) = X0
  have bX0 : Below W2.heap.size W2 X0 := by rw [← hX0]; exact balloc (Below.refl _ _)
  have kX0 : X0.heap[W2.heap.size]? = some (.cells [.int .i64 0, .int .i64 0, .int .i64 0, .int .i64 0, .slice none 0 0].toArray 51 (0, 0)) := by rw [← hX0]; exact heap_alloc_new W2 _
  have TX0 : Hid (X0.there W2.heap.size 0 5) := blk_there kX0 rfl
  generalize hX : X0.setCells W2.heap.size 0 [.int .i64 0, .int .i64 0, .int .i64 0, .int .i64 0, .slice none 0 0] = X
  have bX : Below W2.heap.size W2 X := by rw [← hX]; exact bsets (Nat.le_refl _) _ 0 bX0
  have kX := (bX.block _ (lt_heap k2)).trans k2
  have TX : Hid (X.there w.heap.size 0 5) := blk_there kX rfl
  generalize hM : X.setCells w.heap.size 0 [.int .i64 0, .int .i64 0, .int .i64 0, .int .i64 0, .slice none 0 0] = M
  have kkM : Kept X M (fun j => j = w.heap.size) := by rw [← hM]; exact ksets (P := fun j => j = w.heap.size) (b := w.heap.size) rfl _ 0 X
  have kM : M.heap[w.heap.size]? = some (.cells [.int .i64 0, .int .i64 0, .int .i64 0, .int .i64 0, .slice none 0 0].toArray 51 (0, 0)) := by rw [← hM]; exact sets_whole kX rfl
  have BX := bstep (bstep HB1.out hb2) bX
  have HF : Hid (Below w.heap.size w M) := BX.trans (kkM.below BX.size (fun q hq e => by omega))
  simp only [List.toArray] at hX0
  clear HI hb2 k2 bX kX kkM BX hW1 bX0 kX0
  go_wp2_with (first
    | (refine store_midL 51 (.tmp 5) (.tmp 11) (L := [.int .i64 0, .int .i64 0, .int .i64 0, .int .i64 0, .slice none 0 0]) TX0.out info_view (by simp [Value.oneCell']) rfl rfl rfl rfl ?_; rw [hX])
    | (refine store_midL 51 (.tmp 2) (.tmp 16) (L := [.int .i64 0, .int .i64 0, .int .i64 0, .int .i64 0, .slice none 0 0]) TX.out info_view (by simp [Value.oneCell']) rfl rfl rfl rfl ?_; rw [hM])
    | fail)
  (try simp only [Exit.inBlock, Exit.then])
  refine bodyPost_ret (v := .tuple #[.agg [.int .i64 0, .int .i64 0, .int .i64 0, .int .i64 0, .slice none 0 0].toArray, .slice none 0 0, .int .i64 61]) ?_ ?_ ?_
  · exact results_cell_tmp2 rfl _ _ w.heap.size 51 _ _ _ _ rfl rfl rfl kM Try.underlying51 rfl (by kernel_rfl)
  · rfl
  · exact ⟨rfl, HF.out⟩
set_option maxHeartbeats 4000000 in
theorem rinstall_yes (h : R.Ok w B) (hL : R.all.length ≤ 1000000000000) (hl : R.Hlat) (hg : R.ragr = true) (hs : R.own.ss.getD R.self 0 ≠ 0) (ht : 0 ≤ R.tpN R.n ∧ R.tpN R.n ≤ 4611686018427387904) : Calls Try.prog 27 #[.pointer (some ⟨R.b, 0, none⟩)] w fun e w' => ∃ g' c' v' mv', e = .returned (.tuple #[.agg [.int .i64 (R.tpN R.n + 1), .int .i64 (((R.mi R.n).getD 0 0 : Nat) : Int), .int .i64 (R.own.ss.getD ((R.mi R.n).getD 0 0) 0), .int .i64 (R.own.vs.getD ((R.mi R.n).getD 0 0) 0), .slice (some ⟨g', 0, none⟩) (R.mi R.n).length c'].toArray, v', .int .i64 0]) ∧ w'.ownsRow w.heap.size 92 3 (.slice (some ⟨g', 0, none⟩) (R.mi R.n).length c') (R.mi R.n).length (ints (R.msN R.n)) ∧ w'.ownsRow w.heap.size 3 1 v' (R.trN R.n).length (ints (R.trN R.n)) ∧ (R.rinst mv').Ok w' B ∧ Kept w w' (fun j => j = R.b) := by
  have h16 := h.n16
  have hpos : 0 < (R.mi R.n).length := List.length_pos_of_mem (List.mem_filter.2 ⟨List.mem_range.2 h16.2.2, by unfold Rg.inS; simpa using hs⟩)
  have hm16 : (R.mi R.n).length ≤ 16 := by have := R.mi_len R.n; omega
  have hlt := lt_heap h.blk
  generalize hW1 : w.alloc (.cells [.int .i64 0, .int .i64 0, .int .i64 0, .int .i64 0, .slice none 0 0].toArray 51) = W1
  have b1 : Below w.heap.size w W1 := hW1 ▸ balloc (Below.refl _ _)
  have k1 : W1.heap[w.heap.size]? = some (.cells [.int .i64 0, .int .i64 0, .int .i64 0, .int .i64 0, .slice none 0 0].toArray 51 (0, 0)) := by rw [← hW1]; exact heap_alloc_new w _
  have HI := ragreed_yes (h.still b1) hL hl hg hs ht
  have HK : Hid (W1.heap[w.heap.size]? = some (.cells [.int .i64 0, .int .i64 0, .int .i64 0, .int .i64 0, .slice none 0 0].toArray 51 (0, 0))) := k1
  have HB1 : Hid (Below w.heap.size w W1) := b1
  have Hh : Hid (R.Ok w B) := h
  obtain ⟨x0, hx0⟩ : ∃ x0, R.tpN R.n + 1 = x0 := ⟨_, rfl⟩
  obtain ⟨x1, hx1⟩ : ∃ x1, (((R.mi R.n).getD 0 0 : Nat) : Int) = x1 := ⟨_, rfl⟩
  obtain ⟨x2, hx2⟩ : ∃ x2, R.own.ss.getD ((R.mi R.n).getD 0 0) 0 = x2 := ⟨_, rfl⟩
  obtain ⟨x3, hx3⟩ : ∃ x3, R.own.vs.getD ((R.mi R.n).getD 0 0) 0 = x3 := ⟨_, rfl⟩
  have hav : R.avI = [x0, x1, x2, x3] := by unfold Rg.avI; rw [hx0, hx1, hx2, hx3]
  have Hav : Hid (R.avI = [x0, x1, x2, x3]) := hav
  rw [hx0, hx1, hx2, hx3] at HI ⊢
  have hs1 : w.heap.size < W1.heap.size := lt_heap k1
  simp only [List.toArray] at hW1
  clear h b1 k1 hl hg hs ht hx0 hx1 hx2 hx3 hav
  go_enter Try.func27, Try.ntmps27
  go_wp2_with (fail)
  refine HI.mono ?_
  rintro e W2 ⟨g, c, v, rfl, om, ot, hb2⟩
  obtain ⟨m, hm⟩ : ∃ m, (R.mi R.n).length = m := ⟨_, rfl⟩
  have Hm : Hid ((R.mi R.n).length = m) := hm
  rw [hm] at om hpos hm16 ⊢
  have k2 := (hb2.block _ (lt_heap HK.out)).trans HK.out
  generalize hX : W2.alloc (.cells [.int .i64 x0, .int .i64 x1, .int .i64 x2, .int .i64 x3, .slice (some ⟨g, 0, none⟩) m c].toArray 51) = X
  have bX : Below W2.heap.size W2 X := by rw [← hX]; exact balloc (Below.refl _ _)
  have kX : X.heap[W2.heap.size]? = some (.cells [.int .i64 x0, .int .i64 x1, .int .i64 x2, .int .i64 x3, .slice (some ⟨g, 0, none⟩) m c].toArray 51 (0, 0)) := by rw [← hX]; exact heap_alloc_new W2 _
  have k2X := (bX.block _ (lt_heap k2)).trans k2
  have HBX : Hid (Below w.heap.size w X) := bstep (bstep HB1.out hb2) bX
  have HomX : Hid (X.ownsRow W1.heap.size 92 3 (.slice (some ⟨g, 0, none⟩) m c) m (ints (R.msN R.n))) := own_still om bX
  have HotX : Hid (X.ownsRow W1.heap.size 3 1 v (R.trN R.n).length (ints (R.trN R.n))) := own_still ot bX
  have RX : Hid (X.rangeAt W2.heap.size 0 [.int .i64 x0, .int .i64 x1, .int .i64 x2, .int .i64 x3, .slice (some ⟨g, 0, none⟩) m c]) := blk_range kX
  have HQ := qview_any (c := c) x0 x1 x2 x3 (own_rdM HomX.out) hm16
  have HKX : Hid ((X.heap[W2.heap.size]? = some (.cells [.int .i64 x0, .int .i64 x1, .int .i64 x2, .int .i64 x3, .slice (some ⟨g, 0, none⟩) m c].toArray 51 (0, 0))) ∧ (X.heap[w.heap.size]? = some (.cells [.int .i64 0, .int .i64 0, .int .i64 0, .int .i64 0, .slice none 0 0].toArray 51 (0, 0)))) := ⟨kX, k2X⟩
  have hs2 : W1.heap.size ≤ W2.heap.size := hb2.size
  have hs3 : W2.heap.size < X.heap.size := lt_heap kX
  simp only [List.toArray] at hX
  clear HI om ot hb2 k2 bX kX k2X hm hW1
  go_wp2_with (first
    | (refine load_mid 51 (.tmp 5) RX.out _ Try.underlying51 rfl (by kernel_rfl) rfl rfl rfl ?_)
    | fail)
  refine HQ.mono ?_
  rintro e W4 ⟨a2, c2, rfl, o4, hb4⟩
  have hR4 := Hh.out.still (bstep HBX.out hb4)
  have k5 := (hb4.block _ (lt_heap HKX.out.1)).trans HKX.out.1
  have k2 := (hb4.block _ (lt_heap HKX.out.2)).trans HKX.out.2
  have om4 := own_still HomX.out hb4
  have ot4 := own_still HotX.out hb4
  have T3 : Hid (W4.there R.b 3 5) := blk_there' hR4.blk (by simp [Rg.cs])
  generalize hM1 : W4.setCells R.b 3 [.int .i64 x0, .int .i64 x1, .int .i64 x2, .int .i64 x3, .slice a2 m c2] = M1
  have kk1 : Kept W4 M1 (fun j => j = R.b) := by rw [← hM1]; exact ksets (P := fun j => j = R.b) (b := R.b) rfl _ 3 W4
  have m1 : M1.heap[R.b]? = some (.cells ({ R with id := [x0, x1, x2, x3], mv := .slice a2 m c2 } : Rg).cs.toArray 57 (0, 0)) := by rw [← hM1]; exact sets_list [.int .i64 x0, .int .i64 x1, .int .i64 x2, .int .i64 x3, .slice a2 m c2] 3 W4 R.cs hR4.blk (by simp [Rg.cs])
  have f8 : M1.cell? ⟨R.b, 8, none⟩ = some (.bool R.op) := blk_cell m1 8
  have z8 : M1.frozen? ⟨R.b, 8, none⟩ = false := frozen_of_row M1 _ _ _ _ m1
  generalize hM2 : M1.setCell ⟨R.b, 8, none⟩ (.bool false) = M2
  have kk2 : Kept M1 M2 (fun j => j = R.b) := by rw [← hM2]; exact kset _ _ _ _ rfl
  have m2 : M2.heap[R.b]? = some (.cells ({ R with id := [x0, x1, x2, x3], mv := .slice a2 m c2, op := false } : Rg).cs.toArray 57 (0, 0)) := by rw [← hM2]; exact blk_set m1 rfl
  have kk := kk1.trans kk2
  have k5' := kk.obj k5 (fun e => blk_ne hR4.blk k5 (by decide) e.symm)
  have k2' := kk.obj k2 (fun e => blk_ne hR4.blk k2 (by decide) e.symm)
  have R5 : Hid (M2.rangeAt W2.heap.size 0 [.int .i64 x0, .int .i64 x1, .int .i64 x2, .int .i64 x3, .slice (some ⟨g, 0, none⟩) m c]) := blk_range k5'
  have T2 : Hid (M2.there w.heap.size 0 5) := blk_there k2' rfl
  generalize hM3 : M2.setCells w.heap.size 0 [.int .i64 x0, .int .i64 x1, .int .i64 x2, .int .i64 x3, .slice (some ⟨g, 0, none⟩) m c] = M3
  have kk3 : Kept M2 M3 (fun j => j = w.heap.size) := by rw [← hM3]; exact ksets (P := fun j => j = w.heap.size) (b := w.heap.size) rfl _ 0 M2
  have k23 : M3.heap[w.heap.size]? = some (.cells [.int .i64 x0, .int .i64 x1, .int .i64 x2, .int .i64 x3, .slice (some ⟨g, 0, none⟩) m c].toArray 51 (0, 0)) := by rw [← hM3]; exact sets_whole k2' rfl
  have m3 := kk3.obj m2 (by omega)
  have own3 : ∀ {b t s n : Nat} {v : Value} {l : List Value}, t ≠ 57 → t ≠ 51 → W4.ownsRow b t s v n l → M3.ownsRow b t s v n l := fun ht1 ht2 ho => by
    have h1 := kk.owns ho (own_ne ho hR4.blk ht1)
    exact kk3.owns h1 (own_ne h1 k2' ht2)
  have hB4 : B ≤ X.heap.size := by have := Hh.out.ge; have := HBX.out.size; omega
  have hBW1 : w.heap.size ≤ W1.heap.size := by omega
  have BW4 := bstep HBX.out hb4
  have HFin : Hid (∃ g' c' v' mv', Ending.returned (.tuple #[.agg [.int .i64 x0, .int .i64 x1, .int .i64 x2, .int .i64 x3, .slice (some ⟨g, 0, none⟩) m c].toArray, v, .int .i64 0]) = .returned (.tuple #[.agg [.int .i64 x0, .int .i64 x1, .int .i64 x2, .int .i64 x3, .slice (some ⟨g', 0, none⟩) (R.mi R.n).length c'].toArray, v', .int .i64 0]) ∧ M3.ownsRow w.heap.size 92 3 (.slice (some ⟨g', 0, none⟩) (R.mi R.n).length c') (R.mi R.n).length (ints (R.msN R.n)) ∧ M3.ownsRow w.heap.size 3 1 v' (R.trN R.n).length (ints (R.trN R.n)) ∧ (R.rinst mv').Ok M3 B ∧ Kept w M3 (fun j => j = R.b)) := by
    rw [Hm.out]
    refine ⟨g, c, v, .slice a2 m c2, rfl, own_lower (own3 (by decide) (by decide) om4) hBW1, own_lower (own3 (by decide) (by decide) ot4) hBW1, ?_, ?_⟩
    · unfold Rg.rinst
      rw [Hm.out, Hav.out]
      exact { hR4 with blk := m3, il := rfl, mem := own_lower (own3 (by decide) (by decide) o4) hB4, k16 := hm16, os := own3 (by decide) (by decide) hR4.os, ov := own3 (by decide) (by decide) hR4.ov, row := own3 (by decide) (by decide) hR4.row, el := fun x hx => ⟨own3 (by decide) (by decide) (hR4.el x hx).1, own3 (by decide) (by decide) (hR4.el x hx).2.1, (hR4.el x hx).2.2⟩ }
    · exact ((Kept.ofBelow BW4 _).trans kk).step kk3 (fun j hj => .inr (by omega))
  have K23 : Hid (M3.heap[w.heap.size]? = some (.cells [.int .i64 x0, .int .i64 x1, .int .i64 x2, .int .i64 x3, .slice (some ⟨g, 0, none⟩) m c].toArray 51 (0, 0))) := k23
  clear HQ o4 hb4 hR4 k5 k2 om4 ot4 kk1 m1 kk2 m2 kk k5' k2' kk3 k23 m3 own3 BW4 HomX HotX HKX
  go_wp2_with (first
    | (refine store_midL 51 (.tmp 21) (.tmp 19) (L := [.int .i64 x0, .int .i64 x1, .int .i64 x2, .int .i64 x3, .slice a2 m c2]) T3.out info_view (by simp [Value.oneCell']) rfl rfl rfl rfl ?_; rw [hM1])
    | (refine load_mid 51 (.tmp 5) R5.out _ Try.underlying51 rfl (by kernel_rfl) rfl rfl rfl ?_)
    | (refine store_midL 51 (.tmp 2) (.tmp 25) (L := [.int .i64 x0, .int .i64 x1, .int .i64 x2, .int .i64 x3, .slice (some ⟨g, 0, none⟩) m c]) T2.out info_view (by simp [Value.oneCell']) rfl rfl rfl rfl ?_; rw [hM3])
    | fail)
  (try simp only [Exit.inBlock, Exit.then])
  refine bodyPost_ret (v := .tuple #[.agg [.int .i64 x0, .int .i64 x1, .int .i64 x2, .int .i64 x3, .slice (some ⟨g, 0, none⟩) m c].toArray, v, .int .i64 0]) ?_ ?_ ?_
  · exact results_cell_tmp2 rfl _ _ w.heap.size 51 _ _ _ _ rfl rfl rfl K23.out Try.underlying51 rfl (by kernel_rfl)
  · rfl
  · exact HFin.out
end
end Go.Proofs.Ytbdefhagpgpoiac.Mb
namespace Go.Proofs.Ytbdefhagpgpoiac.Mb
open Go.RowKit
set_option linter.unusedVariables false
set_option maxRecDepth 100000
set_option linter.unusedSimpArgs false
theorem run_append_both {P : Program} (w : World) (t ty : TypeId) (base : Nat) (e : TypeId) (i : TypeInfo) (z : Value) (size bytes : Nat) (ht : P.underlying t = some (.slice e)) (hi : P.info? e = some i) (hz : i.zero = some z)
    (hsize : i.size = size) (hby : i.bytes = bytes) (hzs : z.cells.size = size) (hsz : 0 < size)
    (v : Value) (n : Nat) (xs : List Value) (hown : w.ownsRow base e size v n xs)
    (ad : Addr) (m c : Nat) (news : List Value) (hl : news.length = m * size) (hnews : ∀ j u, news[j]? = some u → w.cell? (ad.add j) = some u) (h1 : ∀ u ∈ news, u.oneCell' = true)
    (hm : 0 < m) (h63 : n + m ≤ maxLen) (hbytes : (n + m) * bytes ≤ 140737488355328) (hbase : base ≤ w.heap.size) :
    ∃ g cap w', (Builtin.append_ #[t, t] ty #[v, .slice (some ad) m c]).run P w = .ok (.slice (some ⟨g, 0, none⟩) (n + m) cap) w' ∧
      w'.ownsRow base e size (.slice (some ⟨g, 0, none⟩) (n + m) cap) (n + m) (xs ++ news) ∧ w.grownBy w' v.ownBlock ∧ w'.ownsRow base e size v n xs := by
  obtain ⟨g, cap, w', hr, h2, h3, h4, h5⟩ := run_append_lies (P := P) w t ty base e i z size bytes ht hi hz hsize hby hzs hsz v n xs hown ad m c news hl hnews h1 hm h63 hbytes hbase w.heap.size rfl
  refine ⟨g, cap, w', hr, h2, h3, hown.1, ?_⟩
  subst hsize
  subst hby
  have hsmall : n + m ≤ 9223372036854775807 := by simp only [maxLen] at h63; omega
  rcases hown.2 with hn | ⟨g0, cap0, cur, rfl, hbg, hg, hnc, hcm, hcs, htake⟩
  · exact .inl hn
  · right
    by_cases hroom : n + m ≤ cap0
    · have hfit : n * i.size + news.length ≤ cur.size := by rw [hl, hcs, ← Nat.add_mul]; exact Nat.mul_le_mul_right _ hroom
      have hr2 := run_append_room (P := P) w t ty e i ht hi g0 n cap0 cur hg ad m c news hl hnews h1 hroom hfit
      rw [hr2] at hr
      injection hr with e1 e2
      subst e2
      refine ⟨g0, cap0, _, rfl, hbg, setRow_heap w g0 cur _ e _ hg, hnc, hcm, ?_, ?_⟩
      · simp only [List.size_toArray, List.length_append, List.length_take, List.length_drop, Array.length_toList]
        omega
      · rw [htake, List.append_assoc]
        exact List.take_left' hown.1
    · have holds : ∀ j u, xs[j]? = some u → w.cell? ((⟨g0, 0, none⟩ : Addr).add j) = some u := hown.cells (g := g0) rfl
      have hr2 := run_append_grow (P := P) w t ty e i z ht hi hz ⟨g0, 0, none⟩ n cap0 xs hown.1 holds ad m c news hl hnews (by omega) (by omega) (growslice_fits (by omega) hbytes)
      rw [hr2] at hr
      injection hr with e1 e2
      subst e2
      exact ⟨g0, cap0, cur, rfl, hbg, (heap_alloc_old w.drew _ (show g0 < w.drew.heap.size from lt_heap hg)).trans hg, hnc, hcm, hcs, htake⟩
theorem step_append_both {P : Program} (w : World) {ops : Array Oper} {o : Oper} {a : Act} {K : Act → World → Prop} {Q : Exit → Act → World → Prop} {E : Prop} (hgd : o.guard = none) (s x : Operand) (t : TypeId)
    (ho : o.op = .call { callee := .builtin .append, args := #[s, x], argTypes := #[t, t] })
    (base : Nat) (e : TypeId) (i : TypeInfo) (z : Value) (size bytes : Nat) (ht : P.underlying t = some (.slice e)) (hi : P.info? e = some i) (hz : i.zero = some z)
    (hsize : i.size = size) (hby : i.bytes = bytes) (hzs : z.cells.size = size) (hsz : 0 < size)
    (v : Value) (n : Nat) (xs : List Value) (hs : a.eval s = v) (hown : w.ownsRow base e size v n xs)
    (ad : Addr) (m c : Nat) (news : List Value) (hx : a.eval x = .slice (some ad) m c) (hl : news.length = m * size) (hnews : ∀ j u, news[j]? = some u → w.cell? (ad.add j) = some u) (h1 : ∀ u ∈ news, u.oneCell' = true)
    (hm : 0 < m) (h63 : n + m ≤ maxLen) (hbytes : (n + m) * bytes ≤ 140737488355328) (hbase : base ≤ w.heap.size)
    (h : ∀ g cap w', w'.ownsRow base e size (.slice (some ⟨g, 0, none⟩) (n + m) cap) (n + m) (xs ++ news) → w.grownBy w' v.ownBlock → w'.ownsRow base e size v n xs → K (a.put o.dst (.slice (some ⟨g, 0, none⟩) (n + m) cap)) w') :
    if Region.wanted o (yielded ops a.tmps) = true then Oper.wp P o a w K Q else E := by
  have hw : Region.wanted o (yielded ops a.tmps) = true := by simp [Region.wanted, hgd]
  rw [if_pos hw]
  obtain ⟨g, cap, w', hr, h2, h3, h4⟩ := run_append_both (P := P) w t o.type base e i z size bytes ht hi hz hsize hby hzs hsz v n xs hown ad m c news hl hnews h1 hm h63 hbytes hbase
  unfold Oper.wp execOp
  simp only [ho, resolve, invoke, builtin, Sem.run_bind, Sem.run_pure, Result.andThen_ok, List.map_toArray, List.map_cons, List.map_nil, hs, hx, hr]
  exact h g cap w' h2 h3 h4
section
variable {A A' : Ag} {w w' W : World} {B : Nat} {T : Int} {R R' : Rg}
def Rg.add (R : Rg) (ha : Option Addr) (hc : Nat) (h : Hx) : Rg := { R with all := R.all ++ [h], ha := ha, hc := hc }
structure Tw (p p' : Pq) : Prop where
  ss : p'.ss = p.ss
  vs : p'.vs = p.vs
  cid : p'.cid = p.cid
  rev : p'.rev = p.rev
  top : p'.top = p.top
  prev : p'.prev = p.prev
def Rg.b7 (R : Rg) (q inc : Int) : Bool := match lat R.all q with | none => false | some j => decide (inc < (R.all.getD j h0).inc)
def Rg.b9 (R : Rg) (q inc : Int) (p : Pq) : Bool := match lat R.all q with | none => false | some j => decide ((R.all.getD j h0).inc = inc) && decide (p.rev ≤ (R.all.getD j h0).p.rev)
structure RFr (R : Rg) (q : Nat) (inc : Int) (p : Pq) : Prop where
  lt : q < R.n
  ne : q ≠ R.self
  i : 1 ≤ inc ∧ inc ≤ 4611686018427387904
  ok : p.valid q inc R.n = true
  b7 : R.b7 q inc = false
  b9 : R.b9 q inc p = false
inductive RTk (R : Rg) (q : Nat) (inc : Int) (p : Pq) : Bool → Int → Rg → Prop
  | set : p.valid q inc R.n = false → RTk R q inc p false 60 R
  | old : p.valid q inc R.n = true → R.b7 q inc = true → RTk R q inc p false 50 R
  | stale : p.valid q inc R.n = true → R.b7 q inc = false → R.b9 q inc p = true → RTk R q inc p false 51 R
  | add (ha : Option Addr) (hc : Nat) (p' : Pq) : RFr R q inc p → Tw p p' → R.op = false → (List.range R.k).any (lvs q inc p.cid R.ms) = false → RTk R q inc p false 0 (R.add ha hc ⟨q, inc, p'⟩)
  | spent : RFr R q inc p → R.op = false → (List.range R.k).any (lvs q inc p.cid R.ms) = true → R.spent → RTk R q inc p false 3 R
  | beg (ha : Option Addr) (hc : Nat) (p' P : Pq) : RFr R q inc p → Tw p p' → R.op = false → (List.range R.k).any (lvs q inc p.cid R.ms) = true → ¬ R.spent → Nw (R.add ha hc ⟨q, inc, p'⟩) R.own.ss P → RTk R q inc p true 0 { R.add ha hc ⟨q, inc, p'⟩ with own := P, op := true }
  | same (ha : Option Addr) (hc : Nat) (p' : Pq) : RFr R q inc p → Tw p p' → R.op = true → rvecN (R.add ha hc ⟨q, inc, p'⟩) R.own.ss R.own.cid R.n = R.own.vs → RTk R q inc p false 0 (R.add ha hc ⟨q, inc, p'⟩)
  | rev (ha : Option Addr) (hc : Nat) (p' : Pq) (va : Option Addr) (vc : Nat) : RFr R q inc p → Tw p p' → R.op = true → rvecN (R.add ha hc ⟨q, inc, p'⟩) R.own.ss R.own.cid R.n ≠ R.own.vs → RTk R q inc p false 0 { R.add ha hc ⟨q, inc, p'⟩ with own := { R.own with rev := R.own.rev + 1, va := va, vn := R.n, vc := vc, vs := rvecN (R.add ha hc ⟨q, inc, p'⟩) R.own.ss R.own.cid R.n } }
theorem Rg.Ok.bB (h : R.Ok w B) : B ≤ w.heap.size := Nat.le_of_lt (Nat.lt_of_le_of_lt h.ge (lt_heap h.blk))
theorem Rg.Ok.addZ {X Y : World} (h : R.Ok X B) {g cap : Nat} {x : Hx} (r1 : RowI X B x.p.sa x.p.sn x.p.sc x.p.ss) (r2 : RowI X B x.p.va x.p.vn x.p.vc x.p.vs) (l1 : x.p.ss.length = R.n) (l2 : x.p.vs.length = R.n) (l3 : x.p.prev.length = 4) (ho : Y.ownsRow B 86 11 (.slice (some ⟨g, 0, none⟩) (R.all.length + 1) cap) (R.all.length + 1) (hCells R.all ++ x.cs)) (hold : Y.ownsRow B 86 11 (.slice R.ha R.all.length R.hc) R.all.length (hCells R.all)) (hg : X.grownBy Y (Value.slice R.ha R.all.length R.hc).ownBlock) : Y.cell? ⟨R.b, 18, none⟩ = some (.slice R.ha R.all.length R.hc) ∧ Y.frozen? ⟨R.b, 18, none⟩ = false ∧ (R.add (some ⟨g, 0, none⟩) cap x).Ok (Y.setCell ⟨R.b, 18, none⟩ (.slice (some ⟨g, 0, none⟩) (R.all.length + 1) cap)) B ∧ RowH (Y.setCell ⟨R.b, 18, none⟩ (.slice (some ⟨g, 0, none⟩) (R.all.length + 1) cap)) B (.slice R.ha R.all.length R.hc) R.all ∧ Kept X (Y.setCell ⟨R.b, 18, none⟩ (.slice (some ⟨g, 0, none⟩) (R.all.length + 1) cap)) R.own1 := by
  have kg := Kept.ofGrown hg
  have kb := kg.obj h.blk (fun e => own_ne h.row h.blk (by decide) _ e.symm rfl)
  have kk : Kept Y (Y.setCell ⟨R.b, 18, none⟩ (.slice (some ⟨g, 0, none⟩) (R.all.length + 1) cap)) (fun j => j = R.b) := kset _ _ _ _ rfl
  have own2 : ∀ {b t s n : Nat} {v : Value} {l : List Value}, t ≠ 86 → t ≠ 57 → X.ownsRow b t s v n l → (Y.setCell ⟨R.b, 18, none⟩ (.slice (some ⟨g, 0, none⟩) (R.all.length + 1) cap)).ownsRow b t s v n l := fun t1 t2 ho => by
    have h1 := kg.owns ho (fun q hq e => rows_ne ho h.row t1 q hq e.symm)
    exact kk.owns h1 (own_ne h1 kb t2)
  have mb : (Y.setCell ⟨R.b, 18, none⟩ (.slice (some ⟨g, 0, none⟩) (R.all.length + 1) cap)).heap[R.b]? = some (.cells (R.add (some ⟨g, 0, none⟩) cap x).cs.toArray 57 (0, 0)) := blk_set kb (by unfold Rg.add Rg.cs; simp)
  refine ⟨blk_cell kb 18, frozen_of_row Y _ _ _ _ kb, ?_, kk.owns hold (own_ne hold kb (by decide)), ?_⟩
  · refine ⟨mb, h.ge, h.n16, h.il, h.pl, own2 (by decide) (by decide) h.mem, h.k16, own2 (by decide) (by decide) h.os, own2 (by decide) (by decide) h.ov, h.sl, h.vl, ?_, ?_⟩
    · show World.ownsRow _ _ _ _ _ _ _
      have := kk.owns ho (own_ne ho kb (by decide))
      show World.ownsRow _ _ _ _ (.slice (some ⟨g, 0, none⟩) (R.all ++ [x]).length cap) (R.all ++ [x]).length (hCells (R.all ++ [x]))
      rw [hCells_app]
      simpa [hCells] using this
    · intro y hy
      rcases List.mem_append.1 hy with hy | hy
      · exact ⟨own2 (by decide) (by decide) (h.el y hy).1, own2 (by decide) (by decide) (h.el y hy).2.1, (h.el y hy).2.2⟩
      · obtain rfl : y = x := by simpa using hy
        exact ⟨own2 (by decide) (by decide) r1, own2 (by decide) (by decide) r2, l1, l2, l3⟩
  · exact (kg.mono (fun k hk e => .inr e.symm)).trans (kk.mono (fun k hk e => .inl e))
theorem Rg.Ok.back {Z : World} {ha : Option Addr} {hc : Nat} {x : Hx} (h : (R.add ha hc x).Ok Z B) (hold : RowH Z B (.slice R.ha R.all.length R.hc) R.all) : R.Ok (Z.setCell ⟨R.b, 18, none⟩ (.slice R.ha R.all.length R.hc)) B ∧ Kept Z (Z.setCell ⟨R.b, 18, none⟩ (.slice R.ha R.all.length R.hc)) (fun j => j = R.b) ∧ Z.cell? ⟨R.b, 18, none⟩ = some (.slice ha (R.all.length + 1) hc) ∧ Z.frozen? ⟨R.b, 18, none⟩ = false := by
  have kk : Kept Z (Z.setCell ⟨R.b, 18, none⟩ (.slice R.ha R.all.length R.hc)) (fun j => j = R.b) := kset _ _ _ _ rfl
  have kb : Z.heap[R.b]? = some (.cells (R.add ha hc x).cs.toArray 57 (0, 0)) := h.blk
  have own2 : ∀ {b t s n : Nat} {v : Value} {l : List Value}, t ≠ 57 → Z.ownsRow b t s v n l → (Z.setCell ⟨R.b, 18, none⟩ (.slice R.ha R.all.length R.hc)).ownsRow b t s v n l := fun t2 ho => kk.owns ho (own_ne ho kb t2)
  refine ⟨⟨blk_set kb rfl, h.ge, h.n16, h.il, h.pl, own2 (by decide) h.mem, h.k16, own2 (by decide) h.os, own2 (by decide) h.ov, h.sl, h.vl, own2 (by decide) hold, fun y hy => ?_⟩, kk, ?_, frozen_of_row Z _ _ _ _ kb⟩
  · have := h.el y (List.mem_append_left _ hy)
    exact ⟨own2 (by decide) this.1, own2 (by decide) this.2.1, this.2.2⟩
  · rw [blk_cell kb]
    unfold Rg.add Rg.cs
    simp
theorem Rg.Ok.setV (h : R.Ok w B) {va : Option Addr} {vc : Nat} {vs : List Int} (ho : RowI w B va R.n vc vs) (hl : vs.length = R.n) (r : Int) : w.cell? ⟨R.b, 17, none⟩ = some (.slice R.own.va R.own.vn R.own.vc) ∧ w.frozen? ⟨R.b, 17, none⟩ = false ∧ (w.setCell ⟨R.b, 17, none⟩ (.slice va R.n vc)).cell? ⟨R.b, 11, none⟩ = some (.int .i64 R.own.rev) ∧ (w.setCell ⟨R.b, 17, none⟩ (.slice va R.n vc)).frozen? ⟨R.b, 11, none⟩ = false ∧ ({ R with own := { R.own with rev := r, va := va, vn := R.n, vc := vc, vs := vs } } : Rg).Ok ((w.setCell ⟨R.b, 17, none⟩ (.slice va R.n vc)).setCell ⟨R.b, 11, none⟩ (.int .i64 r)) B ∧ Kept w ((w.setCell ⟨R.b, 17, none⟩ (.slice va R.n vc)).setCell ⟨R.b, 11, none⟩ (.int .i64 r)) (fun j => j = R.b) := by
  have m1 : (w.setCell ⟨R.b, 17, none⟩ (.slice va R.n vc)).heap[R.b]? = some (.cells ({ R with own := { R.own with va := va, vn := R.n, vc := vc, vs := vs } } : Rg).cs.toArray 57 (0, 0)) := blk_set h.blk rfl
  have k1 : Kept w (w.setCell ⟨R.b, 17, none⟩ (.slice va R.n vc)) (fun j => j = R.b) := kset _ _ _ _ rfl
  have m2 : ((w.setCell ⟨R.b, 17, none⟩ (.slice va R.n vc)).setCell ⟨R.b, 11, none⟩ (.int .i64 r)).heap[R.b]? = some (.cells ({ R with own := { R.own with rev := r, va := va, vn := R.n, vc := vc, vs := vs } } : Rg).cs.toArray 57 (0, 0)) := blk_set m1 rfl
  have kk : Kept w ((w.setCell ⟨R.b, 17, none⟩ (.slice va R.n vc)).setCell ⟨R.b, 11, none⟩ (.int .i64 r)) (fun j => j = R.b) := k1.trans (kset _ _ _ _ rfl)
  have own2 : ∀ {b t s n : Nat} {v : Value} {l : List Value}, t ≠ 57 → w.ownsRow b t s v n l → ((w.setCell ⟨R.b, 17, none⟩ (.slice va R.n vc)).setCell ⟨R.b, 11, none⟩ (.int .i64 r)).ownsRow b t s v n l := fun t2 ho => kk.owns ho (own_ne ho h.blk t2)
  refine ⟨h.c 17, frozen_of_row w _ _ _ _ h.blk, blk_cell m1 11, frozen_of_row _ _ _ _ _ m1, ?_, kk⟩
  exact ⟨m2, h.ge, h.n16, h.il, h.pl, own2 (by decide) h.mem, h.k16, own2 (by decide) h.os, own2 (by decide) ho, h.sl, hl, own2 (by decide) h.row, fun y hy => ⟨own2 (by decide) (h.el y hy).1, own2 (by decide) (h.el y hy).2.1, (h.el y hy).2.2⟩⟩
end
end Go.Proofs.Ytbdefhagpgpoiac.Mb
namespace Go.Proofs.Ytbdefhagpgpoiac.Mb
open Go.RowKit
set_option linter.unusedVariables false
set_option maxRecDepth 100000
set_option linter.unusedSimpArgs false
section
variable {A A' : Ag} {w w' W : World} {B : Nat} {T : Int} {R R' : Rg}
theorem pad_get (xs : List Int) {q : Nat} (hq : q < 16) : (pad xs).getD q 0 = xs.getD q 0 := by
  unfold pad
  simp [List.getD, hq]
theorem pad_inj16 {xs ys : List Int} {n : Nat} (hx : xs.length = n) (hy : ys.length = n) (hn : n ≤ 16) (h : pad xs = pad ys) : xs = ys := by
  apply List.ext_getElem (by omega)
  intro i h1 h2
  have e := congrArg (fun l => l.getD i 0) h
  simp only [pad_get _ (show i < 16 by omega)] at e
  simpa [List.getD, h1, h2] using e
structure Vp (p : Pq) (q : Nat) (inc : Int) (n : Nat) : Prop where
  ls : p.ss.length = n
  lv : p.vs.length = n
  s : p.ss.getD q 0 = inc
  v : p.vs.getD q 0 = p.cid
  c : 1 ≤ p.cid
theorem valid_vp {p : Pq} {q n : Nat} {inc : Int} (hq : q < n) (hn : n ≤ 16) (h : p.valid q inc n = true) : Vp p q inc n := by
  unfold Pq.valid at h
  simp only [Bool.and_eq_true] at h
  obtain ⟨⟨⟨⟨⟨⟨⟨⟨h1, h2⟩, h3⟩, h4⟩, _⟩, h6⟩, _⟩, _⟩, _⟩ := h
  have g1 : p.ss.length = n := by unfold okL at h1; exact of_decide_eq_true (Bool.and_eq_true_iff.1 h1).1
  have g2 : p.vs.length = n := by unfold okL at h2; exact of_decide_eq_true (Bool.and_eq_true_iff.1 h2).1
  refine ⟨g1, g2, ?_, ?_, ?_⟩
  · have := beq_iff_eq.1 h3; rwa [pad_get _ (by omega)] at this
  · have := beq_iff_eq.1 h4; rwa [pad_get _ (by omega)] at this
  · unfold wB at h6; exact (of_decide_eq_true h6).1
theorem latN_q (all : List Hx) (q : Int) (m : Nat) : ∀ j, latN all q m = some j → (all.getD j h0).q = q := by
  induction m with
  | zero => intro j h; cases h
  | succ m ih =>
    intro j h
    rw [latN_next] at h
    unfold latS at h
    split at h
    · exact ih j h
    · rename_i hq
      have hq' : (all.getD m h0).q = q := Classical.not_not.1 hq
      split at h
      · injection h with h; rw [← h]; exact hq'
      · rename_i k hk
        split at h
        · injection h with h; rw [← h]; exact hq'
        · exact ih j h
theorem getD_app {all : List Hx} {x : Hx} {i : Nat} (hi : i < all.length) : (all ++ [x]).getD i h0 = all.getD i h0 := by
  simp [List.getD, List.getElem?_append_left hi]
theorem getD_new {all : List Hx} {x : Hx} : (all ++ [x]).getD all.length h0 = x := by
  simp [List.getD]
theorem latN_app (all : List Hx) (x : Hx) (q : Int) (m : Nat) (hm : m ≤ all.length) : latN (all ++ [x]) q m = latN all q m := by
  induction m with
  | zero => rfl
  | succ m ih =>
    rw [latN_next, latN_next, ih (by omega)]
    unfold latS
    rw [getD_app (show m < all.length by omega)]
    split
    · rfl
    · cases hk : latN all q m with
      | none => rfl
      | some j =>
        have := latN_lt _ _ _ _ hk
        simp only [getD_app (show j < all.length by omega)]
theorem lat_app (all : List Hx) (x : Hx) (q : Int) : lat (all ++ [x]) q = if x.q ≠ q then lat all q else match lat all q with
    | none => some all.length
    | some j => if bet x (all.getD j h0) then some all.length else some j := by
  unfold lat
  rw [List.length_append, List.length_singleton, latN_next, latN_app _ _ _ _ (Nat.le_refl _)]
  unfold latS
  rw [getD_new]
  split
  · rfl
  · cases hk : latN all q all.length with
    | none => rfl
    | some j =>
      have := latN_lt _ _ _ _ hk
      simp only [getD_app this]
structure Sim (A : Ag) (R : Rg) : Prop where
  n : A.n = R.n
  self : A.self = R.self
  n16 : 1 ≤ R.n ∧ R.n ≤ 16 ∧ R.self < R.n
  sl : R.own.ss.length = R.n
  vl : R.own.vs.length = R.n
  os : A.own.set = pad R.own.ss
  ov : A.own.vec = pad R.own.vs
  cid : A.own.cid = R.own.cid
  rev : A.own.rev = R.own.rev
  top : A.own.top = R.own.top
  prev : A.own.prev = R.own.prev
  id : A.id = R.id
  k : A.k = R.k
  ms : A.ms = R.ms
  chg : A.chg = R.op
  iv : A.Iv R.inc
  c1 : 1 ≤ R.own.cid
  hl : R.Hlat
  val : ∀ h ∈ R.all, ∃ q : Nat, q < R.n ∧ q ≠ R.self ∧ h.q = (q : Int) ∧ 1 ≤ h.inc ∧ h.p.valid q h.inc R.n = true
  lat : ∀ q : Nat, q < R.n → A.lat q = match lat R.all q with | none => Pz | some j => (R.all.getD j h0).p.pp
theorem Sim.h (S : Sim A R) {q : Nat} (hq : q < R.n) {j : Nat} (hj : Mb.lat R.all q = some j) : q ≠ R.self ∧ 1 ≤ (R.all.getD j h0).inc ∧ Vp (R.all.getD j h0).p q (R.all.getD j h0).inc R.n ∧ A.lat q = (R.all.getD j h0).p.pp := by
  have hlt := latN_lt _ _ _ _ hj
  have hm : R.all.getD j h0 ∈ R.all := by simp [List.getD, hlt]
  obtain ⟨q', h1, h2, h3, h4, h5⟩ := S.val _ hm
  have := latN_q _ _ _ _ hj
  obtain rfl : q' = q := by rw [h3] at this; omega
  refine ⟨h2, h4, valid_vp h1 S.n16.2.1 h5, ?_⟩
  have := S.lat q' hq
  rw [hj] at this
  exact this
theorem Sim.no (S : Sim A R) {q : Nat} (hq : q < R.n) (hj : Mb.lat R.all q = none) : A.lat q = Pz := by
  have := S.lat q hq
  rw [hj] at this
  exact this
theorem Sim.me (S : Sim A R) : Mb.lat R.all (R.self : Nat) = none := by
  cases h : Mb.lat R.all (R.self : Nat) with
  | none => rfl
  | some j => exact absurd rfl (S.h S.n16.2.2 h).1
theorem rvecN_get (R : Rg) (xs : List Int) (cid : Int) (k i : Nat) : (rvecN R xs cid k).getD i 0 = if i < k then rvE R xs cid i else 0 := by
  unfold rvecN
  by_cases h : i < k <;> simp [List.getD, h]
theorem Sim.vec (S : Sim A R) {p : Pp} {xs : List Int} (hx : xs.length = R.n) (hp : p.set = pad xs) : A.vecOf p = pad (rvecN R xs p.cid R.n) := by
  have h16 := S.n16
  unfold Ag.vecOf Ag.vecK pad
  apply List.ext_getElem (by simp)
  intro i h1 h2
  have hi : i < 16 := by simpa using h2
  rw [List.getElem_set, List.getElem_map, List.getElem_range, List.getElem_map, List.getElem_range, rvecN_get]
  unfold rvE
  rw [S.n, S.self, hp]
  by_cases hs : R.self = i
  · subst hs
    rw [if_pos rfl, if_pos h16.2.2, if_pos rfl]
  · rw [if_neg hs]
    by_cases hn : i < R.n
    · rw [if_pos hn, if_neg (show ¬ i = R.self from fun e => hs e.symm)]
      cases hl : Mb.lat R.all i with
      | none =>
        rw [S.no hn hl]
        have : (if i < R.n ∧ Pz.set = pad xs then Pz.cid else 0) = (0 : Int) := by split <;> rfl
        rw [this]
        split <;> rfl
      | some j =>
        obtain ⟨-, g1, g2, g3⟩ := S.h hn hl
        rw [g3]
        by_cases he : (R.all.getD j h0).p.ss = xs
        · rw [if_pos ⟨hn, show pad _ = pad xs by rw [he]⟩]
          have e1 : xs.getD i 0 = (R.all.getD j h0).inc := by rw [← he]; exact g2.s
          rw [if_neg (by omega)]
          show _ = (if _ then _ else _)
          rw [if_pos ⟨e1.symm, he⟩]
          rfl
        · rw [if_neg (fun e => he (pad_inj16 g2.ls hx h16.2.1 e.2))]
          split
          · rfl
          · show _ = (if _ then _ else _)
            rw [if_neg (fun e => he e.2)]
    · rw [if_neg (fun e => hn e.1), if_neg hn]
end
end Go.Proofs.Ytbdefhagpgpoiac.Mb
namespace Go.Proofs.Ytbdefhagpgpoiac.Mb
open Go.RowKit
set_option linter.unusedVariables false
set_option maxRecDepth 100000
set_option linter.unusedSimpArgs false
section
variable {A A' : Ag} {w w' W : World} {B : Nat} {T : Int} {R R' : Rg}
theorem beg_fl_ne (A : Ag) (s : List Int) (hsl : A.own.set.length = s.length) : (A.wv (A.begP s)).fl ≠ A.own.fl := by
  intro e
  unfold Ag.wv Pp.fl at e
  have h1 := (List.append_inj e (by rw [begP_set]; exact hsl.symm)).2
  injection h1 with h _
  rw [begP_cid] at h
  omega
theorem own_fl (A : Ag) : (A.wv A.own).fl = A.own.fl ↔ A.vecOf A.own = A.own.vec := by
  unfold Ag.wv Pp.fl
  simp
theorem begE_no (A : Ag) (s : List Int) (hsl : A.own.set.length = s.length) (h : A.own.cid = 4611686018427387904 ∨ A.own.rev = 4611686018427387904 ∨ A.id.getD 0 0 = 4611686018427387904) : A.begE s = 3 ∧ A.begA s = A := by
  unfold Ag.begE Ag.begA
  by_cases hc : A.own.cid = 4611686018427387904 ∨ A.id.getD 0 0 = 4611686018427387904
  · rw [if_pos hc, if_pos hc]; exact ⟨rfl, rfl⟩
  · rw [if_neg hc, if_neg hc]
    have hr : (A.begP s).rev = 4611686018427387904 := by rw [begP_rev]; rcases h with h | h | h; exact absurd (.inl h) hc; exact h; exact absurd (.inr h) hc
    have e : A.revE (A.begP s) = 3 := by unfold Ag.revE; rw [if_neg (beg_fl_ne A s hsl), if_pos hr]
    rw [e]
    exact ⟨rfl, if_neg (by decide)⟩
theorem begE_yes (A : Ag) (s : List Int) (hsl : A.own.set.length = s.length) (h : ¬ (A.own.cid = 4611686018427387904 ∨ A.own.rev = 4611686018427387904 ∨ A.id.getD 0 0 = 4611686018427387904)) : A.begE s = 0 ∧ A.begA s = { A with own := { A.wv (A.begP s) with rev := A.own.rev + 1 }, chg := true } := by
  have hc : ¬ (A.own.cid = 4611686018427387904 ∨ A.id.getD 0 0 = 4611686018427387904) := fun e => h (by rcases e with e | e; exact .inl e; exact .inr (.inr e))
  have hr : ¬ (A.begP s).rev = 4611686018427387904 := by rw [begP_rev]; exact fun e => h (.inr (.inl e))
  have e : A.revE (A.begP s) = 0 := by unfold Ag.revE; rw [if_neg (beg_fl_ne A s hsl), if_neg hr]
  unfold Ag.begE Ag.begA
  rw [if_neg hc, if_neg hc, e]
  refine ⟨rfl, ?_⟩
  rw [if_pos rfl]
  unfold Ag.revA
  rw [if_neg (beg_fl_ne A s hsl), if_neg hr, begP_rev]
theorem rvE_some {xs : List Int} {cid : Int} {q : Nat} (hq : q ≠ R.self) (h : rvE R xs cid q ≠ 0) : ∃ k, lat R.all q = some k := by
  unfold rvE at h
  rw [if_neg hq] at h
  cases hl : lat R.all q with
  | some k => exact ⟨k, rfl⟩
  | none => rw [hl] at h; split at h <;> exact absurd rfl h
theorem rvecN_hl {P : Pq} {b : Bool} {xs : List Int} {cid : Int} (h : P.vs = rvecN R xs cid R.n) : ({ R with own := P, op := b } : Rg).Hlat := by
  intro q hq hne hv
  have hv' : P.vs.getD q 0 ≠ 0 := hv
  rw [h, rvecN_get, if_pos hq] at hv'
  exact rvE_some hne hv'
theorem Sim.spent (S : Sim A R) : R.spent ↔ (A.own.cid = 4611686018427387904 ∨ A.own.rev = 4611686018427387904 ∨ A.id.getD 0 0 = 4611686018427387904) := by
  unfold Rg.spent
  rw [S.cid, S.rev, S.id]
theorem Sim.setl (S : Sim A R) (xs : List Int) : A.own.set.length = (pad xs).length := by rw [S.os, pad_len, pad_len]
theorem beg_yes (S : Sim A R) (hil : A.id.length = 4) {xs : List Int} (hx : xs.length = R.n) (hs : xs.getD R.self 0 = R.inc) (hsp : ¬ R.spent) {P : Pq} (hN : Nw R xs P) : A.begE (pad xs) = 0 ∧ Sim (A.begA (pad xs)) { R with own := P, op := true } := by
  have h16 := S.n16
  have hsp' := fun e => hsp (S.spent.2 e)
  obtain ⟨e1, e2⟩ := begE_yes A (pad xs) (S.setl xs) hsp'
  have iv := S.iv.beg hil (pad xs) (pad_len xs) (by rw [S.self, pad_get _ (by omega)]; exact hs) (fun q hq => pad_zero xs R.n q hx (by rw [← S.n]; exact hq))
  refine ⟨e1, ?_⟩
  rw [e2] at iv ⊢
  have hk : (R.k = 0 ↔ A.id = [0, 0, 0, 0]) := by
    rw [← S.k]
    rcases S.iv.vw with ⟨h1, _, h2, _⟩ | ⟨h1, h2, _⟩
    · exact ⟨fun _ => h1, fun _ => h2⟩
    · exact ⟨fun e => by omega, fun e => by rw [e] at h1; exact absurd h1 (by decide)⟩
  have ht : (A.begP (pad xs)).top = P.top ∧ (A.begP (pad xs)).prev = P.prev := by
    rw [hN.top, hN.prev]
    unfold Ag.begP
    by_cases h : A.id = [0, 0, 0, 0]
    · rw [if_pos h, if_pos (hk.2 h), if_pos (hk.2 h)]; exact ⟨S.top, S.prev⟩
    · rw [if_neg h, if_neg (fun e => h (hk.1 e)), if_neg (fun e => h (hk.1 e)), ← S.id]; exact ⟨rfl, rfl⟩
  exact {
    n := S.n, self := S.self, n16 := S.n16
    sl := by show P.ss.length = R.n; rw [hN.ss]; exact hx
    vl := by show P.vs.length = R.n; rw [hN.vs, rvecN_len]
    os := by show (A.begP (pad xs)).set = pad P.ss; rw [begP_set, hN.ss]
    ov := by show A.vecOf (A.begP (pad xs)) = pad P.vs; rw [S.vec hx (begP_set A _), begP_cid, S.cid, hN.vs]
    cid := by show (A.begP (pad xs)).cid = P.cid; rw [begP_cid, hN.cid, S.cid]
    rev := by show A.own.rev + 1 = P.rev; rw [hN.rev, S.rev]
    top := ht.1, prev := ht.2
    id := S.id, k := S.k, ms := S.ms, chg := rfl, iv := iv
    c1 := by show 1 ≤ P.cid; rw [hN.cid]; have := S.c1; omega
    hl := rvecN_hl hN.vs
    val := S.val, lat := S.lat }
theorem est_sim (S : Sim A R) (hil : A.id.length = 4) {xs : List Int} {x : Bool} {E : Int} (h : REst R xs x E R') : A.estB xs = x ∧ A.estE xs = E ∧ Sim (A.estA xs) R' := by
  have h16 := S.n16
  have hs1 : (pad xs).getD A.self 0 = xs.getD R.self 0 := by rw [S.self]; exact pad_get _ (by omega)
  have hs2 : A.own.set.getD A.self 0 = R.inc := S.iv.set
  have hC : (okL xs A.n = false ∨ (pad xs).getD A.self 0 ≠ A.own.set.getD A.self 0) ↔ (okL xs R.n = false ∨ xs.getD R.self 0 ≠ R.inc) := by rw [hs1, hs2, S.n]
  have hlen : okL xs R.n = true → xs.length = R.n := fun e => by unfold okL at e; exact of_decide_eq_true (Bool.and_eq_true_iff.1 e).1
  have hnC : okL xs R.n = true → xs.getD R.self 0 = R.inc → ¬ (okL xs A.n = false ∨ (pad xs).getD A.self 0 ≠ A.own.set.getD A.self 0) := fun h1 h2 e => by
    rcases hC.1 e with e | e
    · rw [h1] at e; cases e
    · exact e h2
  have hE : okL xs R.n = true → (pad xs = A.own.set ↔ xs = R.own.ss) := fun e => by
    rw [S.os]
    exact ⟨fun g => pad_inj16 (hlen e) S.sl h16.2.1 g, fun g => by rw [g]⟩
  unfold Ag.estB Ag.estE Ag.estA
  cases h with
  | set hb =>
    have := hC.2 hb
    rw [if_pos this, if_pos this, if_pos this]
    exact ⟨rfl, rfl, S⟩
  | same h1 h2 h3 =>
    have g := hnC h1 h2
    have g2 := (hE h1).2 h3
    rw [if_neg g, if_neg g, if_neg g, if_pos g2, if_pos g2, if_pos g2]
    exact ⟨rfl, rfl, S⟩
  | spent h1 h2 h3 h4 =>
    have g := hnC h1 h2
    have g2 : ¬ pad xs = A.own.set := fun e => h3 ((hE h1).1 e)
    obtain ⟨e1, e2⟩ := begE_no A (pad xs) (S.setl xs) (S.spent.1 h4)
    rw [if_neg g, if_neg g, if_neg g, if_neg g2, if_neg g2, if_neg g2, e1, e2]
    exact ⟨rfl, rfl, S⟩
  | ok P h1 h2 h3 h4 hN =>
    have g := hnC h1 h2
    have g2 : ¬ pad xs = A.own.set := fun e => h3 ((hE h1).1 e)
    obtain ⟨e1, e2⟩ := beg_yes S hil (hlen h1) h2 h4 hN
    rw [if_neg g, if_neg g, if_neg g, if_neg g2, if_neg g2, if_neg g2, e1]
    exact ⟨rfl, rfl, e2⟩
theorem add_sim (S : Sim A R) {q : Nat} {inc : Int} {p p' : Pq} {ha : Option Addr} {hc : Nat} (hF : RFr R q inc p) (ht : Tw p p') : Sim (A.set1 q p.pp) (R.add ha hc ⟨q, inc, p'⟩) := by
  have hpp : p'.pp = p.pp := by unfold Pq.pp; rw [ht.ss, ht.cid, ht.rev, ht.top, ht.prev, ht.vs]
  have hval : p'.valid q inc R.n = true := by
    have := hF.ok
    unfold Pq.valid at this ⊢
    rw [ht.ss, ht.cid, ht.rev, ht.top, ht.prev, ht.vs]
    exact this
  have hnew : Mb.lat (R.all ++ [⟨q, inc, p'⟩]) (q : Int) = some R.all.length := by
    rw [lat_app, if_neg (by simp)]
    have b7 := hF.b7
    have b9 := hF.b9
    unfold Rg.b7 at b7
    unfold Rg.b9 at b9
    cases hl : Mb.lat R.all (q : Int) with
    | none => rfl
    | some j =>
      rw [hl] at b7 b9
      have e1 := of_decide_eq_false b7
      have hb : bet ⟨q, inc, p'⟩ (R.all.getD j h0) = true := by
        unfold bet
        show (decide ((R.all.getD j h0).inc < inc) || (decide (inc = (R.all.getD j h0).inc) && decide ((R.all.getD j h0).p.rev < p'.rev))) = true
        rw [ht.rev]
        by_cases e : (R.all.getD j h0).inc = inc
        · have b9' : (decide ((R.all.getD j h0).inc = inc) && decide (p.rev ≤ (R.all.getD j h0).p.rev)) = false := b9
          rw [decide_eq_true e, Bool.true_and] at b9'
          have g := of_decide_eq_false b9'
          rw [decide_eq_true (show inc = (R.all.getD j h0).inc from e.symm), decide_eq_true (show (R.all.getD j h0).p.rev < p.rev by omega)]
          simp
        · rw [decide_eq_true (show (R.all.getD j h0).inc < inc by omega), Bool.true_or]
      show (if bet _ _ then _ else _) = _
      rw [if_pos hb]
  have hold : ∀ q' : Nat, q' ≠ q → Mb.lat (R.all ++ [⟨q, inc, p'⟩]) (q' : Int) = Mb.lat R.all (q' : Int) := fun q' hne => by
    rw [lat_app, if_pos (show (q : Int) ≠ (q' : Int) by omega)]
  exact {
    n := S.n, self := S.self, n16 := S.n16, sl := S.sl, vl := S.vl, os := S.os, ov := S.ov, cid := S.cid, rev := S.rev, top := S.top, prev := S.prev, id := S.id, k := S.k, ms := S.ms, chg := S.chg
    iv := S.iv.set1 q p.pp, c1 := S.c1
    hl := fun q' hq hne hv => by
      show ∃ k, Mb.lat (R.all ++ [⟨q, inc, p'⟩]) (q' : Int) = some k
      by_cases e : q' = q
      · rw [e]; exact ⟨_, hnew⟩
      · rw [hold q' e]; exact S.hl q' hq hne hv
    val := fun h hh => by
      rcases List.mem_append.1 hh with hh | hh
      · exact S.val h hh
      · obtain rfl : h = ⟨q, inc, p'⟩ := by simpa using hh
        exact ⟨q, hF.lt, hF.ne, rfl, hF.i.1, hval⟩
    lat := fun q' hq => by
      show upd A.lat q p.pp q' = match Mb.lat (R.all ++ [⟨q, inc, p'⟩]) (q' : Int) with | none => Pz | some j => ((R.all ++ [(⟨q, inc, p'⟩ : Hx)]).getD j h0).p.pp
      by_cases e : q' = q
      · subst e
        rw [hnew]
        show _ = ((R.all ++ [_]).getD R.all.length h0).p.pp
        rw [getD_new]
        show _ = p'.pp
        rw [hpp]
        unfold upd
        simp
      · rw [hold q' e]
        have hl := S.lat q' hq
        unfold upd
        rw [if_neg e, hl]
        cases hj : Mb.lat R.all (q' : Int) with
        | none => rfl
        | some j =>
          have := latN_lt _ _ _ _ hj
          show _ = ((R.all ++ [_]).getD j h0).p.pp
          rw [getD_app this] }
end
end Go.Proofs.Ytbdefhagpgpoiac.Mb
