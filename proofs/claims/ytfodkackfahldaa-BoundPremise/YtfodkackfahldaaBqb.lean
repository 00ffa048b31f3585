import Derived.Test.YtfodkackfahldaaBqa
namespace Go.Proofs.Ytfodkackfahldaa.Lo
open Go.RowKit
set_option linter.unusedVariables false
set_option linter.unusedSimpArgs false

set_option maxRecDepth 100000 in
set_option maxHeartbeats 1000000 in
theorem newNet_any (N : Nat) (w : World) (n1 : 1 ≤ N) (n2 : N ≤ 16) : Calls Try.prog 40 #[.int .i64 N] w fun e w' => e = .returned (.agg (Mb.ints (rl 273 (nwF N))).toArray) ∧ Below w.heap.size w w' := by
  have HBt : Hid (Try.prog.built 57 [(0, .int .i64 (N : Int))] = some (Mb.ints (rl 273 (nwG N 0 0))).toArray) := (show _ = _ from by
    rw [bNet]
    congr 3)
  go_enter Try.func40, Try.ntmps40
  go_wp2_with (first | (refine wl_allocZ rfl 57 rfl zNet ?_) | fail)
  intro W0 k0 b0 s0
  go_wp2_with (first | (refine wl_buildZ rfl 57 _ rfl (built_eq (by kernel_rfl) HBt.out) ?_) | (refine wl_allocZ rfl 57 rfl zNet ?_) | fail)
  intro W1 k1 b1 s1
  go_wp2_with (first | (refine Ln.at_store 57 _ _ rfl ?_; refine wl_storeZ rfl 57 _ _ rfl rfl rfl k1 (by rw [Mb.ints_len, rl_len]; exact iNet) (by rw [Mb.ints_len, rl_len]; rfl) (Mb.ints_one _) ?_) | fail)
  intro W2 k2 kk2
  have r0 : Mb.Rw W2 w.heap.size 57 (List.replicate 273 0) := kk2.obj ((b1.block _ s0).trans k0) (fun e => by have e' : w.heap.size = W0.heap.size := e; omega)
  have bb : Below w.heap.size w W2 := (bst b0 b1).trans (kk2.below (by have := b1.size; omega) (fun k hk e => by have e' : k = W0.heap.size := e; omega))
  have r1 : Mb.Rw W2 W0.heap.size 57 (rl 273 (nwG N 0 (0 * 16))) := k2
  have hne : w.heap.size < W0.heap.size := s0
  have HR0 : Hid (Mb.Rw W2 w.heap.size 57 (List.replicate 273 0)) := r0
  have HR1 : Hid (Mb.Rw W2 W0.heap.size 57 (rl 273 (nwG N 0 (0 * 16)))) := r1
  have HBB : Hid (Below w.heap.size w W2) := bb
  clear k0 b0 s0 k1 b1 s1 k2 kk2 r0 bb r1 HBt
  generalize W0.heap.size = nb at *
  go_wp2_with fail
  go_loopw [9] (fun x wr => ∃ (j : Nat), j ≤ N ∧ x = .int .i64 j ∧ Hid (Mb.Rw wr nb 57 (rl 273 (nwG N j (j * 16)))) ∧ Hid (Mb.Rw wr w.heap.size 57 (List.replicate 273 0)) ∧ Hid (Below w.heap.size w wr)) (fun x _ => N - (intOf x).toNat)
  case atStart => exact ⟨0, Nat.zero_le _, rfl, HR1, HR0, HBB⟩
  case round =>
    obtain ⟨j, hj, rfl, h1, h0, hb⟩ := hrel
    by_cases hjn : j < N
    · have j1 : (0 : Int) ≤ (j : Int) := Int.natCast_nonneg _
      have j2 : (j : Int) < 16 := by omega
      have j3 : (j : Int) < (N : Int) := by omega
      have c1 := h1.out.cell (i := 1 + j) (by rw [rl_len]; omega)
      have z1 := h1.out.fz (1 + j)
      have H1 : Hid (Mb.Rw (wr.setCell ⟨nb, 1 + j, none⟩ (.int .i64 1)) nb 57 (rl 273 (nwG N (j + 1) (j * 16 + 0)))) := (show Mb.Rw _ _ _ _ from by
        have := h1.out.set (1 + j) 1
        rw [rl_set, rl_congr (nwG_st (N := N) (s := j) (k := j * 16) (by omega))] at this
        exact this)
      have H0 : Hid (Mb.Rw (wr.setCell ⟨nb, 1 + j, none⟩ (.int .i64 1)) w.heap.size 57 (List.replicate 273 0)) := (show Mb.Rw _ _ _ _ from h0.out.keep (Mb.kset (P := fun q => q = nb) wr nb _ _ rfl) (fun e => by have e' : w.heap.size = nb := e; omega))
      have HB : Hid (Below w.heap.size w (wr.setCell ⟨nb, 1 + j, none⟩ (.int .i64 1))) := hb.out.setCell (by show w.heap.size ≤ nb; omega) _
      clear h1 h0 hb HR0 HR1 HBB
      go_wp2_with fail
      clear c1 z1
      generalize wr.setCell ⟨nb, 1 + j, none⟩ (.int .i64 1) = V at *
      go_loopw [16] (fun x wr => ∃ (i : Nat), i ≤ N ∧ x = .int .i64 i ∧ Hid (Mb.Rw wr nb 57 (rl 273 (nwG N (j + 1) (j * 16 + i)))) ∧ Hid (Mb.Rw wr w.heap.size 57 (List.replicate 273 0)) ∧ Hid (Below w.heap.size w wr)) (fun x _ => N - (intOf x).toNat)
      case atStart => exact ⟨0, Nat.zero_le _, rfl, H1, H0, HB⟩
      case round =>
        obtain ⟨i, hi, rfl, h1, h0, hb⟩ := hrel
        by_cases hiN : i < N
        · have i1 : (0 : Int) ≤ (i : Int) := Int.natCast_nonneg _
          have i2 : (i : Int) < 16 := by omega
          have i3 : (i : Int) < (N : Int) := by omega
          have c1 := h1.out.cell (i := 17 + j * 16 + i) (by rw [rl_len]; omega)
          have z1 := h1.out.fz (17 + j * 16 + i)
          have H1 : Hid (Mb.Rw (wr.setCell ⟨nb, 17 + j * 16 + i, none⟩ (.int .i64 1)) nb 57 (rl 273 (nwG N (j + 1) (j * 16 + (i + 1))))) := (show Mb.Rw _ _ _ _ from by
            have := h1.out.set (17 + j * 16 + i) 1
            rw [rl_set, rl_congr (nwG_pa (N := N) (s := j + 1) (j := j) (k := i) (by omega) hiN n2)] at this
            exact this)
          have H0 : Hid (Mb.Rw (wr.setCell ⟨nb, 17 + j * 16 + i, none⟩ (.int .i64 1)) w.heap.size 57 (List.replicate 273 0)) := (show Mb.Rw _ _ _ _ from h0.out.keep (Mb.kset (P := fun q => q = nb) wr nb _ _ rfl) (fun e => by have e' : w.heap.size = nb := e; omega))
          have HB : Hid (Below w.heap.size w (wr.setCell ⟨nb, 17 + j * 16 + i, none⟩ (.int .i64 1))) := hb.out.setCell (by show w.heap.size ≤ nb; omega) _
          clear h1 h0 hb
          go_wp2_with fail
          go_roundw
          case rel => exact ⟨i + 1, by omega, by go_num, H1, H0, HB⟩
          case measure => simp [intOf]; omega
        · have hiN' : i = N := by omega
          subst hiN'
          have HA : Hid (Mb.Rw wr nb 57 (rl 273 (nwG i (j + 1) ((j + 1) * 16)))) := (show Mb.Rw _ _ _ _ from by
            have := h1.out
            rw [rl_congr (nwG_row n2)] at this
            exact this)
          clear h1
          go_wp2_with fail
          go_roundw
          case rel => exact ⟨j + 1, by omega, by go_num, HA, h0, hb⟩
          case measure => simp [intOf]; omega
    · have hjN : j = N := by omega
      subst hjN
      have k1 : wr.heap[nb]? = some (.cells (Mb.ints (rl 273 (nwF j))).toArray 57 (0, 0)) := h1.out
      have k0 : wr.heap[w.heap.size]? = some (.cells (Mb.ints (List.replicate 273 0)).toArray 57 (0, 0)) := h0.out
      have HK0 : Hid (wr.heap[w.heap.size]? = some (.cells (Mb.ints (List.replicate 273 0)).toArray 57 (0, 0))) := k0
      have HKR : Hid (wr.rangeAt nb 0 (Mb.ints (rl 273 (nwF j)))) := Ln.blk_range k1
      clear k1 k0
      go_wp2_with (first | (refine Ln.at_load 57 (.tmp 3) rfl ?_; refine Ln.load_mid 57 (.tmp 3) HKR.out _ Try.underlying57 rfl (by rw [Mb.ints_len, rl_len]; exact iNet) rfl rfl rfl ?_) | (refine Ln.at_store 57 _ _ rfl ?_; refine wl_storeZ rfl 57 _ _ rfl rfl rfl HK0.out (by rw [Mb.ints_len, rl_len]; exact iNet) (by rw [Mb.ints_len, rl_len]; rfl) (Mb.ints_one _) ?_) | fail)
      intro W3 k3 kk3
      have HK3 : Hid (W3.heap[w.heap.size]? = some (.cells (Mb.ints (rl 273 (nwF j))).toArray 57 (0, 0))) := k3
      have HB3 : Hid (Below w.heap.size w W3) := (show Below _ _ _ from hb.out.trans (kk3.below hb.out.size (fun k hk e => by have e' : k = w.heap.size := e; omega)))
      clear k3 kk3
      go_wp2_with fail
      (try simp only [Exit.inBlock, Exit.then])
      refine bodyPost_ret (v := .agg (Mb.ints (rl 273 (nwF j))).toArray) ?_ rfl ⟨rfl, HB3.out⟩
      exact results_cell_row rfl _ _ w.heap.size 57 _ (0, 0) _ rfl HK3.out Try.underlying57 rfl (by rw [List.size_toArray, Mb.ints_len, rl_len]; exact iNet)
end Go.Proofs.Ytfodkackfahldaa.Lo
