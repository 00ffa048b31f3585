import Derived.Test.YtfodkackfahldaaBta
namespace Go.Proofs.Ytfodkackfahldaa.Lo
open Go.RowKit
set_option linter.unusedVariables false
set_option linter.unusedSimpArgs false

def bgB (j i : Nat) : Bool := decide (1 ≤ i ∧ i ≤ j)
def bgS (N k i : Nat) : Int := if i = 0 then (N : Int) else if 289 ≤ i ∧ i - 289 < k ∧ (i - 289) % 16 < N then 1 else 0
theorem bgS_step {N j k : Nat} (hj : j < 16) (hk : k < N) (hN : N ≤ 16) (i : Nat) : upF (bgS N (j * 16 + k)) (289 + j * 16 + k) 1 i = bgS N (j * 16 + (k + 1)) i := by
  unfold upF bgS
  by_cases e : i = 289 + j * 16 + k
  · subst e
    rw [if_pos rfl, if_neg (by omega), if_pos (by omega)]
  · rw [if_neg e]
    by_cases e0 : i = 0
    · rw [if_pos e0, if_pos e0]
    · rw [if_neg e0, if_neg e0]
      by_cases e2 : 289 ≤ i ∧ i - 289 < j * 16 + k ∧ (i - 289) % 16 < N
      · rw [if_pos e2, if_pos (by omega)]
      · rw [if_neg e2, if_neg (by omega)]
theorem bgS_row {N j : Nat} (hN : N ≤ 16) (i : Nat) : bgS N (j * 16 + N) i = bgS N ((j + 1) * 16) i := by
  unfold bgS
  by_cases e0 : i = 0
  · rw [if_pos e0, if_pos e0]
  · rw [if_neg e0, if_neg e0]
    by_cases e2 : 289 ≤ i ∧ i - 289 < j * 16 + N ∧ (i - 289) % 16 < N
    · rw [if_pos e2, if_pos (by omega)]
    · rw [if_neg e2, if_neg (by omega)]
theorem bgB_step (j i : Nat) : upB (bgB j) (1 + j) true i = bgB (j + 1) i := by
  unfold upB bgB
  by_cases e : i = 1 + j
  · rw [if_pos e]
    exact (decide_eq_true (by omega)).symm
  · rw [if_neg e]
    by_cases h : 1 ≤ i ∧ i ≤ j
    · rw [decide_eq_true h, decide_eq_true (by omega)]
    · rw [decide_eq_false h, decide_eq_false (by omega)]
set_option maxRecDepth 100000 in
set_option maxHeartbeats 1000000 in
theorem begun_any (N : Nat) (w : World) (n2 : N ≤ 16) : Calls Try.prog 52 #[.int .i64 N] w fun e w' => e = .returned (.agg (rvl (bgB N) (bgS N (N * 16))).toArray) ∧ Below w.heap.size w w' := by
  have HBt : Hid (Try.prog.built 87 [(0, .int .i64 (N : Int))] = some (rvl (bgB 0) (bgS N (0 * 16))).toArray) := (show _ = _ from by
    rw [bSt]
    congr 2)
  go_enter Try.func52, Try.ntmps52
  go_wp2_with (first | (refine wl_allocZ rfl 87 rfl zSt ?_) | fail)
  intro W0 k0 b0 s0
  go_wp2_with (first | (refine wl_buildZ rfl 87 _ rfl (built_eq (by kernel_rfl) HBt.out) ?_) | (refine wl_allocZ rfl 87 rfl zSt ?_) | fail)
  intro W1 k1 b1 s1
  go_wp2_with (first | (refine Ln.at_store 87 _ _ rfl ?_; refine wl_storeZ rfl 87 _ _ rfl rfl rfl k1 (by rw [rvl_len]; exact iSt) (by rw [rvl_len]; simp [rvl]) (rvl_one _ _) ?_) | fail)
  intro W2 k2 kk2
  have r0 : Sb W2 w.heap.size (fun _ => false) (fun _ => 0) := kk2.obj ((b1.block _ s0).trans k0) (fun e => by have e' : w.heap.size = W0.heap.size := e; omega)
  have bb : Below w.heap.size w W2 := (bst b0 b1).trans (kk2.below (by have := b1.size; omega) (fun k hk e => by have e' : k = W0.heap.size := e; omega))
  have hne : w.heap.size < W0.heap.size := s0
  have HR0 : Hid (Sb W2 w.heap.size (fun _ => false) (fun _ => 0)) := r0
  have HR1 : Hid (Sb W2 W0.heap.size (bgB 0) (bgS N (0 * 16))) := k2
  have HBB : Hid (Below w.heap.size w W2) := bb
  clear k0 b0 s0 k1 b1 s1 k2 kk2 r0 bb HBt
  generalize W0.heap.size = nb at *
  go_wp2_with fail
  go_loopw [4] (fun x wr => ∃ (j : Nat), j ≤ N ∧ x = .int .i64 j ∧ Hid (Sb wr nb (bgB j) (bgS N (j * 16))) ∧ Hid (Sb wr w.heap.size (fun _ => false) (fun _ => 0)) ∧ Hid (Below w.heap.size w wr)) (fun x _ => N - (intOf x).toNat)
  case atStart => exact ⟨0, Nat.zero_le _, rfl, HR1, HR0, HBB⟩
  case round =>
    obtain ⟨j, hj, rfl, h1, h0, hb⟩ := hrel
    by_cases hjn : j < N
    · have j1 : (0 : Int) ≤ (j : Int) := Int.natCast_nonneg _
      have j2 : (j : Int) < 16 := by omega
      have j3 : (j : Int) < (N : Int) := by omega
      have c1 := h1.out.bo (i := 1 + j) (by omega) (by omega)
      have z1 := h1.out.fz (1 + j)
      have H1 : Hid (Sb (wr.setCell ⟨nb, 1 + j, none⟩ (.bool true)) nb (bgB (j + 1)) (bgS N (j * 16 + 0))) := (show Sb _ _ _ _ from by
        have h5 := h1.out.setB (i := 1 + j) true (by omega) (by omega)
        unfold Sb at h5 ⊢
        rw [h5, rvl_congr (fun i _ => bgB_step j i) (fun _ _ => rfl)]
        rfl)
      have H0 : Hid (Sb (wr.setCell ⟨nb, 1 + j, none⟩ (.bool true)) w.heap.size (fun _ => false) (fun _ => 0)) := (show Sb _ _ _ _ from (Mb.kset (P := fun q => q = nb) wr nb _ _ rfl).obj h0.out (fun e => by have e' : w.heap.size = nb := e; omega))
      have HB : Hid (Below w.heap.size w (wr.setCell ⟨nb, 1 + j, none⟩ (.bool true))) := hb.out.setCell (by show w.heap.size ≤ nb; omega) _
      clear h1 h0 hb HR0 HR1 HBB
      go_wp2_with fail
      clear c1 z1
      generalize wr.setCell ⟨nb, 1 + j, none⟩ (.bool true) = V at *
      go_loopw [5] (fun x wr => ∃ (i : Nat), i ≤ N ∧ x = .int .i64 i ∧ Hid (Sb wr nb (bgB (j + 1)) (bgS N (j * 16 + i))) ∧ Hid (Sb wr w.heap.size (fun _ => false) (fun _ => 0)) ∧ Hid (Below w.heap.size w wr)) (fun x _ => N - (intOf x).toNat)
      case atStart => exact ⟨0, Nat.zero_le _, rfl, H1, H0, HB⟩
      case round =>
        obtain ⟨i, hi, rfl, h1, h0, hb⟩ := hrel
        by_cases hiN : i < N
        · have i1 : (0 : Int) ≤ (i : Int) := Int.natCast_nonneg _
          have i2 : (i : Int) < 16 := by omega
          have i3 : (i : Int) < (N : Int) := by omega
          have c1 := h1.out.io (i := 289 + j * 16 + i) (by omega) (by omega)
          have z1 := h1.out.fz (289 + j * 16 + i)
          have H1 : Hid (Sb (wr.setCell ⟨nb, 289 + j * 16 + i, none⟩ (.int .i64 1)) nb (bgB (j + 1)) (bgS N (j * 16 + (i + 1)))) := (show Sb _ _ _ _ from by
            have h5 := h1.out.setI (i := 289 + j * 16 + i) 1 (by omega)
            unfold Sb at h5 ⊢
            rw [h5, rvl_congr (fun _ _ => rfl) (fun k _ => bgS_step (N := N) (j := j) (k := i) (by omega) hiN n2 k)])
          have H0 : Hid (Sb (wr.setCell ⟨nb, 289 + j * 16 + i, none⟩ (.int .i64 1)) w.heap.size (fun _ => false) (fun _ => 0)) := (show Sb _ _ _ _ from (Mb.kset (P := fun q => q = nb) wr nb _ _ rfl).obj h0.out (fun e => by have e' : w.heap.size = nb := e; omega))
          have HB : Hid (Below w.heap.size w (wr.setCell ⟨nb, 289 + j * 16 + i, none⟩ (.int .i64 1))) := hb.out.setCell (by show w.heap.size ≤ nb; omega) _
          clear h1 h0 hb
          go_wp2_with fail
          go_roundw
          case rel => exact ⟨i + 1, by omega, by go_num, H1, H0, HB⟩
          case measure => simp [intOf]; omega
        · obtain rfl : N = i := by omega
          have HA : Hid (Sb wr nb (bgB (j + 1)) (bgS N ((j + 1) * 16))) := (show Sb _ _ _ _ from by
            have h5 := h1.out
            unfold Sb at h5 ⊢
            rw [h5, rvl_congr (fun _ _ => rfl) (fun k _ => bgS_row n2 k)])
          clear h1
          go_wp2_with fail
          go_roundw
          case rel => exact ⟨j + 1, by omega, by go_num, HA, h0, hb⟩
          case measure => simp [intOf]; omega
    · obtain rfl : N = j := by omega
      have HK0 : Hid (wr.heap[w.heap.size]? = some (.cells (rvl (fun _ => false) (fun _ => 0)).toArray 87 (0, 0))) := h0
      have HKR : Hid (wr.rangeAt nb 0 (rvl (bgB N) (bgS N (N * 16)))) := h1.out.rng
      go_wp2_with (first | (refine Ln.at_load 87 (.tmp 3) rfl ?_; refine Ln.load_mid 87 (.tmp 3) HKR.out _ Try.underlying87 rfl (by rw [rvl_len]; exact iSt) rfl rfl rfl ?_) | (refine Ln.at_store 87 _ _ rfl ?_; refine wl_storeZ rfl 87 _ _ rfl rfl rfl HK0.out (by rw [rvl_len]; exact iSt) (by rw [rvl_len]; simp [rvl]) (rvl_one _ _) ?_) | fail)
      intro W3 k3 kk3
      have HK3 : Hid (W3.heap[w.heap.size]? = some (.cells (rvl (bgB N) (bgS N (N * 16))).toArray 87 (0, 0))) := k3
      have HB3 : Hid (Below w.heap.size w W3) := (show Below _ _ _ from hb.out.trans (kk3.below hb.out.size (fun k hk e => by have e' : k = w.heap.size := e; omega)))
      clear k3 kk3
      go_wp2_with fail
      (try simp only [Exit.inBlock, Exit.then])
      refine bodyPost_ret (v := .agg (rvl (bgB N) (bgS N (N * 16))).toArray) ?_ rfl ⟨rfl, HB3.out⟩
      exact results_cell_row rfl _ _ w.heap.size 87 _ (0, 0) _ rfl HK3.out Try.underlying87 rfl (by rw [List.size_toArray, rvl_len]; exact iSt)
def shB (b : Nat → Bool) (N : Nat) (xs : List Int) (k i : Nat) : Bool := if 33 ≤ i ∧ i - 33 < k ∧ (i - 33) % 16 < N then decide (¬ xs.getD ((i - 33) / 16) 0 = xs.getD ((i - 33) % 16) 0) else b i
theorem shB_step {b : Nat → Bool} {N j k : Nat} {xs : List Int} (hN : N ≤ 16) (hj : j < N) (hk : k < N) (i : Nat) : upB (shB b N xs (j * 16 + k)) (33 + j * 16 + k) (decide (¬ xs.getD j 0 = xs.getD k 0)) i = shB b N xs (j * 16 + (k + 1)) i := by
  unfold upB shB
  by_cases e : i = 33 + j * 16 + k
  · subst e
    rw [if_pos rfl, if_pos (by omega), show (33 + j * 16 + k - 33) / 16 = j by omega, show (33 + j * 16 + k - 33) % 16 = k by omega]
  · rw [if_neg e]
    by_cases e2 : 33 ≤ i ∧ i - 33 < j * 16 + k ∧ (i - 33) % 16 < N
    · rw [if_pos e2, if_pos (by omega)]
    · rw [if_neg e2, if_neg (by omega)]
theorem shB_row {b : Nat → Bool} {N j : Nat} {xs : List Int} (hN : N ≤ 16) (i : Nat) : shB b N xs (j * 16 + N) i = shB b N xs ((j + 1) * 16) i := by
  unfold shB
  by_cases e2 : 33 ≤ i ∧ i - 33 < j * 16 + N ∧ (i - 33) % 16 < N
  · rw [if_pos e2, if_pos (by omega)]
  · rw [if_neg e2, if_neg (by omega)]
theorem shB_zero {b : Nat → Bool} {N : Nat} {xs : List Int} (i : Nat) : shB b N xs (0 * 16) i = b i := by
  unfold shB
  rw [if_neg (by omega)]
def rsB (b : Nat → Bool) (N : Nat) (xs : List Int) : Nat → Bool := if siB N xs then shB b N xs (N * 16) else b
set_option maxRecDepth 100000 in
set_option maxHeartbeats 2000000 in
theorem rsplit_any (b : Nat → Bool) (s : Nat → Int) (N : Nat) (ao : Option Addr) (n c : Nat) (xs : List Int) (w : World) (hN : s 0 = (N : Int)) (n1 : 1 ≤ N) (n2 : N ≤ 16) (hr : Ri w ao n c xs) (hn : n ≤ 140737488355328) : Calls Try.prog 59 #[.agg (rvl b s).toArray, .slice ao n c] w fun e w' => e = .returned (.agg (rvl (rsB b N xs) s).toArray) ∧ Below w.heap.size w w' := by
  have HB : Hid (Below w.heap.size w (w.alloc (.cells (rvl b s).toArray 87))) := bsp _ _ _
  have hS := Sb.new w b s
  generalize hW : w.alloc (.cells (rvl b s).toArray 87) = W at *
  have hl : xs.length = n := hr.1
  have hRW := hr.below HB.out
  have hlt : w.heap.size < W.heap.size := hS.lt
  obtain ⟨qb, hqb⟩ : ∃ qb, rsB b N xs = qb := ⟨_, rfl⟩
  rw [hqb]
  have HQ : Hid (rsB b N xs = qb) := hqb
  have HRw : Hid (Ri w ao n c xs) := hr
  clear hqb hr
  have HS0 : Hid (Sb W w.heap.size b s) := hS
  have HRi : Hid (Ri W ao n c xs) := hRW
  clear hS hRW
  go_enter Try.func59, Try.ntmps59
  go_wp2_with (first | (refine wl_allocZ rfl 87 rfl zSt ?_) | fail)
  intro W1 k1 b1 s1
  have HS1 : Hid (Sb W1 w.heap.size b s) := (show Sb _ _ _ _ from HS0.out.on b1)
  have HR1 : Hid (W1.heap[W.heap.size]? = some (.cells (rvl (fun _ => false) (fun _ => 0)).toArray 87 (0, 0))) := k1
  have HB1 : Hid (Below w.heap.size w W1) := bst HB.out b1
  have HRi1 : Hid (Ri W1 ao n c xs) := HRi.out.below b1
  have c0 := HS1.out.no
  rw [hN] at c0
  clear k1 b1 s1 HS0 HRi
  generalize W.heap.size = rb at *
  by_cases hnN : n = N
  case neg =>
    have hne : ((n : Int) != (N : Int)) = true := by simp; omega
    obtain rfl : b = qb := by
      rw [← HQ.out]; unfold rsB
      rw [if_neg]
      unfold siB
      simp only [Bool.and_eq_true, decide_eq_true_eq]
      intro h; omega
    have HKR : Hid (W1.rangeAt w.heap.size 0 (rvl b s)) := HS1.out.rng
    go_wp2_with (first | (refine Ln.at_load 87 (.tmp 2) rfl ?_; refine Ln.load_mid 87 (.tmp 2) HKR.out _ Try.underlying87 rfl (by rw [rvl_len]; exact iSt) rfl rfl rfl ?_) | (refine Ln.at_store 87 _ _ rfl ?_; refine wl_storeZ rfl 87 _ _ rfl rfl rfl HR1.out (by rw [rvl_len]; exact iSt) (by rw [rvl_len]; simp [rvl]) (rvl_one _ _) ?_) | fail)
    intro W3 k3 kk3
    have HK3 : Hid (W3.heap[rb]? = some (.cells (rvl b s).toArray 87 (0, 0))) := k3
    have HB3 : Hid (Below w.heap.size w W3) := (show Below _ _ _ from HB1.out.trans (kn kk3 (Nat.le_of_lt hlt) HB1.out.size))
    clear k3 kk3
    go_wp2_with fail
    (try simp only [Exit.inBlock, Exit.then])
    refine bodyPost_ret (v := .agg (rvl b s).toArray) ?_ rfl ⟨rfl, HB3.out⟩
    exact results_cell_row rfl _ _ rb 87 _ (0, 0) _ rfl HK3.out Try.underlying87 rfl (by rw [List.size_toArray, rvl_len]; exact iSt)
  obtain rfl : N = n := hnN.symm
  rcases HRi1.out.2.2 with h0 | ⟨sb, so, rfl, hsc⟩
  · omega
  have HSC : Hid (∀ i, i < N → W1.cell? ⟨sb, so + i, none⟩ = some (.int .i64 (xs.getD i 0))) := hsc
  have HSW : Hid (∀ i, i < N → w.cell? ⟨sb, so + i, none⟩ = some (.int .i64 (xs.getD i 0)) ∨ True) := (show ∀ i, _ from fun _ _ => .inr trivial)
  clear hsc
  go_wp2_with fail
  go_loopw [5] (fun x wr => ∃ (j : Nat), j ≤ N ∧ x = .int .i64 j ∧ Hid ((xs.take j).all (fun x => inR x 0 15) = true) ∧ W1 = wr) (fun x _ => N - (intOf x).toNat)
  case atStart => exact ⟨0, Nat.zero_le _, rfl, (show _ = _ from by simp), rfl⟩
  case round =>
    obtain ⟨j, hj, rfl, hal, rfl⟩ := hrel
    by_cases hjn : j < N
    · have j1 : (0 : Int) ≤ (j : Int) := Int.natCast_nonneg _
      have j3 : (j : Int) < (N : Int) := by omega
      have s1 := HSC.out j hjn
      have HT : Hid ((xs.take (j + 1)).all (fun x => inR x 0 15) = inR (xs.getD j 0) 0 15) := (show _ = _ from all_take (by omega) hal.out)
      generalize hy : xs.getD j 0 = y at *
      by_cases hi0 : inR y 0 15 = true
      · have h2 := inR_iff.1 hi0
        have g1 : ¬ y < 0 := by omega
        have g2 : ¬ 16 ≤ y := by omega
        have HA : Hid ((xs.take (j + 1)).all (fun x => inR x 0 15) = true) := (show _ = _ from by rw [HT.out]; exact hi0)
        clear h2 hi0 HT hy
        go_wp2_with fail
        go_roundw
        case rel => exact ⟨j + 1, by omega, by go_num, HA, (by trivial)⟩
        case measure => simp [intOf]; omega
      · obtain rfl : b = qb := by
          rw [← HQ.out]; unfold rsB
          rw [if_neg]
          unfold siB
          simp only [Bool.and_eq_true, not_and]
          intro _ hc
          have hf : (xs.take (j + 1)).all (fun x => inR x 0 15) = false := by rw [HT.out]; simpa using hi0
          rw [all_no hf] at hc
          cases hc
        have h2 : y < 0 ∨ (¬ y < 0 ∧ 16 ≤ y) := by
          have : ¬ (0 ≤ y ∧ y ≤ 15) := fun h => hi0 (inR_iff.2 h)
          omega
        have HKR : Hid (W1.rangeAt w.heap.size 0 (rvl b s)) := HS1.out.rng
        clear hi0 HT hy
        rcases h2 with g1 | ⟨g1, g2⟩
        all_goals
          go_wp2_with (first | (refine Ln.at_load 87 (.tmp 2) rfl ?_; refine Ln.load_mid 87 (.tmp 2) HKR.out _ Try.underlying87 rfl (by rw [rvl_len]; exact iSt) rfl rfl rfl ?_) | (refine Ln.at_store 87 _ _ rfl ?_; refine wl_storeZ rfl 87 _ _ rfl rfl rfl HR1.out (by rw [rvl_len]; exact iSt) (by rw [rvl_len]; simp [rvl]) (rvl_one _ _) ?_) | fail)
          intro W3 k3 kk3
          have HK3 : Hid (W3.heap[rb]? = some (.cells (rvl b s).toArray 87 (0, 0))) := k3
          have HB3 : Hid (Below w.heap.size w W3) := (show Below _ _ _ from HB1.out.trans (kn kk3 (Nat.le_of_lt hlt) HB1.out.size))
          clear k3 kk3
          go_wp2_with fail
          (try simp only [Exit.inBlock, Exit.then])
          refine bodyPost_ret (v := .agg (rvl b s).toArray) ?_ rfl ⟨rfl, HB3.out⟩
          exact results_cell_row rfl _ _ rb 87 _ (0, 0) _ rfl HK3.out Try.underlying87 rfl (by rw [List.size_toArray, rvl_len]; exact iSt)
    · obtain rfl : N = j := by omega
      obtain rfl : shB b N xs (N * 16) = qb := by
        rw [← HQ.out]; unfold rsB
        rw [if_pos]
        unfold siB
        simp only [Bool.and_eq_true, decide_eq_true_eq]
        refine ⟨by omega, ?_⟩
        have := hal.out
        rw [List.take_of_length_le (by omega)] at this
        exact this
      clear HQ hal HSW
      have hne : sb ≠ w.heap.size := by
        rcases HRw.out.2.2 with h0 | ⟨b', o', e', hc⟩
        · omega
        · cases e'
          have := World.block_lt_of_cell? w _ (hc 0 (by omega))
          intro e
          have e2 : sb = w.heap.size := e
          exact absurd this (by rw [e2]; exact Nat.lt_irrefl _)
      have hkr : rb ≠ w.heap.size := by omega
      have hBk : w.heap.size ≤ w.heap.size := Nat.le_refl _
      have HS2 : Hid (Sb W1 w.heap.size (shB b N xs (0 * 16)) s) := (show Sb _ _ _ _ from by
        have h5 := HS1.out
        unfold Sb at h5 ⊢
        rw [h5, rvl_congr (fun i _ => (shB_zero (b := b) (N := N) (xs := xs) i).symm) (fun _ _ => rfl)])
      have HSC2 : Hid (∀ wr i, Below w.heap.size w wr → i < N → wr.cell? ⟨sb, so + i, none⟩ = some (.int .i64 (xs.getD i 0))) := (show ∀ wr i, _ from fun wr i hb hi => by
        rcases HRw.out.2.2 with h0 | ⟨b', o', e', hc⟩
        · omega
        · cases e'
          exact below_at hb (hc i hi))
      clear HSC HRw
      go_wp2_with fail
      clear c0
      go_loopw [6] (fun x wr => ∃ (j : Nat), j ≤ N ∧ x = .int .i64 j ∧ Hid (Sb wr w.heap.size (shB b N xs (j * 16)) s) ∧ Hid (wr.heap[rb]? = some (.cells (rvl (fun _ => false) (fun _ => 0)).toArray 87 (0, 0))) ∧ Hid (Below w.heap.size w wr)) (fun x _ => N - (intOf x).toNat)
      case atStart => exact ⟨0, Nat.zero_le _, rfl, HS2, HR1, HB1⟩
      case round =>
        obtain ⟨j, hj, rfl, hnb, hrb, hbl⟩ := hrel
        have c0 := hnb.out.no
        rw [hN] at c0
        by_cases hjn : j < N
        · have j1 : (0 : Int) ≤ (j : Int) := Int.natCast_nonneg _
          have j2 : (j : Int) < 16 := by omega
          have j3 : (j : Int) < (N : Int) := by omega
          go_wp2_with fail
          clear c0
          go_loopw [7] (fun x wr => ∃ (i : Nat), i ≤ N ∧ x = .int .i64 i ∧ Hid (Sb wr w.heap.size (shB b N xs (j * 16 + i)) s) ∧ Hid (wr.heap[rb]? = some (.cells (rvl (fun _ => false) (fun _ => 0)).toArray 87 (0, 0))) ∧ Hid (Below w.heap.size w wr)) (fun x _ => N - (intOf x).toNat)
          case atStart => exact ⟨0, Nat.zero_le _, rfl, hnb, hrb, hbl⟩
          case round =>
            obtain ⟨i, hi, rfl, hnc, hrc, hbi⟩ := hrel
            have c0 := hnc.out.no
            rw [hN] at c0
            by_cases hiN : i < N
            · have i1 : (0 : Int) ≤ (i : Int) := Int.natCast_nonneg _
              have i2 : (i : Int) < 16 := by omega
              have i3 : (i : Int) < (N : Int) := by omega
              have s1 := HSC2.out wr i hbi.out hiN
              have s2 := HSC2.out wr j hbi.out hjn
              have HST : Hid (∀ t, t < 289 → upB (shB b N xs (j * 16 + i)) (33 + j * 16 + i) (decide (¬ xs.getD j 0 = xs.getD i 0)) t = shB b N xs (j * 16 + (i + 1)) t) := (show ∀ t, _ from fun t _ => shB_step n2 hjn hiN t)
              clear hnb hrb hbl
              by_cases es : xs.getD j 0 = xs.getD i 0
              · rw [show decide (¬ xs.getD j 0 = xs.getD i 0) = false from decide_eq_false (fun h => h es)] at HST
                rw [es] at s2
                generalize xs.getD i 0 = y at *
                clear es
                go_wp2_with fail
                refine wp_region_held_drew (S := (fun w' => w'.cell? ⟨sb, so + j, none⟩ = some (.int .i64 y) ∧ w'.cell? ⟨sb, so + i, none⟩ = some (.int .i64 y))) (by kernel_rfl) ⟨(below_at (drew_bel _) s2), (below_at (drew_bel _) s1)⟩ (fun hHeld => ?_)
                simp only [Act.put, List.size_toArray, List.length_cons, List.length_nil, Nat.zero_add]
                refine takeD (i := 0) (d := 45) (v := .int .i64 (j : Int)) rfl (by kernel_rfl) (by kernel_rfl) (by kernel_rfl) (by kernel_rfl) (fun _ _ _ h => h) (Or.inl ⟨by rfl, fun w' hS => by go_simp⟩) hHeld ?_
                simp only [Act.put, List.setIfInBounds_toArray, List.set_cons_zero, List.set_cons_succ]
                refine takeD (i := 1) (d := 46) (v := .int .i64 (i : Int)) rfl (by kernel_rfl) (by kernel_rfl) (by kernel_rfl) (by kernel_rfl) (fun _ _ _ h => h) (Or.inl ⟨by rfl, fun w' hS => by go_simp⟩) hHeld ?_
                simp only [Act.put, List.setIfInBounds_toArray, List.set_cons_zero, List.set_cons_succ]
                refine takeD (i := 2) (d := 47) (v := .slice (some ⟨sb, so, none⟩) N c) rfl (by kernel_rfl) (by kernel_rfl) (by kernel_rfl) (by kernel_rfl) (fun _ _ _ h => h) (Or.inl ⟨by rfl, fun w' hS => by go_simp⟩) hHeld ?_
                simp only [Act.put, List.setIfInBounds_toArray, List.set_cons_zero, List.set_cons_succ]
                refine takeD (i := 3) (d := 48) (v := .int .i64 (j : Int)) rfl (by kernel_rfl) (by kernel_rfl) (by kernel_rfl) (by kernel_rfl) (fun _ _ _ h => h) (Or.inl ⟨by rfl, fun w' hS => by go_simp⟩) hHeld ?_
                simp only [Act.put, List.setIfInBounds_toArray, List.set_cons_zero, List.set_cons_succ]
                refine takeD (i := 4) (d := 49) (v := .pointer (some ⟨sb, so + j, none⟩)) rfl (by kernel_rfl) (by kernel_rfl) (by kernel_rfl) (by kernel_rfl) (fun _ _ _ h => h) (Or.inl ⟨by rfl, fun w' hS => by go_simp⟩) hHeld ?_
                simp only [Act.put, List.setIfInBounds_toArray, List.set_cons_zero, List.set_cons_succ]
                refine takeD (i := 5) (d := 50) (v := .int .i64 y) rfl (by kernel_rfl) (by kernel_rfl) (by kernel_rfl) (by kernel_rfl) (fun _ _ _ h => h) (Or.inl ⟨by rfl, fun w' hS => by (obtain ⟨s0, s1⟩ := hS; go_simp)⟩) hHeld ?_
                simp only [Act.put, List.setIfInBounds_toArray, List.set_cons_zero, List.set_cons_succ]
                refine takeD (i := 6) (d := 51) (v := .slice (some ⟨sb, so, none⟩) N c) rfl (by kernel_rfl) (by kernel_rfl) (by kernel_rfl) (by kernel_rfl) (fun _ _ _ h => h) (Or.inl ⟨by rfl, fun w' hS => by go_simp⟩) hHeld ?_
                simp only [Act.put, List.setIfInBounds_toArray, List.set_cons_zero, List.set_cons_succ]
                refine takeD (i := 7) (d := 52) (v := .int .i64 (i : Int)) rfl (by kernel_rfl) (by kernel_rfl) (by kernel_rfl) (by kernel_rfl) (fun _ _ _ h => h) (Or.inl ⟨by rfl, fun w' hS => by go_simp⟩) hHeld ?_
                simp only [Act.put, List.setIfInBounds_toArray, List.set_cons_zero, List.set_cons_succ]
                refine takeD (i := 8) (d := 53) (v := .pointer (some ⟨sb, so + i, none⟩)) rfl (by kernel_rfl) (by kernel_rfl) (by kernel_rfl) (by kernel_rfl) (fun _ _ _ h => h) (Or.inl ⟨by rfl, fun w' hS => by go_simp⟩) hHeld ?_
                simp only [Act.put, List.setIfInBounds_toArray, List.set_cons_zero, List.set_cons_succ]
                refine takeD (i := 9) (d := 54) (v := .int .i64 y) rfl (by kernel_rfl) (by kernel_rfl) (by kernel_rfl) (by kernel_rfl) (fun _ _ _ h => h) (Or.inl ⟨by rfl, fun w' hS => by (obtain ⟨s0, s1⟩ := hS; go_simp)⟩) hHeld ?_
                simp only [Act.put, List.setIfInBounds_toArray, List.set_cons_zero, List.set_cons_succ]
                refine takeD (i := 10) (d := 55) (v := .bool false) rfl (by kernel_rfl) (by kernel_rfl) (by kernel_rfl) (by kernel_rfl) (fun _ _ _ h => h) (Or.inl ⟨by rfl, fun w' hS => by go_simp⟩) hHeld ?_
                simp only [Act.put, List.setIfInBounds_toArray, List.set_cons_zero, List.set_cons_succ]
                refine takeD (i := 11) (d := 56) (v := .pointer (some ⟨w.heap.size, 33, none⟩)) rfl (by kernel_rfl) (by kernel_rfl) (by kernel_rfl) (by kernel_rfl) (fun _ _ _ h => h) (Or.inl ⟨by rfl, fun w' hS => by go_simp⟩) hHeld ?_
                simp only [Act.put, List.setIfInBounds_toArray, List.set_cons_zero, List.set_cons_succ]
                refine takeD (i := 12) (d := 57) (v := .pointer (some ⟨w.heap.size, 33 + j * 16, none⟩)) rfl (by kernel_rfl) (by kernel_rfl) (by kernel_rfl) (by kernel_rfl) (fun _ _ _ h => h) (Or.inl ⟨by rfl, fun w' hS => by go_simp⟩) hHeld ?_
                simp only [Act.put, List.setIfInBounds_toArray, List.set_cons_zero, List.set_cons_succ]
                refine takeD (i := 13) (d := 58) (v := .pointer (some ⟨w.heap.size, 33 + j * 16 + i, none⟩)) rfl (by kernel_rfl) (by kernel_rfl) (by kernel_rfl) (by kernel_rfl) (fun _ _ _ h => h) (Or.inl ⟨by rfl, fun w' hS => by go_simp⟩) hHeld ?_
                simp only [Act.put, List.setIfInBounds_toArray, List.set_cons_zero, List.set_cons_succ]
                have hbD1 : Below wr.heap.size wr wr.drew := drew_bel _
                have q0 := below_at hbD1 s2
                have q1 := below_at hbD1 s1
                have hSD : Sb wr.drew w.heap.size (shB b N xs (j * 16 + i)) s := hnc.out.on hbD1
                have hRD : wr.drew.heap[rb]? = some (.cells (rvl (fun _ => false) (fun _ => 0)).toArray 87 (0, 0)) := blk_on hbD1 hrc.out
                have hBD : Below w.heap.size w wr.drew := hbi.out.trans (hbD1.mono hbi.out.size)
                generalize wr.drew = D1 at *
                have HD1 : Hid (Sb D1 w.heap.size (shB b N xs (j * 16 + i)) s) := hSD
                have HR1 : Hid (D1.heap[rb]? = some (.cells (rvl (fun _ => false) (fun _ => 0)).toArray 87 (0, 0))) := hRD
                have HBD : Hid (Below w.heap.size w D1) := hBD
                clear hSD hRD hBD
                refine wpAnyH_ready (rs := [14]) (by kernel_rfl) (by simp) ?_
                refine AllReadyH.cons rfl (fun K hK => ?_) AllReadyH.nil
                have z1 := HD1.out.bo (i := 33 + j * 16 + i) (by omega) (by omega)
                have z2 := HD1.out.fz (33 + j * 16 + i)
                go_simp
                refine hK.out _ _ ⟨(cell_ne hne q0), (cell_ne hne q1)⟩ (fun hHeld => ?_)
                clear hK K
                refine wpAnyH_done (by kernel_rfl) ?_ _
                clear hHeld
                have H5 : Hid (Sb (D1.setCell ⟨w.heap.size, 33 + j * 16 + i, none⟩ (.bool false)) w.heap.size (shB b N xs (j * 16 + (i + 1))) s) := (show Sb _ _ _ _ from by
                  have h5 := HD1.out.setB (i := 33 + j * 16 + i) false (by omega) (by omega)
                  unfold Sb at h5 ⊢
                  rw [h5, rvl_congr HST.out (fun _ _ => rfl)])
                have HR5 : Hid ((D1.setCell ⟨w.heap.size, 33 + j * 16 + i, none⟩ (.bool false)).heap[rb]? = some (.cells (rvl (fun _ => false) (fun _ => 0)).toArray 87 (0, 0))) := (show _ = _ from (Mb.kset (P := fun q => q = w.heap.size) D1 w.heap.size _ _ rfl).obj HR1.out (fun e => hkr e))
                have HB5 : Hid (Below w.heap.size w (D1.setCell ⟨w.heap.size, 33 + j * 16 + i, none⟩ (.bool false))) := HBD.out.setCell hBk _
                clear HD1 HR1 HBD q0 q1 hbD1 HST hnc hrc hbi s1 s2
                try clear z1 z2
                go_wp2_with fail
                go_roundw
                case rel => exact ⟨i + 1, by omega, by go_num, H5, HR5, HB5⟩
                case measure => simp [intOf]; omega
              · rw [show decide (¬ xs.getD j 0 = xs.getD i 0) = true from decide_eq_true es] at HST
                have es' : (xs.getD j 0 == xs.getD i 0) = false := by rw [beq_eq_false_iff_ne]; exact es
                generalize xs.getD i 0 = y at *
                generalize xs.getD j 0 = z at *
                clear es
                go_wp2_with fail
                refine wp_region_held_drew (S := (fun w' => w'.cell? ⟨sb, so + j, none⟩ = some (.int .i64 z) ∧ w'.cell? ⟨sb, so + i, none⟩ = some (.int .i64 y))) (by kernel_rfl) ⟨(below_at (drew_bel _) s2), (below_at (drew_bel _) s1)⟩ (fun hHeld => ?_)
                simp only [Act.put, List.size_toArray, List.length_cons, List.length_nil, Nat.zero_add]
                refine takeD (i := 0) (d := 45) (v := .int .i64 (j : Int)) rfl (by kernel_rfl) (by kernel_rfl) (by kernel_rfl) (by kernel_rfl) (fun _ _ _ h => h) (Or.inl ⟨by rfl, fun w' hS => by go_simp⟩) hHeld ?_
                simp only [Act.put, List.setIfInBounds_toArray, List.set_cons_zero, List.set_cons_succ]
                refine takeD (i := 1) (d := 46) (v := .int .i64 (i : Int)) rfl (by kernel_rfl) (by kernel_rfl) (by kernel_rfl) (by kernel_rfl) (fun _ _ _ h => h) (Or.inl ⟨by rfl, fun w' hS => by go_simp⟩) hHeld ?_
                simp only [Act.put, List.setIfInBounds_toArray, List.set_cons_zero, List.set_cons_succ]
                refine takeD (i := 2) (d := 47) (v := .slice (some ⟨sb, so, none⟩) N c) rfl (by kernel_rfl) (by kernel_rfl) (by kernel_rfl) (by kernel_rfl) (fun _ _ _ h => h) (Or.inl ⟨by rfl, fun w' hS => by go_simp⟩) hHeld ?_
                simp only [Act.put, List.setIfInBounds_toArray, List.set_cons_zero, List.set_cons_succ]
                refine takeD (i := 3) (d := 48) (v := .int .i64 (j : Int)) rfl (by kernel_rfl) (by kernel_rfl) (by kernel_rfl) (by kernel_rfl) (fun _ _ _ h => h) (Or.inl ⟨by rfl, fun w' hS => by go_simp⟩) hHeld ?_
                simp only [Act.put, List.setIfInBounds_toArray, List.set_cons_zero, List.set_cons_succ]
                refine takeD (i := 4) (d := 49) (v := .pointer (some ⟨sb, so + j, none⟩)) rfl (by kernel_rfl) (by kernel_rfl) (by kernel_rfl) (by kernel_rfl) (fun _ _ _ h => h) (Or.inl ⟨by rfl, fun w' hS => by go_simp⟩) hHeld ?_
                simp only [Act.put, List.setIfInBounds_toArray, List.set_cons_zero, List.set_cons_succ]
                refine takeD (i := 5) (d := 50) (v := .int .i64 z) rfl (by kernel_rfl) (by kernel_rfl) (by kernel_rfl) (by kernel_rfl) (fun _ _ _ h => h) (Or.inl ⟨by rfl, fun w' hS => by (obtain ⟨s0, s1⟩ := hS; go_simp)⟩) hHeld ?_
                simp only [Act.put, List.setIfInBounds_toArray, List.set_cons_zero, List.set_cons_succ]
                refine takeD (i := 6) (d := 51) (v := .slice (some ⟨sb, so, none⟩) N c) rfl (by kernel_rfl) (by kernel_rfl) (by kernel_rfl) (by kernel_rfl) (fun _ _ _ h => h) (Or.inl ⟨by rfl, fun w' hS => by go_simp⟩) hHeld ?_
                simp only [Act.put, List.setIfInBounds_toArray, List.set_cons_zero, List.set_cons_succ]
                refine takeD (i := 7) (d := 52) (v := .int .i64 (i : Int)) rfl (by kernel_rfl) (by kernel_rfl) (by kernel_rfl) (by kernel_rfl) (fun _ _ _ h => h) (Or.inl ⟨by rfl, fun w' hS => by go_simp⟩) hHeld ?_
                simp only [Act.put, List.setIfInBounds_toArray, List.set_cons_zero, List.set_cons_succ]
                refine takeD (i := 8) (d := 53) (v := .pointer (some ⟨sb, so + i, none⟩)) rfl (by kernel_rfl) (by kernel_rfl) (by kernel_rfl) (by kernel_rfl) (fun _ _ _ h => h) (Or.inl ⟨by rfl, fun w' hS => by go_simp⟩) hHeld ?_
                simp only [Act.put, List.setIfInBounds_toArray, List.set_cons_zero, List.set_cons_succ]
                refine takeD (i := 9) (d := 54) (v := .int .i64 y) rfl (by kernel_rfl) (by kernel_rfl) (by kernel_rfl) (by kernel_rfl) (fun _ _ _ h => h) (Or.inl ⟨by rfl, fun w' hS => by (obtain ⟨s0, s1⟩ := hS; go_simp)⟩) hHeld ?_
                simp only [Act.put, List.setIfInBounds_toArray, List.set_cons_zero, List.set_cons_succ]
                refine takeD (i := 10) (d := 55) (v := .bool true) rfl (by kernel_rfl) (by kernel_rfl) (by kernel_rfl) (by kernel_rfl) (fun _ _ _ h => h) (Or.inl ⟨by rfl, fun w' hS => by (go_simp <;> (first | (simp only [bne, es']; rfl) | (simp [bne, es']) | simp_all))⟩) hHeld ?_
                simp only [Act.put, List.setIfInBounds_toArray, List.set_cons_zero, List.set_cons_succ]
                refine takeD (i := 11) (d := 56) (v := .pointer (some ⟨w.heap.size, 33, none⟩)) rfl (by kernel_rfl) (by kernel_rfl) (by kernel_rfl) (by kernel_rfl) (fun _ _ _ h => h) (Or.inl ⟨by rfl, fun w' hS => by go_simp⟩) hHeld ?_
                simp only [Act.put, List.setIfInBounds_toArray, List.set_cons_zero, List.set_cons_succ]
                refine takeD (i := 12) (d := 57) (v := .pointer (some ⟨w.heap.size, 33 + j * 16, none⟩)) rfl (by kernel_rfl) (by kernel_rfl) (by kernel_rfl) (by kernel_rfl) (fun _ _ _ h => h) (Or.inl ⟨by rfl, fun w' hS => by go_simp⟩) hHeld ?_
                simp only [Act.put, List.setIfInBounds_toArray, List.set_cons_zero, List.set_cons_succ]
                refine takeD (i := 13) (d := 58) (v := .pointer (some ⟨w.heap.size, 33 + j * 16 + i, none⟩)) rfl (by kernel_rfl) (by kernel_rfl) (by kernel_rfl) (by kernel_rfl) (fun _ _ _ h => h) (Or.inl ⟨by rfl, fun w' hS => by go_simp⟩) hHeld ?_
                simp only [Act.put, List.setIfInBounds_toArray, List.set_cons_zero, List.set_cons_succ]
                have hbD1 : Below wr.heap.size wr wr.drew := drew_bel _
                have q0 := below_at hbD1 s2
                have q1 := below_at hbD1 s1
                have hSD : Sb wr.drew w.heap.size (shB b N xs (j * 16 + i)) s := hnc.out.on hbD1
                have hRD : wr.drew.heap[rb]? = some (.cells (rvl (fun _ => false) (fun _ => 0)).toArray 87 (0, 0)) := blk_on hbD1 hrc.out
                have hBD : Below w.heap.size w wr.drew := hbi.out.trans (hbD1.mono hbi.out.size)
                generalize wr.drew = D1 at *
                have HD1 : Hid (Sb D1 w.heap.size (shB b N xs (j * 16 + i)) s) := hSD
                have HR1 : Hid (D1.heap[rb]? = some (.cells (rvl (fun _ => false) (fun _ => 0)).toArray 87 (0, 0))) := hRD
                have HBD : Hid (Below w.heap.size w D1) := hBD
                clear hSD hRD hBD
                refine wpAnyH_ready (rs := [14]) (by kernel_rfl) (by simp) ?_
                refine AllReadyH.cons rfl (fun K hK => ?_) AllReadyH.nil
                have z1 := HD1.out.bo (i := 33 + j * 16 + i) (by omega) (by omega)
                have z2 := HD1.out.fz (33 + j * 16 + i)
                go_simp
                refine hK.out _ _ ⟨(cell_ne hne q0), (cell_ne hne q1)⟩ (fun hHeld => ?_)
                clear hK K
                refine wpAnyH_done (by kernel_rfl) ?_ _
                clear hHeld
                have H5 : Hid (Sb (D1.setCell ⟨w.heap.size, 33 + j * 16 + i, none⟩ (.bool true)) w.heap.size (shB b N xs (j * 16 + (i + 1))) s) := (show Sb _ _ _ _ from by
                  have h5 := HD1.out.setB (i := 33 + j * 16 + i) true (by omega) (by omega)
                  unfold Sb at h5 ⊢
                  rw [h5, rvl_congr HST.out (fun _ _ => rfl)])
                have HR5 : Hid ((D1.setCell ⟨w.heap.size, 33 + j * 16 + i, none⟩ (.bool true)).heap[rb]? = some (.cells (rvl (fun _ => false) (fun _ => 0)).toArray 87 (0, 0))) := (show _ = _ from (Mb.kset (P := fun q => q = w.heap.size) D1 w.heap.size _ _ rfl).obj HR1.out (fun e => hkr e))
                have HB5 : Hid (Below w.heap.size w (D1.setCell ⟨w.heap.size, 33 + j * 16 + i, none⟩ (.bool true))) := HBD.out.setCell hBk _
                clear HD1 HR1 HBD q0 q1 hbD1 HST hnc hrc hbi s1 s2
                try clear z1 z2
                go_wp2_with fail
                go_roundw
                case rel => exact ⟨i + 1, by omega, by go_num, H5, HR5, HB5⟩
                case measure => simp [intOf]; omega
            · obtain rfl : N = i := by omega
              have HA : Hid (Sb wr w.heap.size (shB b N xs ((j + 1) * 16)) s) := (show Sb _ _ _ _ from by
                have h5 := hnc.out
                unfold Sb at h5 ⊢
                rw [h5, rvl_congr (fun k _ => shB_row n2 k) (fun _ _ => rfl)])
              clear hnc hnb hrb hbl
              go_wp2_with fail
              go_roundw
              case rel => exact ⟨j + 1, by omega, by go_num, HA, hrc, hbi⟩
              case measure => simp [intOf]; omega
        · obtain rfl : N = j := by omega
          have HKR : Hid (wr.rangeAt w.heap.size 0 (rvl (shB b N xs (N * 16)) s)) := hnb.out.rng
          go_wp2_with (first | (refine Ln.at_load 87 (.tmp 2) rfl ?_; refine Ln.load_mid 87 (.tmp 2) HKR.out _ Try.underlying87 rfl (by rw [rvl_len]; exact iSt) rfl rfl rfl ?_) | (refine Ln.at_store 87 _ _ rfl ?_; refine wl_storeZ rfl 87 _ _ rfl rfl rfl hrb.out (by rw [rvl_len]; exact iSt) (by rw [rvl_len]; simp [rvl]) (rvl_one _ _) ?_) | fail)
          intro W3 k3 kk3
          have HK3 : Hid (W3.heap[rb]? = some (.cells (rvl (shB b N xs (N * 16)) s).toArray 87 (0, 0))) := k3
          have HB3 : Hid (Below w.heap.size w W3) := (show Below _ _ _ from hbl.out.trans (kn kk3 (Nat.le_of_lt hlt) hbl.out.size))
          clear k3 kk3
          go_wp2_with fail
          (try simp only [Exit.inBlock, Exit.then])
          refine bodyPost_ret (v := .agg (rvl (shB b N xs (N * 16)) s).toArray) ?_ rfl ⟨rfl, HB3.out⟩
          exact results_cell_row rfl _ _ rb 87 _ (0, 0) _ rfl HK3.out Try.underlying87 rfl (by rw [List.size_toArray, rvl_len]; exact iSt)
end Go.Proofs.Ytfodkackfahldaa.Lo
