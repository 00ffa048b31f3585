import Derived.Test.YtfodkackfahldaaBtcc
namespace Go.Proofs.Ytfodkackfahldaa.Lo
open Go.RowKit
set_option linter.unusedVariables false
set_option linter.unusedSimpArgs false

set_option maxRecDepth 100000 in
set_option maxHeartbeats 8000000 in
theorem after_A (b : Nat → Bool) (s : Nat → Int) (N : Nat) (e : Em) (w : World) (hN : s 0 = (N : Int)) (n1 : 1 ≤ N) (n2 : N ≤ 16) (hr : Ri w e.sa e.sn e.sc e.xs) (hn : e.sn ≤ 140737488355328) (hc : ndB s e.a = false ∧ True) : Calls Try.prog 53 #[.agg (rvl b s).toArray, .agg e.cs.toArray] w fun r w' => r = .returned (.agg (rvl (rafB b N e.xs e.k e.n (ndB s e.a) (ndB s e.a && b (1 + e.a.toNat)) (ndB s e.a && ndB s e.b && !(e.a == e.b)) e.a.toNat e.b.toNat) (rafS s e.k e.n (ndB s e.a && ndB s e.b && !(e.a == e.b)) e.a.toNat e.b.toNat)).toArray) ∧ Below w.heap.size w w' := by
  have HC : Hid (ndB s e.a = false ∧ True) := (show _ from hc)
  clear hc
  have hb0 : Below w.heap.size w (w.alloc (.cells (rvl b s).toArray 87)) := bsp _ _ _
  have hS := Sb.new w b s
  generalize hW : w.alloc (.cells (rvl b s).toArray 87) = W at *
  have hk := heap_new W e.cs.toArray 36
  have hb1 := bsp W e.cs.toArray 36
  generalize hW1 : W.alloc (.cells e.cs.toArray 36) = W1 at *
  have hS1 := hS.on hb1
  have HB1 : Hid (Below w.heap.size w W1) := bst hb0 hb1
  have hke : w.heap.size < W.heap.size := hS.lt
  have heb : W.heap.size < W1.heap.size := lt_heap_of hk
  have HE1 : Hid (W1.heap[W.heap.size]? = some (.cells e.cs.toArray 36 (0, 0))) := hk
  have HS1 : Hid (Sb W1 w.heap.size b s) := hS1
  have HPa : Hid (∀ D, Calls Try.prog 57 #[.agg (rvl b s).toArray, .int .i64 e.a, .int .i64 e.b] D fun r w' => r = .returned (.bool (ndB s e.a && ndB s e.b && !(e.a == e.b))) ∧ Below D.heap.size D w') := (show ∀ D, _ from fun D => spath_any b s e.a e.b D)
  have HNd : Hid (∀ D, Calls Try.prog 58 #[.agg (rvl b s).toArray, .int .i64 e.a] D fun r w' => r = .returned (.bool (ndB s e.a)) ∧ Below D.heap.size D w') := (show ∀ D, _ from fun D => snode_any b s e.a D)
  have HSp : Hid (∀ D, Below w.heap.size w D → Calls Try.prog 59 #[.agg (rvl b s).toArray, .slice e.sa e.sn e.sc] D fun r w' => r = .returned (.agg (rvl (rsB b N e.xs) s).toArray) ∧ Below D.heap.size D w') := (show ∀ D, _ from fun D hb => rsplit_any b s N e.sa e.sn e.sc e.xs D hN n1 n2 (hr.below hb) hn)
  obtain ⟨qb, hqb⟩ : ∃ x, rafB b N e.xs e.k e.n (ndB s e.a) (ndB s e.a && b (1 + e.a.toNat)) (ndB s e.a && ndB s e.b && !(e.a == e.b)) e.a.toNat e.b.toNat = x := ⟨_, rfl⟩
  obtain ⟨qs, hqs⟩ : ∃ x, rafS s e.k e.n (ndB s e.a && ndB s e.b && !(e.a == e.b)) e.a.toNat e.b.toNat = x := ⟨_, rfl⟩
  rw [hqb, hqs]
  have HQb0 : Hid (rafB b N e.xs e.k e.n (ndB s e.a) (ndB s e.a && b (1 + e.a.toNat)) (ndB s e.a && ndB s e.b && !(e.a == e.b)) e.a.toNat e.b.toNat = qb) := hqb
  have HQs0 : Hid (rafS s e.k e.n (ndB s e.a && ndB s e.b && !(e.a == e.b)) e.a.toNat e.b.toNat = qs) := hqs
  clear hqb hqs hk hb0 hb1 hS hS1 hr
  generalize hnd : ndB s e.a = nd at *
  generalize hpt : (nd && ndB s e.b && !(e.a == e.b)) = pt at *
  have HND : Hid (ndB s e.a = nd) := hnd
  have HPT : Hid ((nd && ndB s e.b && !(e.a == e.b)) = pt) := hpt
  clear hnd hpt
  go_enter Try.func53, Try.ntmps53
  go_wp2_with (first | (refine wl_allocZ rfl 87 rfl zSt ?_) | fail)
  intro W2 k2 b2 s2
  have HS2 : Hid (Sb W2 w.heap.size b s) := (show Sb _ _ _ _ from HS1.out.on b2)
  have HR2 : Hid (W2.heap[W1.heap.size]? = some (.cells (rvl (fun _ => false) (fun _ => 0)).toArray 87 (0, 0))) := k2
  have HE2 : Hid (W2.heap[W.heap.size]? = some (.cells e.cs.toArray 36 (0, 0))) := (show _ = _ from blk_on b2 HE1.out)
  have HB2 : Hid (Below w.heap.size w W2) := bst HB1.out b2
  have hkr : w.heap.size < W1.heap.size := by omega
  clear k2 b2 s2 HS1 HE1 HB1
  generalize W1.heap.size = rb at *
  generalize W.heap.size = eb at *
  have HKR : Hid (W2.rangeAt w.heap.size 0 (rvl b s)) := HS2.out.rng
  have f1 : W2.cell? ⟨eb, 1, none⟩ = some (.int .i64 e.a) := blk_cell HE2.out 1
  have f2 : W2.cell? ⟨eb, 2, none⟩ = some (.int .i64 e.b) := blk_cell HE2.out 2
  go_wp2_with (first | (refine Ln.at_load 87 (.tmp 2) rfl ?_; refine Ln.load_mid 87 (.tmp 2) HKR.out _ Try.underlying87 rfl (by rw [rvl_len]; exact iSt) rfl rfl rfl ?_) | fail)
  refine (HPa.out _).mono ?_
  rintro r3 w3 ⟨rfl, hb3⟩
  have HS3 : Hid (Sb w3 w.heap.size b s) := (show Sb _ _ _ _ from HS2.out.on hb3)
  have HR3 : Hid (w3.heap[rb]? = some (.cells (rvl (fun _ => false) (fun _ => 0)).toArray 87 (0, 0))) := (show _ = _ from blk_on hb3 HR2.out)
  have HE3 : Hid (w3.heap[eb]? = some (.cells e.cs.toArray 36 (0, 0))) := (show _ = _ from blk_on hb3 HE2.out)
  have HB3 : Hid (Below w.heap.size w w3) := bst HB2.out hb3
  clear hb3 HS2 HR2 HE2 HB2 HKR f1 f2 HPa
  have HKR : Hid (w3.rangeAt w.heap.size 0 (rvl b s)) := HS3.out.rng
  have f1 : w3.cell? ⟨eb, 1, none⟩ = some (.int .i64 e.a) := blk_cell HE3.out 1
  go_wp2_with (first | (refine Ln.at_load 87 (.tmp 2) rfl ?_; refine Ln.load_mid 87 (.tmp 2) HKR.out _ Try.underlying87 rfl (by rw [rvl_len]; exact iSt) rfl rfl rfl ?_) | fail)
  refine (HNd.out _).mono ?_
  rintro r4 w4 ⟨rfl, hb4⟩
  have HS4 : Hid (Sb w4 w.heap.size b s) := (show Sb _ _ _ _ from HS3.out.on hb4)
  have HR4 : Hid (w4.heap[rb]? = some (.cells (rvl (fun _ => false) (fun _ => 0)).toArray 87 (0, 0))) := (show _ = _ from blk_on hb4 HR3.out)
  have hE4 := blk_on hb4 HE3.out
  have HB4 : Hid (Below w.heap.size w w4) := bst HB3.out hb4
  have g0 : w4.cell? ⟨eb, 0, none⟩ = some (.int .i64 e.k) := blk_cell hE4 0
  have g1 : w4.cell? ⟨eb, 1, none⟩ = some (.int .i64 e.a) := blk_cell hE4 1
  have g2 : w4.cell? ⟨eb, 2, none⟩ = some (.int .i64 e.b) := blk_cell hE4 2
  have g3 : w4.cell? ⟨eb, 3, none⟩ = some (.int .i64 e.n) := blk_cell hE4 3
  have g12 : w4.cell? ⟨eb, 12, none⟩ = some (.slice e.sa e.sn e.sc) := blk_cell hE4 12
  have HE4 : Hid (w4.heap[eb]? = some (.cells e.cs.toArray 36 (0, 0))) := hE4
  have hek : eb ≠ w.heap.size := by omega
  clear hb4 HS3 HR3 HE3 HB3 HKR f1 hE4
  generalize hkd : e.k = kd at *
  generalize hen : e.n = n at *
  generalize hea : e.a = ea at *
  generalize hebq : e.b = ebq at *
  generalize e.xs = xs at *
  generalize e.sa = sa at *
  generalize e.sn = sn at *
  generalize e.sc = sc at *
  clear hkd hen hea hebq
  cases nd
  case true => exact absurd HC.out.1 (by simp)
  clear HC
  obtain rfl : false = pt := by rw [← HPT.out]; rfl
  have HQb : Hid (rafB b N xs kd n false false false ea.toNat ebq.toNat = qb) := HQb0
  have HQs : Hid (rafS s kd n false ea.toNat ebq.toNat = qs) := HQs0
  clear HQb0 HQs0 HND HPT
  by_cases k5 : kd = 5
  · subst k5
    obtain rfl : (b) = qb := by rw [← HQb.out]; simp [rafB]
    obtain rfl : (s) = qs := by rw [← HQs.out]; simp [rafS]
    clear HQb HQs
    have HKR : Hid (w4.rangeAt w.heap.size 0 (rvl (b) (s))) := HS4.out.rng
    go_wp2_with (first | (refine Ln.at_load 87 (.tmp 2) rfl ?_; refine Ln.load_mid 87 (.tmp 2) HKR.out _ Try.underlying87 rfl (by rw [rvl_len]; exact iSt) rfl rfl rfl ?_) | (refine Ln.at_store 87 _ _ rfl ?_; refine wl_storeZ rfl 87 _ _ rfl rfl rfl HR4.out (by rw [rvl_len]; exact iSt) (by rw [rvl_len]; simp [rvl]) (rvl_one _ _) ?_) | fail)
    intro W9 k9 kk9
    have HK9 : Hid (W9.heap[rb]? = some (.cells (rvl (b) (s)).toArray 87 (0, 0))) := k9
    have HB9 : Hid (Below w.heap.size w W9) := (show Below _ _ _ from HB4.out.trans (kn kk9 (Nat.le_of_lt hkr) HB4.out.size))
    clear k9 kk9
    go_wp2_with fail
    (try simp only [Exit.inBlock, Exit.then])
    refine bodyPost_ret (v := .agg (rvl (b) (s)).toArray) ?_ rfl ⟨rfl, HB9.out⟩
    exact results_cell_row rfl _ _ rb 87 _ (0, 0) _ rfl HK9.out Try.underlying87 rfl (by rw [List.size_toArray, rvl_len]; exact iSt)
  by_cases k6 : kd = 6
  · subst k6
    have HKN : Hid (w4.rangeAt w.heap.size 0 (rvl b s)) := HS4.out.rng
    go_wp2_with (first | (refine Ln.at_load 87 (.tmp 2) rfl ?_; refine Ln.load_mid 87 (.tmp 2) HKN.out _ Try.underlying87 rfl (by rw [rvl_len]; exact iSt) rfl rfl rfl ?_) | fail)
    refine (HNd.out _).mono ?_
    rintro r5 w4b ⟨rfl, hb5⟩
    have HS4b : Hid (Sb w4b w.heap.size b s) := (show Sb _ _ _ _ from HS4.out.on hb5)
    have HR4b : Hid (w4b.heap[rb]? = some (.cells (rvl (fun _ => false) (fun _ => 0)).toArray 87 (0, 0))) := (show _ = _ from blk_on hb5 HR4.out)
    have HB4b : Hid (Below w.heap.size w w4b) := bst HB4.out hb5
    have g0b := below_at hb5 g0
    have g1b := below_at hb5 g1
    clear hb5 HS4 HR4 HB4 HKN g0 g1 g2 g3 g12 HE4
    obtain rfl : (b) = qb := by rw [← HQb.out]; simp [rafB]
    obtain rfl : (s) = qs := by rw [← HQs.out]; simp [rafS]
    clear HQb HQs
    have HKR : Hid (w4b.rangeAt w.heap.size 0 (rvl (b) (s))) := HS4b.out.rng
    go_wp2_with (first | (refine Ln.at_load 87 (.tmp 2) rfl ?_; refine Ln.load_mid 87 (.tmp 2) HKR.out _ Try.underlying87 rfl (by rw [rvl_len]; exact iSt) rfl rfl rfl ?_) | (refine Ln.at_store 87 _ _ rfl ?_; refine wl_storeZ rfl 87 _ _ rfl rfl rfl HR4b.out (by rw [rvl_len]; exact iSt) (by rw [rvl_len]; simp [rvl]) (rvl_one _ _) ?_) | fail)
    intro W9 k9 kk9
    have HK9 : Hid (W9.heap[rb]? = some (.cells (rvl (b) (s)).toArray 87 (0, 0))) := k9
    have HB9 : Hid (Below w.heap.size w W9) := (show Below _ _ _ from HB4b.out.trans (kn kk9 (Nat.le_of_lt hkr) HB4b.out.size))
    clear k9 kk9
    go_wp2_with fail
    (try simp only [Exit.inBlock, Exit.then])
    refine bodyPost_ret (v := .agg (rvl (b) (s)).toArray) ?_ rfl ⟨rfl, HB9.out⟩
    exact results_cell_row rfl _ _ rb 87 _ (0, 0) _ rfl HK9.out Try.underlying87 rfl (by rw [List.size_toArray, rvl_len]; exact iSt)
  by_cases k7 : kd = 7
  · subst k7
    obtain rfl : (b) = qb := by rw [← HQb.out]; simp [rafB]
    obtain rfl : (s) = qs := by rw [← HQs.out]; simp [rafS]
    clear HQb HQs
    have HKR : Hid (w4.rangeAt w.heap.size 0 (rvl (b) (s))) := HS4.out.rng
    go_wp2_with (first | (refine Ln.at_load 87 (.tmp 2) rfl ?_; refine Ln.load_mid 87 (.tmp 2) HKR.out _ Try.underlying87 rfl (by rw [rvl_len]; exact iSt) rfl rfl rfl ?_) | (refine Ln.at_store 87 _ _ rfl ?_; refine wl_storeZ rfl 87 _ _ rfl rfl rfl HR4.out (by rw [rvl_len]; exact iSt) (by rw [rvl_len]; simp [rvl]) (rvl_one _ _) ?_) | fail)
    intro W9 k9 kk9
    have HK9 : Hid (W9.heap[rb]? = some (.cells (rvl (b) (s)).toArray 87 (0, 0))) := k9
    have HB9 : Hid (Below w.heap.size w W9) := (show Below _ _ _ from HB4.out.trans (kn kk9 (Nat.le_of_lt hkr) HB4.out.size))
    clear k9 kk9
    go_wp2_with fail
    (try simp only [Exit.inBlock, Exit.then])
    refine bodyPost_ret (v := .agg (rvl (b) (s)).toArray) ?_ rfl ⟨rfl, HB9.out⟩
    exact results_cell_row rfl _ _ rb 87 _ (0, 0) _ rfl HK9.out Try.underlying87 rfl (by rw [List.size_toArray, rvl_len]; exact iSt)
  by_cases k8 : kd = 8
  · subst k8
    obtain rfl : (b) = qb := by rw [← HQb.out]; simp [rafB]
    obtain rfl : (s) = qs := by rw [← HQs.out]; simp [rafS]
    clear HQb HQs
    have HKR : Hid (w4.rangeAt w.heap.size 0 (rvl (b) (s))) := HS4.out.rng
    go_wp2_with (first | (refine Ln.at_load 87 (.tmp 2) rfl ?_; refine Ln.load_mid 87 (.tmp 2) HKR.out _ Try.underlying87 rfl (by rw [rvl_len]; exact iSt) rfl rfl rfl ?_) | (refine Ln.at_store 87 _ _ rfl ?_; refine wl_storeZ rfl 87 _ _ rfl rfl rfl HR4.out (by rw [rvl_len]; exact iSt) (by rw [rvl_len]; simp [rvl]) (rvl_one _ _) ?_) | fail)
    intro W9 k9 kk9
    have HK9 : Hid (W9.heap[rb]? = some (.cells (rvl (b) (s)).toArray 87 (0, 0))) := k9
    have HB9 : Hid (Below w.heap.size w W9) := (show Below _ _ _ from HB4.out.trans (kn kk9 (Nat.le_of_lt hkr) HB4.out.size))
    clear k9 kk9
    go_wp2_with fail
    (try simp only [Exit.inBlock, Exit.then])
    refine bodyPost_ret (v := .agg (rvl (b) (s)).toArray) ?_ rfl ⟨rfl, HB9.out⟩
    exact results_cell_row rfl _ _ rb 87 _ (0, 0) _ rfl HK9.out Try.underlying87 rfl (by rw [List.size_toArray, rvl_len]; exact iSt)
  by_cases k9 : kd = 9
  · subst k9
    obtain rfl : (b) = qb := by rw [← HQb.out]; simp [rafB]
    obtain rfl : (s) = qs := by rw [← HQs.out]; simp [rafS]
    clear HQb HQs
    have HKR : Hid (w4.rangeAt w.heap.size 0 (rvl (b) (s))) := HS4.out.rng
    go_wp2_with (first | (refine Ln.at_load 87 (.tmp 2) rfl ?_; refine Ln.load_mid 87 (.tmp 2) HKR.out _ Try.underlying87 rfl (by rw [rvl_len]; exact iSt) rfl rfl rfl ?_) | (refine Ln.at_store 87 _ _ rfl ?_; refine wl_storeZ rfl 87 _ _ rfl rfl rfl HR4.out (by rw [rvl_len]; exact iSt) (by rw [rvl_len]; simp [rvl]) (rvl_one _ _) ?_) | fail)
    intro W9 k9 kk9
    have HK9 : Hid (W9.heap[rb]? = some (.cells (rvl (b) (s)).toArray 87 (0, 0))) := k9
    have HB9 : Hid (Below w.heap.size w W9) := (show Below _ _ _ from HB4.out.trans (kn kk9 (Nat.le_of_lt hkr) HB4.out.size))
    clear k9 kk9
    go_wp2_with fail
    (try simp only [Exit.inBlock, Exit.then])
    refine bodyPost_ret (v := .agg (rvl (b) (s)).toArray) ?_ rfl ⟨rfl, HB9.out⟩
    exact results_cell_row rfl _ _ rb 87 _ (0, 0) _ rfl HK9.out Try.underlying87 rfl (by rw [List.size_toArray, rvl_len]; exact iSt)
  by_cases k10 : kd = 10
  · subst k10
    obtain rfl : (b) = qb := by rw [← HQb.out]; simp [rafB]
    obtain rfl : (s) = qs := by rw [← HQs.out]; simp [rafS]
    clear HQb HQs
    have HKR : Hid (w4.rangeAt w.heap.size 0 (rvl (b) (s))) := HS4.out.rng
    go_wp2_with (first | (refine Ln.at_load 87 (.tmp 2) rfl ?_; refine Ln.load_mid 87 (.tmp 2) HKR.out _ Try.underlying87 rfl (by rw [rvl_len]; exact iSt) rfl rfl rfl ?_) | (refine Ln.at_store 87 _ _ rfl ?_; refine wl_storeZ rfl 87 _ _ rfl rfl rfl HR4.out (by rw [rvl_len]; exact iSt) (by rw [rvl_len]; simp [rvl]) (rvl_one _ _) ?_) | fail)
    intro W9 k9 kk9
    have HK9 : Hid (W9.heap[rb]? = some (.cells (rvl (b) (s)).toArray 87 (0, 0))) := k9
    have HB9 : Hid (Below w.heap.size w W9) := (show Below _ _ _ from HB4.out.trans (kn kk9 (Nat.le_of_lt hkr) HB4.out.size))
    clear k9 kk9
    go_wp2_with fail
    (try simp only [Exit.inBlock, Exit.then])
    refine bodyPost_ret (v := .agg (rvl (b) (s)).toArray) ?_ rfl ⟨rfl, HB9.out⟩
    exact results_cell_row rfl _ _ rb 87 _ (0, 0) _ rfl HK9.out Try.underlying87 rfl (by rw [List.size_toArray, rvl_len]; exact iSt)
  by_cases k11 : kd = 11
  · subst k11
    obtain rfl : (rsB b N xs) = qb := by rw [← HQb.out]; simp [rafB]
    obtain rfl : (s) = qs := by rw [← HQs.out]; simp [rafS]
    clear HQb HQs
    have HKN : Hid (w4.rangeAt w.heap.size 0 (rvl b s)) := HS4.out.rng
    have hsp := HSp.out w4 HB4.out
    have HSp4 : Hid (Calls Try.prog 59 #[.agg (rvl b s).toArray, .slice sa sn sc] w4 fun r w' => r = .returned (.agg (rvl (rsB b N xs) s).toArray) ∧ Below w4.heap.size w4 w') := hsp
    clear hsp
    go_wp2_with (first | (refine Ln.at_load 87 (.tmp 2) rfl ?_; refine Ln.load_mid 87 (.tmp 2) HKN.out _ Try.underlying87 rfl (by rw [rvl_len]; exact iSt) rfl rfl rfl ?_) | fail)
    refine HSp4.out.mono ?_
    rintro r5 w5 ⟨rfl, hb5⟩
    have HR5 : Hid (w5.heap[rb]? = some (.cells (rvl (fun _ => false) (fun _ => 0)).toArray 87 (0, 0))) := (show _ = _ from blk_on hb5 HR4.out)
    have HB5 : Hid (Below w.heap.size w w5) := bst HB4.out hb5
    clear hb5 HSp4 HKN g0 g1 g2 g3 g12
    go_wp2_with (first | (refine Ln.at_store 87 _ _ rfl ?_; refine wl_storeZ rfl 87 _ _ rfl rfl rfl HR5.out (by rw [rvl_len]; exact iSt) (by rw [rvl_len]; simp [rvl]) (rvl_one _ _) ?_) | fail)
    intro W9 k9 kk9
    have HK9 : Hid (W9.heap[rb]? = some (.cells (rvl (rsB b N xs) s).toArray 87 (0, 0))) := k9
    have HB9 : Hid (Below w.heap.size w W9) := (show Below _ _ _ from HB5.out.trans (kn kk9 (Nat.le_of_lt hkr) HB5.out.size))
    clear k9 kk9
    go_wp2_with fail
    (try simp only [Exit.inBlock, Exit.then])
    refine bodyPost_ret (v := .agg (rvl (rsB b N xs) s).toArray) ?_ rfl ⟨rfl, HB9.out⟩
    exact results_cell_row rfl _ _ rb 87 _ (0, 0) _ rfl HK9.out Try.underlying87 rfl (by rw [List.size_toArray, rvl_len]; exact iSt)
  by_cases k18 : kd = 18
  · subst k18
    obtain rfl : (b) = qb := by rw [← HQb.out]; simp [rafB]
    obtain rfl : (s) = qs := by rw [← HQs.out]; simp [rafS]
    clear HQb HQs
    have HKR : Hid (w4.rangeAt w.heap.size 0 (rvl (b) (s))) := HS4.out.rng
    go_wp2_with (first | (refine Ln.at_load 87 (.tmp 2) rfl ?_; refine Ln.load_mid 87 (.tmp 2) HKR.out _ Try.underlying87 rfl (by rw [rvl_len]; exact iSt) rfl rfl rfl ?_) | (refine Ln.at_store 87 _ _ rfl ?_; refine wl_storeZ rfl 87 _ _ rfl rfl rfl HR4.out (by rw [rvl_len]; exact iSt) (by rw [rvl_len]; simp [rvl]) (rvl_one _ _) ?_) | fail)
    intro W9 k9 kk9
    have HK9 : Hid (W9.heap[rb]? = some (.cells (rvl (b) (s)).toArray 87 (0, 0))) := k9
    have HB9 : Hid (Below w.heap.size w W9) := (show Below _ _ _ from HB4.out.trans (kn kk9 (Nat.le_of_lt hkr) HB4.out.size))
    clear k9 kk9
    go_wp2_with fail
    (try simp only [Exit.inBlock, Exit.then])
    refine bodyPost_ret (v := .agg (rvl (b) (s)).toArray) ?_ rfl ⟨rfl, HB9.out⟩
    exact results_cell_row rfl _ _ rb 87 _ (0, 0) _ rfl HK9.out Try.underlying87 rfl (by rw [List.size_toArray, rvl_len]; exact iSt)
  have e5 : (kd == 5) = false := by rw [beq_eq_false_iff_ne]; exact k5
  have e6 : (kd == 6) = false := by rw [beq_eq_false_iff_ne]; exact k6
  have e7 : (kd == 7) = false := by rw [beq_eq_false_iff_ne]; exact k7
  have e8 : (kd == 8) = false := by rw [beq_eq_false_iff_ne]; exact k8
  have e9 : (kd == 9) = false := by rw [beq_eq_false_iff_ne]; exact k9
  have e10 : (kd == 10) = false := by rw [beq_eq_false_iff_ne]; exact k10
  have e11 : (kd == 11) = false := by rw [beq_eq_false_iff_ne]; exact k11
  have e18 : (kd == 18) = false := by rw [beq_eq_false_iff_ne]; exact k18
  obtain rfl : (b) = qb := by rw [← HQb.out]; simp [rafB, k5, k6, k7, k8, k9, k10, k11, k18]
  obtain rfl : (s) = qs := by rw [← HQs.out]; simp [rafS, k5, k6, k7, k8, k9, k10, k11, k18]
  clear HQb HQs
  clear k5 k6 k7 k8 k9 k10 k11 k18
  have HKR : Hid (w4.rangeAt w.heap.size 0 (rvl (b) (s))) := HS4.out.rng
  go_wp2_with (first | (refine Ln.at_load 87 (.tmp 2) rfl ?_; refine Ln.load_mid 87 (.tmp 2) HKR.out _ Try.underlying87 rfl (by rw [rvl_len]; exact iSt) rfl rfl rfl ?_) | (refine Ln.at_store 87 _ _ rfl ?_; refine wl_storeZ rfl 87 _ _ rfl rfl rfl HR4.out (by rw [rvl_len]; exact iSt) (by rw [rvl_len]; simp [rvl]) (rvl_one _ _) ?_) | fail)
  intro W9 k9 kk9
  have HK9 : Hid (W9.heap[rb]? = some (.cells (rvl (b) (s)).toArray 87 (0, 0))) := k9
  have HB9 : Hid (Below w.heap.size w W9) := (show Below _ _ _ from HB4.out.trans (kn kk9 (Nat.le_of_lt hkr) HB4.out.size))
  clear k9 kk9
  go_wp2_with fail
  (try simp only [Exit.inBlock, Exit.then])
  refine bodyPost_ret (v := .agg (rvl (b) (s)).toArray) ?_ rfl ⟨rfl, HB9.out⟩
  exact results_cell_row rfl _ _ rb 87 _ (0, 0) _ rfl HK9.out Try.underlying87 rfl (by rw [List.size_toArray, rvl_len]; exact iSt)
end Go.Proofs.Ytfodkackfahldaa.Lo
