import Derived.Test.YtfodkackfahldaaBtcc
namespace Go.Proofs.Ytfodkackfahldaa.Lo
open Go.RowKit
set_option linter.unusedVariables false
set_option linter.unusedSimpArgs false

set_option maxRecDepth 100000 in
set_option maxHeartbeats 8000000 in
theorem after_C (b : Nat → Bool) (s : Nat → Int) (N : Nat) (e : Em) (w : World) (hN : s 0 = (N : Int)) (n1 : 1 ≤ N) (n2 : N ≤ 16) (hr : Ri w e.sa e.sn e.sc e.xs) (hn : e.sn ≤ 140737488355328) (hc : ndB s e.a = true ∧ b (1 + e.a.toNat) = true) : Calls Try.prog 53 #[.agg (rvl b s).toArray, .agg e.cs.toArray] w fun r w' => r = .returned (.agg (rvl (rafB b N e.xs e.k e.n (ndB s e.a) (ndB s e.a && b (1 + e.a.toNat)) (ndB s e.a && ndB s e.b && !(e.a == e.b)) e.a.toNat e.b.toNat) (rafS s e.k e.n (ndB s e.a && ndB s e.b && !(e.a == e.b)) e.a.toNat e.b.toNat)).toArray) ∧ Below w.heap.size w w' := by
  have HC : Hid (ndB s e.a = true ∧ b (1 + e.a.toNat) = true) := (show _ from hc)
  clear hc
  have hb0 : Below w.heap.size w (w.alloc (.cells (rvl b s).toArray 87)) := bsp _ _ _
  have hS := Sb.new w b s
  generalize hW : w.alloc (.cells (rvl b s).toArray 87) = W at *
  have hk := heap_new W e.cs.toArray 36
  have hb1 := bsp W e.cs.toArray 36
  generalize hW1 : W.alloc (.cells e.cs.toArray 36) = W1 at *
  have hS1 := hS.on hb1
  have HB1 : Hid (Below w.heap.size w W1) := bst hb0 hb1
  have hke : w.heap.size < W.heap.size := hS.lt
  have heb : W.heap.size < W1.heap.size := lt_heap_of hk
  have HE1 : Hid (W1.heap[W.heap.size]? = some (.cells e.cs.toArray 36 (0, 0))) := hk
  have HS1 : Hid (Sb W1 w.heap.size b s) := hS1
  have HPa : Hid (∀ D, Calls Try.prog 57 #[.agg (rvl b s).toArray, .int .i64 e.a, .int .i64 e.b] D fun r w' => r = .returned (.bool (ndB s e.a && ndB s e.b && !(e.a == e.b))) ∧ Below D.heap.size D w') := (show ∀ D, _ from fun D => spath_any b s e.a e.b D)
  have HNd : Hid (∀ D, Calls Try.prog 58 #[.agg (rvl b s).toArray, .int .i64 e.a] D fun r w' => r = .returned (.bool (ndB s e.a)) ∧ Below D.heap.size D w') := (show ∀ D, _ from fun D => snode_any b s e.a D)
  have HSp : Hid (∀ D, Below w.heap.size w D → Calls Try.prog 59 #[.agg (rvl b s).toArray, .slice e.sa e.sn e.sc] D fun r w' => r = .returned (.agg (rvl (rsB b N e.xs) s).toArray) ∧ Below D.heap.size D w') := (show ∀ D, _ from fun D hb => rsplit_any b s N e.sa e.sn e.sc e.xs D hN n1 n2 (hr.below hb) hn)
  obtain ⟨qb, hqb⟩ : ∃ x, rafB b N e.xs e.k e.n (ndB s e.a) (ndB s e.a && b (1 + e.a.toNat)) (ndB s e.a && ndB s e.b && !(e.a == e.b)) e.a.toNat e.b.toNat = x := ⟨_, rfl⟩
  obtain ⟨qs, hqs⟩ : ∃ x, rafS s e.k e.n (ndB s e.a && ndB s e.b && !(e.a == e.b)) e.a.toNat e.b.toNat = x := ⟨_, rfl⟩
  rw [hqb, hqs]
  have HQb0 : Hid (rafB b N e.xs e.k e.n (ndB s e.a) (ndB s e.a && b (1 + e.a.toNat)) (ndB s e.a && ndB s e.b && !(e.a == e.b)) e.a.toNat e.b.toNat = qb) := hqb
  have HQs0 : Hid (rafS s e.k e.n (ndB s e.a && ndB s e.b && !(e.a == e.b)) e.a.toNat e.b.toNat = qs) := hqs
  clear hqb hqs hk hb0 hb1 hS hS1 hr
  generalize hnd : ndB s e.a = nd at *
  generalize hpt : (nd && ndB s e.b && !(e.a == e.b)) = pt at *
  have HND : Hid (ndB s e.a = nd) := hnd
  have HPT : Hid ((nd && ndB s e.b && !(e.a == e.b)) = pt) := hpt
  clear hnd hpt
  go_enter Try.func53, Try.ntmps53
  go_wp2_with (first | (refine wl_allocZ rfl 87 rfl zSt ?_) | fail)
  intro W2 k2 b2 s2
  have HS2 : Hid (Sb W2 w.heap.size b s) := (show Sb _ _ _ _ from HS1.out.on b2)
  have HR2 : Hid (W2.heap[W1.heap.size]? = some (.cells (rvl (fun _ => false) (fun _ => 0)).toArray 87 (0, 0))) := k2
  have HE2 : Hid (W2.heap[W.heap.size]? = some (.cells e.cs.toArray 36 (0, 0))) := (show _ = _ from blk_on b2 HE1.out)
  have HB2 : Hid (Below w.heap.size w W2) := bst HB1.out b2
  have hkr : w.heap.size < W1.heap.size := by omega
  clear k2 b2 s2 HS1 HE1 HB1
  generalize W1.heap.size = rb at *
  generalize W.heap.size = eb at *
  have HKR : Hid (W2.rangeAt w.heap.size 0 (rvl b s)) := HS2.out.rng
  have f1 : W2.cell? ⟨eb, 1, none⟩ = some (.int .i64 e.a) := blk_cell HE2.out 1
  have f2 : W2.cell? ⟨eb, 2, none⟩ = some (.int .i64 e.b) := blk_cell HE2.out 2
  go_wp2_with (first | (refine Ln.at_load 87 (.tmp 2) rfl ?_; refine Ln.load_mid 87 (.tmp 2) HKR.out _ Try.underlying87 rfl (by rw [rvl_len]; exact iSt) rfl rfl rfl ?_) | fail)
  refine (HPa.out _).mono ?_
  rintro r3 w3 ⟨rfl, hb3⟩
  have HS3 : Hid (Sb w3 w.heap.size b s) := (show Sb _ _ _ _ from HS2.out.on hb3)
  have HR3 : Hid (w3.heap[rb]? = some (.cells (rvl (fun _ => false) (fun _ => 0)).toArray 87 (0, 0))) := (show _ = _ from blk_on hb3 HR2.out)
  have HE3 : Hid (w3.heap[eb]? = some (.cells e.cs.toArray 36 (0, 0))) := (show _ = _ from blk_on hb3 HE2.out)
  have HB3 : Hid (Below w.heap.size w w3) := bst HB2.out hb3
  clear hb3 HS2 HR2 HE2 HB2 HKR f1 f2 HPa
  have HKR : Hid (w3.rangeAt w.heap.size 0 (rvl b s)) := HS3.out.rng
  have f1 : w3.cell? ⟨eb, 1, none⟩ = some (.int .i64 e.a) := blk_cell HE3.out 1
  go_wp2_with (first | (refine Ln.at_load 87 (.tmp 2) rfl ?_; refine Ln.load_mid 87 (.tmp 2) HKR.out _ Try.underlying87 rfl (by rw [rvl_len]; exact iSt) rfl rfl rfl ?_) | fail)
  refine (HNd.out _).mono ?_
  rintro r4 w4 ⟨rfl, hb4⟩
  have HS4 : Hid (Sb w4 w.heap.size b s) := (show Sb _ _ _ _ from HS3.out.on hb4)
  have HR4 : Hid (w4.heap[rb]? = some (.cells (rvl (fun _ => false) (fun _ => 0)).toArray 87 (0, 0))) := (show _ = _ from blk_on hb4 HR3.out)
  have hE4 := blk_on hb4 HE3.out
  have HB4 : Hid (Below w.heap.size w w4) := bst HB3.out hb4
  have g0 : w4.cell? ⟨eb, 0, none⟩ = some (.int .i64 e.k) := blk_cell hE4 0
  have g1 : w4.cell? ⟨eb, 1, none⟩ = some (.int .i64 e.a) := blk_cell hE4 1
  have g2 : w4.cell? ⟨eb, 2, none⟩ = some (.int .i64 e.b) := blk_cell hE4 2
  have g3 : w4.cell? ⟨eb, 3, none⟩ = some (.int .i64 e.n) := blk_cell hE4 3
  have g12 : w4.cell? ⟨eb, 12, none⟩ = some (.slice e.sa e.sn e.sc) := blk_cell hE4 12
  have HE4 : Hid (w4.heap[eb]? = some (.cells e.cs.toArray 36 (0, 0))) := hE4
  have hek : eb ≠ w.heap.size := by omega
  clear hb4 HS3 HR3 HE3 HB3 HKR f1 hE4
  generalize hkd : e.k = kd at *
  generalize hen : e.n = n at *
  generalize hea : e.a = ea at *
  generalize hebq : e.b = ebq at *
  generalize e.xs = xs at *
  generalize e.sa = sa at *
  generalize e.sn = sn at *
  generalize e.sc = sc at *
  clear hkd hen hea hebq
  cases nd
  case false => exact absurd HC.out.1 (by simp)
  have hnd2 := HND.out
  have han : 0 ≤ ea ∧ ea < (N : Int) := by
    unfold ndB at hnd2
    rw [hN] at hnd2
    simpa using hnd2
  obtain ⟨m, rfl⟩ : ∃ m : Nat, ea = (m : Int) := ⟨ea.toNat, by omega⟩
  have m1 : (0 : Int) ≤ (m : Int) := Int.natCast_nonneg _
  have m2 : (m : Int) < 16 := by omega
  rw [show ((m : Int).toNat) = m from rfl] at HQb0 HQs0 HC
  have u1 := HS4.out.bo (i := 1 + m) (by omega) (by omega)
  clear hnd2 han
  have hup : b (1 + m) = true := HC.out.2
  rw [hup] at u1 HQb0
  have HQb : Hid (rafB b N xs kd n true true pt m ebq.toNat = qb) := HQb0
  have HQs : Hid (rafS s kd n pt m ebq.toNat = qs) := HQs0
  clear HQb0 HQs0 HND hup HC
  by_cases k5 : kd = 5
  · subst k5
    obtain rfl : (upB b (1 + m) false) = qb := by rw [← HQb.out]; simp [rafB]
    obtain rfl : (s) = qs := by rw [← HQs.out]; simp [rafS]
    clear HQb HQs
    have z1 := HS4.out.bo (i := 1 + m) (by omega) (by omega)
    have z2 := HS4.out.fz (1 + m)
    have HS5 : Hid (Sb (w4.setCell ⟨w.heap.size, 1 + m, none⟩ (.bool false)) w.heap.size (upB b (1 + m) false) s) := (show Sb _ _ _ _ from HS4.out.setB false (by omega) (by omega))
    have HR5 : Hid ((w4.setCell ⟨w.heap.size, 1 + m, none⟩ (.bool false)).heap[rb]? = some (.cells (rvl (fun _ => false) (fun _ => 0)).toArray 87 (0, 0))) := (show _ = _ from (Mb.kset (P := fun q => q = w.heap.size) w4 w.heap.size _ _ rfl).obj HR4.out (fun e => by have e' : rb = w.heap.size := e; omega))
    have HB5 : Hid (Below w.heap.size w (w4.setCell ⟨w.heap.size, 1 + m, none⟩ (.bool false))) := HB4.out.setCell (Nat.le_refl _) _
    obtain ⟨w5, hw5⟩ : ∃ w5, w4.setCell ⟨w.heap.size, 1 + m, none⟩ (.bool false) = w5 := ⟨_, rfl⟩
    rw [hw5] at HS5 HR5 HB5
    go_wp2_with (first | (refine Ln.wl_at 25 rfl ?_) | fail)
    refine Ln.wl_take (v := .pointer (some ⟨eb, 0, none⟩)) (by kernel_rfl) (by go_simp) ?_
    simp only [Act.put, List.getElem_toArray, List.getElem_cons_zero, List.getElem_cons_succ, List.setIfInBounds_toArray, List.set_cons_zero, List.set_cons_succ]
    refine Ln.wl_take (v := .int .i64 5) (by kernel_rfl) (by go_simp) ?_
    simp only [Act.put, List.getElem_toArray, List.getElem_cons_zero, List.getElem_cons_succ, List.setIfInBounds_toArray, List.set_cons_zero, List.set_cons_succ]
    refine Ln.wl_take (v := .bool true) (by kernel_rfl) (by go_simp) ?_
    simp only [Act.put, List.getElem_toArray, List.getElem_cons_zero, List.getElem_cons_succ, List.setIfInBounds_toArray, List.set_cons_zero, List.set_cons_succ]
    refine Ln.wl_take (v := .bool true) (by kernel_rfl) (by go_simp) ?_
    simp only [Act.put, List.getElem_toArray, List.getElem_cons_zero, List.getElem_cons_succ, List.setIfInBounds_toArray, List.set_cons_zero, List.set_cons_succ]
    refine Ln.wl_take (v := .bool true) (by kernel_rfl) (by go_simp) ?_
    simp only [Act.put, List.getElem_toArray, List.getElem_cons_zero, List.getElem_cons_succ, List.setIfInBounds_toArray, List.set_cons_zero, List.set_cons_succ]
    refine Ln.wl_take (v := .bool true) (by kernel_rfl) (by go_simp) ?_
    simp only [Act.put, List.getElem_toArray, List.getElem_cons_zero, List.getElem_cons_succ, List.setIfInBounds_toArray, List.set_cons_zero, List.set_cons_succ]
    refine Ln.wl_take (v := .bool true) (by kernel_rfl) (by go_simp) ?_
    simp only [Act.put, List.getElem_toArray, List.getElem_cons_zero, List.getElem_cons_succ, List.setIfInBounds_toArray, List.set_cons_zero, List.set_cons_succ]
    refine Ln.wl_skip (by kernel_rfl) ?_
    simp only [Act.put, List.getElem_toArray, List.getElem_cons_zero, List.getElem_cons_succ, List.setIfInBounds_toArray, List.set_cons_zero, List.set_cons_succ]
    refine Ln.wl_skip (by kernel_rfl) ?_
    simp only [Act.put, List.getElem_toArray, List.getElem_cons_zero, List.getElem_cons_succ, List.setIfInBounds_toArray, List.set_cons_zero, List.set_cons_succ]
    refine Ln.wl_skip (by kernel_rfl) ?_
    simp only [Act.put, List.getElem_toArray, List.getElem_cons_zero, List.getElem_cons_succ, List.setIfInBounds_toArray, List.set_cons_zero, List.set_cons_succ]
    refine Ln.wl_skip (by kernel_rfl) ?_
    simp only [Act.put, List.getElem_toArray, List.getElem_cons_zero, List.getElem_cons_succ, List.setIfInBounds_toArray, List.set_cons_zero, List.set_cons_succ]
    refine Ln.wl_skip (by kernel_rfl) ?_
    simp only [Act.put, List.getElem_toArray, List.getElem_cons_zero, List.getElem_cons_succ, List.setIfInBounds_toArray, List.set_cons_zero, List.set_cons_succ]
    refine Ln.wl_skip (by kernel_rfl) ?_
    simp only [Act.put, List.getElem_toArray, List.getElem_cons_zero, List.getElem_cons_succ, List.setIfInBounds_toArray, List.set_cons_zero, List.set_cons_succ]
    refine Ln.wl_skip (by kernel_rfl) ?_
    simp only [Act.put, List.getElem_toArray, List.getElem_cons_zero, List.getElem_cons_succ, List.setIfInBounds_toArray, List.set_cons_zero, List.set_cons_succ]
    refine Ln.wl_skip (by kernel_rfl) ?_
    simp only [Act.put, List.getElem_toArray, List.getElem_cons_zero, List.getElem_cons_succ, List.setIfInBounds_toArray, List.set_cons_zero, List.set_cons_succ]
    refine Ln.wl_skip (by kernel_rfl) ?_
    simp only [Act.put, List.getElem_toArray, List.getElem_cons_zero, List.getElem_cons_succ, List.setIfInBounds_toArray, List.set_cons_zero, List.set_cons_succ]
    refine Ln.wl_skip (by kernel_rfl) ?_
    simp only [Act.put, List.getElem_toArray, List.getElem_cons_zero, List.getElem_cons_succ, List.setIfInBounds_toArray, List.set_cons_zero, List.set_cons_succ]
    refine Ln.wl_skip (by kernel_rfl) ?_
    simp only [Act.put, List.getElem_toArray, List.getElem_cons_zero, List.getElem_cons_succ, List.setIfInBounds_toArray, List.set_cons_zero, List.set_cons_succ]
    refine Ln.wl_take (v := .bool true) (by kernel_rfl) (by go_simp) ?_
    simp only [Act.put, List.getElem_toArray, List.getElem_cons_zero, List.getElem_cons_succ, List.setIfInBounds_toArray, List.set_cons_zero, List.set_cons_succ]
    refine Ln.wl_take (v := .bool true) (by kernel_rfl) (by go_simp) ?_
    simp only [Act.put, List.getElem_toArray, List.getElem_cons_zero, List.getElem_cons_succ, List.setIfInBounds_toArray, List.set_cons_zero, List.set_cons_succ]
    refine ⟨?_⟩
    have HKR : Hid (w5.rangeAt w.heap.size 0 (rvl (upB b (1 + m) false) (s))) := HS5.out.rng
    go_wp2_with (first | (refine Ln.at_load 87 (.tmp 2) rfl ?_; refine Ln.load_mid 87 (.tmp 2) HKR.out _ Try.underlying87 rfl (by rw [rvl_len]; exact iSt) rfl rfl rfl ?_) | (refine Ln.at_store 87 _ _ rfl ?_; refine wl_storeZ rfl 87 _ _ rfl rfl rfl HR5.out (by rw [rvl_len]; exact iSt) (by rw [rvl_len]; simp [rvl]) (rvl_one _ _) ?_) | fail)
    intro W9 k9 kk9
    have HK9 : Hid (W9.heap[rb]? = some (.cells (rvl (upB b (1 + m) false) (s)).toArray 87 (0, 0))) := k9
    have HB9 : Hid (Below w.heap.size w W9) := (show Below _ _ _ from HB5.out.trans (kn kk9 (Nat.le_of_lt hkr) HB5.out.size))
    clear k9 kk9
    go_wp2_with fail
    (try simp only [Exit.inBlock, Exit.then])
    refine bodyPost_ret (v := .agg (rvl (upB b (1 + m) false) (s)).toArray) ?_ rfl ⟨rfl, HB9.out⟩
    exact results_cell_row rfl _ _ rb 87 _ (0, 0) _ rfl HK9.out Try.underlying87 rfl (by rw [List.size_toArray, rvl_len]; exact iSt)
  by_cases k6 : kd = 6
  · subst k6
    have HKN : Hid (w4.rangeAt w.heap.size 0 (rvl b s)) := HS4.out.rng
    go_wp2_with (first | (refine Ln.at_load 87 (.tmp 2) rfl ?_; refine Ln.load_mid 87 (.tmp 2) HKN.out _ Try.underlying87 rfl (by rw [rvl_len]; exact iSt) rfl rfl rfl ?_) | fail)
    refine (HNd.out _).mono ?_
    rintro r5 w4b ⟨rfl, hb5⟩
    have HS4b : Hid (Sb w4b w.heap.size b s) := (show Sb _ _ _ _ from HS4.out.on hb5)
    have HR4b : Hid (w4b.heap[rb]? = some (.cells (rvl (fun _ => false) (fun _ => 0)).toArray 87 (0, 0))) := (show _ = _ from blk_on hb5 HR4.out)
    have HB4b : Hid (Below w.heap.size w w4b) := bst HB4.out hb5
    have g0b := below_at hb5 g0
    have g1b := below_at hb5 g1
    clear hb5 HS4 HR4 HB4 HKN g0 g1 g2 g3 g12 HE4
    obtain rfl : (b) = qb := by rw [← HQb.out]; simp [rafB]
    obtain rfl : (s) = qs := by rw [← HQs.out]; simp [rafS]
    clear HQb HQs
    have HKR : Hid (w4b.rangeAt w.heap.size 0 (rvl (b) (s))) := HS4b.out.rng
    go_wp2_with (first | (refine Ln.at_load 87 (.tmp 2) rfl ?_; refine Ln.load_mid 87 (.tmp 2) HKR.out _ Try.underlying87 rfl (by rw [rvl_len]; exact iSt) rfl rfl rfl ?_) | (refine Ln.at_store 87 _ _ rfl ?_; refine wl_storeZ rfl 87 _ _ rfl rfl rfl HR4b.out (by rw [rvl_len]; exact iSt) (by rw [rvl_len]; simp [rvl]) (rvl_one _ _) ?_) | fail)
    intro W9 k9 kk9
    have HK9 : Hid (W9.heap[rb]? = some (.cells (rvl (b) (s)).toArray 87 (0, 0))) := k9
    have HB9 : Hid (Below w.heap.size w W9) := (show Below _ _ _ from HB4b.out.trans (kn kk9 (Nat.le_of_lt hkr) HB4b.out.size))
    clear k9 kk9
    go_wp2_with fail
    (try simp only [Exit.inBlock, Exit.then])
    refine bodyPost_ret (v := .agg (rvl (b) (s)).toArray) ?_ rfl ⟨rfl, HB9.out⟩
    exact results_cell_row rfl _ _ rb 87 _ (0, 0) _ rfl HK9.out Try.underlying87 rfl (by rw [List.size_toArray, rvl_len]; exact iSt)
  by_cases k7 : kd = 7
  · subst k7
    by_cases hn0 : 0 ≤ n
    · obtain rfl : (upB b (1 + m) false) = qb := by rw [← HQb.out]; simp [rafB, hn0]
      obtain rfl : (s) = qs := by rw [← HQs.out]; simp [rafS, hn0]
      clear HQb HQs
      have z1 := HS4.out.bo (i := 1 + m) (by omega) (by omega)
      have z2 := HS4.out.fz (1 + m)
      have HS5 : Hid (Sb (w4.setCell ⟨w.heap.size, 1 + m, none⟩ (.bool false)) w.heap.size (upB b (1 + m) false) s) := (show Sb _ _ _ _ from HS4.out.setB false (by omega) (by omega))
      have HR5 : Hid ((w4.setCell ⟨w.heap.size, 1 + m, none⟩ (.bool false)).heap[rb]? = some (.cells (rvl (fun _ => false) (fun _ => 0)).toArray 87 (0, 0))) := (show _ = _ from (Mb.kset (P := fun q => q = w.heap.size) w4 w.heap.size _ _ rfl).obj HR4.out (fun e => by have e' : rb = w.heap.size := e; omega))
      have HB5 : Hid (Below w.heap.size w (w4.setCell ⟨w.heap.size, 1 + m, none⟩ (.bool false))) := HB4.out.setCell (Nat.le_refl _) _
      obtain ⟨w5, hw5⟩ : ∃ w5, w4.setCell ⟨w.heap.size, 1 + m, none⟩ (.bool false) = w5 := ⟨_, rfl⟩
      rw [hw5] at HS5 HR5 HB5
      have HKR : Hid (w5.rangeAt w.heap.size 0 (rvl (upB b (1 + m) false) (s))) := HS5.out.rng
      go_wp2_with (first | (refine Ln.at_load 87 (.tmp 2) rfl ?_; refine Ln.load_mid 87 (.tmp 2) HKR.out _ Try.underlying87 rfl (by rw [rvl_len]; exact iSt) rfl rfl rfl ?_) | (refine Ln.at_store 87 _ _ rfl ?_; refine wl_storeZ rfl 87 _ _ rfl rfl rfl HR5.out (by rw [rvl_len]; exact iSt) (by rw [rvl_len]; simp [rvl]) (rvl_one _ _) ?_) | fail)
      intro W9 k9 kk9
      have HK9 : Hid (W9.heap[rb]? = some (.cells (rvl (upB b (1 + m) false) (s)).toArray 87 (0, 0))) := k9
      have HB9 : Hid (Below w.heap.size w W9) := (show Below _ _ _ from HB5.out.trans (kn kk9 (Nat.le_of_lt hkr) HB5.out.size))
      clear k9 kk9
      go_wp2_with fail
      (try simp only [Exit.inBlock, Exit.then])
      refine bodyPost_ret (v := .agg (rvl (upB b (1 + m) false) (s)).toArray) ?_ rfl ⟨rfl, HB9.out⟩
      exact results_cell_row rfl _ _ rb 87 _ (0, 0) _ rfl HK9.out Try.underlying87 rfl (by rw [List.size_toArray, rvl_len]; exact iSt)
    · obtain rfl : (b) = qb := by rw [← HQb.out]; simp [rafB, hn0]
      obtain rfl : (s) = qs := by rw [← HQs.out]; simp [rafS, hn0]
      clear HQb HQs
      have HKR : Hid (w4.rangeAt w.heap.size 0 (rvl (b) (s))) := HS4.out.rng
      go_wp2_with (first | (refine Ln.at_load 87 (.tmp 2) rfl ?_; refine Ln.load_mid 87 (.tmp 2) HKR.out _ Try.underlying87 rfl (by rw [rvl_len]; exact iSt) rfl rfl rfl ?_) | (refine Ln.at_store 87 _ _ rfl ?_; refine wl_storeZ rfl 87 _ _ rfl rfl rfl HR4.out (by rw [rvl_len]; exact iSt) (by rw [rvl_len]; simp [rvl]) (rvl_one _ _) ?_) | fail)
      intro W9 k9 kk9
      have HK9 : Hid (W9.heap[rb]? = some (.cells (rvl (b) (s)).toArray 87 (0, 0))) := k9
      have HB9 : Hid (Below w.heap.size w W9) := (show Below _ _ _ from HB4.out.trans (kn kk9 (Nat.le_of_lt hkr) HB4.out.size))
      clear k9 kk9
      go_wp2_with fail
      (try simp only [Exit.inBlock, Exit.then])
      refine bodyPost_ret (v := .agg (rvl (b) (s)).toArray) ?_ rfl ⟨rfl, HB9.out⟩
      exact results_cell_row rfl _ _ rb 87 _ (0, 0) _ rfl HK9.out Try.underlying87 rfl (by rw [List.size_toArray, rvl_len]; exact iSt)
  by_cases k8 : kd = 8
  · subst k8
    cases pt
    · obtain rfl : (b) = qb := by rw [← HQb.out]; simp [rafB]
      obtain rfl : (s) = qs := by rw [← HQs.out]; simp [rafS]
      clear HQb HQs
      have HKR : Hid (w4.rangeAt w.heap.size 0 (rvl (b) (s))) := HS4.out.rng
      go_wp2_with (first | (refine Ln.at_load 87 (.tmp 2) rfl ?_; refine Ln.load_mid 87 (.tmp 2) HKR.out _ Try.underlying87 rfl (by rw [rvl_len]; exact iSt) rfl rfl rfl ?_) | (refine Ln.at_store 87 _ _ rfl ?_; refine wl_storeZ rfl 87 _ _ rfl rfl rfl HR4.out (by rw [rvl_len]; exact iSt) (by rw [rvl_len]; simp [rvl]) (rvl_one _ _) ?_) | fail)
      intro W9 k9 kk9
      have HK9 : Hid (W9.heap[rb]? = some (.cells (rvl (b) (s)).toArray 87 (0, 0))) := k9
      have HB9 : Hid (Below w.heap.size w W9) := (show Below _ _ _ from HB4.out.trans (kn kk9 (Nat.le_of_lt hkr) HB4.out.size))
      clear k9 kk9
      go_wp2_with fail
      (try simp only [Exit.inBlock, Exit.then])
      refine bodyPost_ret (v := .agg (rvl (b) (s)).toArray) ?_ rfl ⟨rfl, HB9.out⟩
      exact results_cell_row rfl _ _ rb 87 _ (0, 0) _ rfl HK9.out Try.underlying87 rfl (by rw [List.size_toArray, rvl_len]; exact iSt)
    · have hpt2 := HPT.out
      have hbq : 0 ≤ ebq ∧ ebq < (N : Int) := by
        simp only [Bool.and_eq_true] at hpt2
        have h3 := hpt2.1.2
        unfold ndB at h3
        rw [hN] at h3
        simpa using h3
      obtain ⟨r, rfl⟩ : ∃ r : Nat, ebq = (r : Int) := ⟨ebq.toNat, by omega⟩
      have r1 : (0 : Int) ≤ (r : Int) := Int.natCast_nonneg _
      have r2 : (r : Int) < 16 := by omega
      rw [show ((r : Int).toNat) = r from rfl] at HQb HQs
      clear hpt2 hbq
      obtain rfl : (upB b (33 + m * 16 + r) true) = qb := by rw [← HQb.out]; simp [rafB]
      obtain rfl : (s) = qs := by rw [← HQs.out]; simp [rafS]
      clear HQb HQs
      go_wp2_with fail
      refine wp_region_held_drew (S := (fun w' => w'.cell? ⟨eb, 1, none⟩ = some (.int .i64 (m : Int)) ∧ w'.cell? ⟨eb, 2, none⟩ = some (.int .i64 (r : Int)))) (by kernel_rfl) ⟨(below_at (drew_bel _) g1), (below_at (drew_bel _) g2)⟩ (fun hHeld => ?_)
      simp only [Act.put, List.size_toArray, List.length_cons, List.length_nil, Nat.zero_add]
      refine takeD (i := 0) (d := 88) (v := .pointer (some ⟨eb, 1, none⟩)) rfl (by kernel_rfl) (by kernel_rfl) (by kernel_rfl) (by kernel_rfl) (fun _ _ _ h => h) (Or.inl ⟨by rfl, fun w' hS => by go_simp⟩) hHeld ?_
      simp only [Act.put, List.setIfInBounds_toArray, List.set_cons_zero, List.set_cons_succ]
      refine takeD (i := 1) (d := 89) (v := .int .i64 (m : Int)) rfl (by kernel_rfl) (by kernel_rfl) (by kernel_rfl) (by kernel_rfl) (fun _ _ _ h => h) (Or.inl ⟨by rfl, fun w' hS => by (obtain ⟨s0, s1⟩ := hS; go_simp)⟩) hHeld ?_
      simp only [Act.put, List.setIfInBounds_toArray, List.set_cons_zero, List.set_cons_succ]
      refine takeD (i := 2) (d := 90) (v := .pointer (some ⟨eb, 2, none⟩)) rfl (by kernel_rfl) (by kernel_rfl) (by kernel_rfl) (by kernel_rfl) (fun _ _ _ h => h) (Or.inl ⟨by rfl, fun w' hS => by go_simp⟩) hHeld ?_
      simp only [Act.put, List.setIfInBounds_toArray, List.set_cons_zero, List.set_cons_succ]
      refine takeD (i := 3) (d := 91) (v := .int .i64 (r : Int)) rfl (by kernel_rfl) (by kernel_rfl) (by kernel_rfl) (by kernel_rfl) (fun _ _ _ h => h) (Or.inl ⟨by rfl, fun w' hS => by (obtain ⟨s0, s1⟩ := hS; go_simp)⟩) hHeld ?_
      simp only [Act.put, List.setIfInBounds_toArray, List.set_cons_zero, List.set_cons_succ]
      refine takeD (i := 4) (d := 92) (v := .pointer (some ⟨w.heap.size, 33, none⟩)) rfl (by kernel_rfl) (by kernel_rfl) (by kernel_rfl) (by kernel_rfl) (fun _ _ _ h => h) (Or.inl ⟨by rfl, fun w' hS => by go_simp⟩) hHeld ?_
      simp only [Act.put, List.setIfInBounds_toArray, List.set_cons_zero, List.set_cons_succ]
      refine takeD (i := 5) (d := 93) (v := .pointer (some ⟨w.heap.size, 33 + m * 16, none⟩)) rfl (by kernel_rfl) (by kernel_rfl) (by kernel_rfl) (by kernel_rfl) (fun _ _ _ h => h) (Or.inl ⟨by rfl, fun w' hS => by go_simp⟩) hHeld ?_
      simp only [Act.put, List.setIfInBounds_toArray, List.set_cons_zero, List.set_cons_succ]
      refine takeD (i := 6) (d := 94) (v := .pointer (some ⟨w.heap.size, 33 + m * 16 + r, none⟩)) rfl (by kernel_rfl) (by kernel_rfl) (by kernel_rfl) (by kernel_rfl) (fun _ _ _ h => h) (Or.inl ⟨by rfl, fun w' hS => by go_simp⟩) hHeld ?_
      simp only [Act.put, List.setIfInBounds_toArray, List.set_cons_zero, List.set_cons_succ]
      have hbD1 : Below w4.heap.size w4 w4.drew := drew_bel _
      have q0 := below_at hbD1 g1
      have q1 := below_at hbD1 g2
      have hSD : Sb w4.drew w.heap.size b s := HS4.out.on hbD1
      have hRD : w4.drew.heap[rb]? = some (.cells (rvl (fun _ => false) (fun _ => 0)).toArray 87 (0, 0)) := blk_on hbD1 HR4.out
      have hBD : Below w.heap.size w w4.drew := HB4.out.trans (hbD1.mono HB4.out.size)
      generalize w4.drew = D1 at *
      have HD1 : Hid (Sb D1 w.heap.size b s) := hSD
      have HR1 : Hid (D1.heap[rb]? = some (.cells (rvl (fun _ => false) (fun _ => 0)).toArray 87 (0, 0))) := hRD
      have HBD : Hid (Below w.heap.size w D1) := hBD
      clear hSD hRD hBD
      refine wpAnyH_ready (rs := [7]) (by kernel_rfl) (by simp) ?_
      refine AllReadyH.cons rfl (fun K hK => ?_) AllReadyH.nil
      have z1 := HD1.out.bo (i := 33 + m * 16 + r) (by omega) (by omega)
      have z2 := HD1.out.fz (33 + m * 16 + r)
      go_simp
      refine hK.out _ _ ⟨(cell_ne hek q0), (cell_ne hek q1)⟩ (fun hHeld => ?_)
      clear hK K
      refine wpAnyH_done (by kernel_rfl) ?_ _
      clear hHeld
      have HS5 : Hid (Sb (D1.setCell ⟨w.heap.size, 33 + m * 16 + r, none⟩ (.bool true)) w.heap.size (upB b (33 + m * 16 + r) true) (s)) := (show Sb _ _ _ _ from HD1.out.setB true (by omega) (by omega))
      have HR5 : Hid ((D1.setCell ⟨w.heap.size, 33 + m * 16 + r, none⟩ (.bool true)).heap[rb]? = some (.cells (rvl (fun _ => false) (fun _ => 0)).toArray 87 (0, 0))) := (show _ = _ from (Mb.kset (P := fun q => q = w.heap.size) D1 w.heap.size _ _ rfl).obj HR1.out (fun e => by have e' : rb = w.heap.size := e; omega))
      have HB5 : Hid (Below w.heap.size w (D1.setCell ⟨w.heap.size, 33 + m * 16 + r, none⟩ (.bool true))) := HBD.out.setCell (Nat.le_refl _) _
      try clear z1 z2
      clear q0 q1 hbD1
      generalize D1.setCell ⟨w.heap.size, 33 + m * 16 + r, none⟩ (.bool true) = w5 at *
      have HKR : Hid (w5.rangeAt w.heap.size 0 (rvl (upB b (33 + m * 16 + r) true) (s))) := HS5.out.rng
      go_wp2_with (first | (refine Ln.at_load 87 (.tmp 2) rfl ?_; refine Ln.load_mid 87 (.tmp 2) HKR.out _ Try.underlying87 rfl (by rw [rvl_len]; exact iSt) rfl rfl rfl ?_) | (refine Ln.at_store 87 _ _ rfl ?_; refine wl_storeZ rfl 87 _ _ rfl rfl rfl HR5.out (by rw [rvl_len]; exact iSt) (by rw [rvl_len]; simp [rvl]) (rvl_one _ _) ?_) | fail)
      intro W9 k9 kk9
      have HK9 : Hid (W9.heap[rb]? = some (.cells (rvl (upB b (33 + m * 16 + r) true) (s)).toArray 87 (0, 0))) := k9
      have HB9 : Hid (Below w.heap.size w W9) := (show Below _ _ _ from HB5.out.trans (kn kk9 (Nat.le_of_lt hkr) HB5.out.size))
      clear k9 kk9
      go_wp2_with fail
      (try simp only [Exit.inBlock, Exit.then])
      refine bodyPost_ret (v := .agg (rvl (upB b (33 + m * 16 + r) true) (s)).toArray) ?_ rfl ⟨rfl, HB9.out⟩
      exact results_cell_row rfl _ _ rb 87 _ (0, 0) _ rfl HK9.out Try.underlying87 rfl (by rw [List.size_toArray, rvl_len]; exact iSt)
  by_cases k9 : kd = 9
  · subst k9
    cases pt
    · obtain rfl : (b) = qb := by rw [← HQb.out]; simp [rafB]
      obtain rfl : (s) = qs := by rw [← HQs.out]; simp [rafS]
      clear HQb HQs
      have HKR : Hid (w4.rangeAt w.heap.size 0 (rvl (b) (s))) := HS4.out.rng
      go_wp2_with (first | (refine Ln.at_load 87 (.tmp 2) rfl ?_; refine Ln.load_mid 87 (.tmp 2) HKR.out _ Try.underlying87 rfl (by rw [rvl_len]; exact iSt) rfl rfl rfl ?_) | (refine Ln.at_store 87 _ _ rfl ?_; refine wl_storeZ rfl 87 _ _ rfl rfl rfl HR4.out (by rw [rvl_len]; exact iSt) (by rw [rvl_len]; simp [rvl]) (rvl_one _ _) ?_) | fail)
      intro W9 k9 kk9
      have HK9 : Hid (W9.heap[rb]? = some (.cells (rvl (b) (s)).toArray 87 (0, 0))) := k9
      have HB9 : Hid (Below w.heap.size w W9) := (show Below _ _ _ from HB4.out.trans (kn kk9 (Nat.le_of_lt hkr) HB4.out.size))
      clear k9 kk9
      go_wp2_with fail
      (try simp only [Exit.inBlock, Exit.then])
      refine bodyPost_ret (v := .agg (rvl (b) (s)).toArray) ?_ rfl ⟨rfl, HB9.out⟩
      exact results_cell_row rfl _ _ rb 87 _ (0, 0) _ rfl HK9.out Try.underlying87 rfl (by rw [List.size_toArray, rvl_len]; exact iSt)
    · have hpt2 := HPT.out
      have hbq : 0 ≤ ebq ∧ ebq < (N : Int) := by
        simp only [Bool.and_eq_true] at hpt2
        have h3 := hpt2.1.2
        unfold ndB at h3
        rw [hN] at h3
        simpa using h3
      obtain ⟨r, rfl⟩ : ∃ r : Nat, ebq = (r : Int) := ⟨ebq.toNat, by omega⟩
      have r1 : (0 : Int) ≤ (r : Int) := Int.natCast_nonneg _
      have r2 : (r : Int) < 16 := by omega
      rw [show ((r : Int).toNat) = r from rfl] at HQb HQs
      clear hpt2 hbq
      obtain rfl : (upB b (33 + m * 16 + r) false) = qb := by rw [← HQb.out]; simp [rafB]
      obtain rfl : (s) = qs := by rw [← HQs.out]; simp [rafS]
      clear HQb HQs
      go_wp2_with fail
      refine wp_region_held_drew (S := (fun w' => w'.cell? ⟨eb, 1, none⟩ = some (.int .i64 (m : Int)) ∧ w'.cell? ⟨eb, 2, none⟩ = some (.int .i64 (r : Int)))) (by kernel_rfl) ⟨(below_at (drew_bel _) g1), (below_at (drew_bel _) g2)⟩ (fun hHeld => ?_)
      simp only [Act.put, List.size_toArray, List.length_cons, List.length_nil, Nat.zero_add]
      refine takeD (i := 0) (d := 102) (v := .pointer (some ⟨eb, 1, none⟩)) rfl (by kernel_rfl) (by kernel_rfl) (by kernel_rfl) (by kernel_rfl) (fun _ _ _ h => h) (Or.inl ⟨by rfl, fun w' hS => by go_simp⟩) hHeld ?_
      simp only [Act.put, List.setIfInBounds_toArray, List.set_cons_zero, List.set_cons_succ]
      refine takeD (i := 1) (d := 103) (v := .int .i64 (m : Int)) rfl (by kernel_rfl) (by kernel_rfl) (by kernel_rfl) (by kernel_rfl) (fun _ _ _ h => h) (Or.inl ⟨by rfl, fun w' hS => by (obtain ⟨s0, s1⟩ := hS; go_simp)⟩) hHeld ?_
      simp only [Act.put, List.setIfInBounds_toArray, List.set_cons_zero, List.set_cons_succ]
      refine takeD (i := 2) (d := 104) (v := .pointer (some ⟨eb, 2, none⟩)) rfl (by kernel_rfl) (by kernel_rfl) (by kernel_rfl) (by kernel_rfl) (fun _ _ _ h => h) (Or.inl ⟨by rfl, fun w' hS => by go_simp⟩) hHeld ?_
      simp only [Act.put, List.setIfInBounds_toArray, List.set_cons_zero, List.set_cons_succ]
      refine takeD (i := 3) (d := 105) (v := .int .i64 (r : Int)) rfl (by kernel_rfl) (by kernel_rfl) (by kernel_rfl) (by kernel_rfl) (fun _ _ _ h => h) (Or.inl ⟨by rfl, fun w' hS => by (obtain ⟨s0, s1⟩ := hS; go_simp)⟩) hHeld ?_
      simp only [Act.put, List.setIfInBounds_toArray, List.set_cons_zero, List.set_cons_succ]
      refine takeD (i := 4) (d := 106) (v := .pointer (some ⟨w.heap.size, 33, none⟩)) rfl (by kernel_rfl) (by kernel_rfl) (by kernel_rfl) (by kernel_rfl) (fun _ _ _ h => h) (Or.inl ⟨by rfl, fun w' hS => by go_simp⟩) hHeld ?_
      simp only [Act.put, List.setIfInBounds_toArray, List.set_cons_zero, List.set_cons_succ]
      refine takeD (i := 5) (d := 107) (v := .pointer (some ⟨w.heap.size, 33 + m * 16, none⟩)) rfl (by kernel_rfl) (by kernel_rfl) (by kernel_rfl) (by kernel_rfl) (fun _ _ _ h => h) (Or.inl ⟨by rfl, fun w' hS => by go_simp⟩) hHeld ?_
      simp only [Act.put, List.setIfInBounds_toArray, List.set_cons_zero, List.set_cons_succ]
      refine takeD (i := 6) (d := 108) (v := .pointer (some ⟨w.heap.size, 33 + m * 16 + r, none⟩)) rfl (by kernel_rfl) (by kernel_rfl) (by kernel_rfl) (by kernel_rfl) (fun _ _ _ h => h) (Or.inl ⟨by rfl, fun w' hS => by go_simp⟩) hHeld ?_
      simp only [Act.put, List.setIfInBounds_toArray, List.set_cons_zero, List.set_cons_succ]
      have hbD1 : Below w4.heap.size w4 w4.drew := drew_bel _
      have q0 := below_at hbD1 g1
      have q1 := below_at hbD1 g2
      have hSD : Sb w4.drew w.heap.size b s := HS4.out.on hbD1
      have hRD : w4.drew.heap[rb]? = some (.cells (rvl (fun _ => false) (fun _ => 0)).toArray 87 (0, 0)) := blk_on hbD1 HR4.out
      have hBD : Below w.heap.size w w4.drew := HB4.out.trans (hbD1.mono HB4.out.size)
      generalize w4.drew = D1 at *
      have HD1 : Hid (Sb D1 w.heap.size b s) := hSD
      have HR1 : Hid (D1.heap[rb]? = some (.cells (rvl (fun _ => false) (fun _ => 0)).toArray 87 (0, 0))) := hRD
      have HBD : Hid (Below w.heap.size w D1) := hBD
      clear hSD hRD hBD
      refine wpAnyH_ready (rs := [7]) (by kernel_rfl) (by simp) ?_
      refine AllReadyH.cons rfl (fun K hK => ?_) AllReadyH.nil
      have z1 := HD1.out.bo (i := 33 + m * 16 + r) (by omega) (by omega)
      have z2 := HD1.out.fz (33 + m * 16 + r)
      go_simp
      refine hK.out _ _ ⟨(cell_ne hek q0), (cell_ne hek q1)⟩ (fun hHeld => ?_)
      clear hK K
      refine wpAnyH_done (by kernel_rfl) ?_ _
      clear hHeld
      have HS5 : Hid (Sb (D1.setCell ⟨w.heap.size, 33 + m * 16 + r, none⟩ (.bool false)) w.heap.size (upB b (33 + m * 16 + r) false) (s)) := (show Sb _ _ _ _ from HD1.out.setB false (by omega) (by omega))
      have HR5 : Hid ((D1.setCell ⟨w.heap.size, 33 + m * 16 + r, none⟩ (.bool false)).heap[rb]? = some (.cells (rvl (fun _ => false) (fun _ => 0)).toArray 87 (0, 0))) := (show _ = _ from (Mb.kset (P := fun q => q = w.heap.size) D1 w.heap.size _ _ rfl).obj HR1.out (fun e => by have e' : rb = w.heap.size := e; omega))
      have HB5 : Hid (Below w.heap.size w (D1.setCell ⟨w.heap.size, 33 + m * 16 + r, none⟩ (.bool false))) := HBD.out.setCell (Nat.le_refl _) _
      try clear z1 z2
      clear q0 q1 hbD1
      generalize D1.setCell ⟨w.heap.size, 33 + m * 16 + r, none⟩ (.bool false) = w5 at *
      have HKR : Hid (w5.rangeAt w.heap.size 0 (rvl (upB b (33 + m * 16 + r) false) (s))) := HS5.out.rng
      go_wp2_with (first | (refine Ln.at_load 87 (.tmp 2) rfl ?_; refine Ln.load_mid 87 (.tmp 2) HKR.out _ Try.underlying87 rfl (by rw [rvl_len]; exact iSt) rfl rfl rfl ?_) | (refine Ln.at_store 87 _ _ rfl ?_; refine wl_storeZ rfl 87 _ _ rfl rfl rfl HR5.out (by rw [rvl_len]; exact iSt) (by rw [rvl_len]; simp [rvl]) (rvl_one _ _) ?_) | fail)
      intro W9 k9 kk9
      have HK9 : Hid (W9.heap[rb]? = some (.cells (rvl (upB b (33 + m * 16 + r) false) (s)).toArray 87 (0, 0))) := k9
      have HB9 : Hid (Below w.heap.size w W9) := (show Below _ _ _ from HB5.out.trans (kn kk9 (Nat.le_of_lt hkr) HB5.out.size))
      clear k9 kk9
      go_wp2_with fail
      (try simp only [Exit.inBlock, Exit.then])
      refine bodyPost_ret (v := .agg (rvl (upB b (33 + m * 16 + r) false) (s)).toArray) ?_ rfl ⟨rfl, HB9.out⟩
      exact results_cell_row rfl _ _ rb 87 _ (0, 0) _ rfl HK9.out Try.underlying87 rfl (by rw [List.size_toArray, rvl_len]; exact iSt)
  by_cases k10 : kd = 10
  · subst k10
    cases pt
    · obtain rfl : (b) = qb := by rw [← HQb.out]; simp [rafB]
      obtain rfl : (s) = qs := by rw [← HQs.out]; simp [rafS]
      clear HQb HQs
      have HKR : Hid (w4.rangeAt w.heap.size 0 (rvl (b) (s))) := HS4.out.rng
      go_wp2_with (first | (refine Ln.at_load 87 (.tmp 2) rfl ?_; refine Ln.load_mid 87 (.tmp 2) HKR.out _ Try.underlying87 rfl (by rw [rvl_len]; exact iSt) rfl rfl rfl ?_) | (refine Ln.at_store 87 _ _ rfl ?_; refine wl_storeZ rfl 87 _ _ rfl rfl rfl HR4.out (by rw [rvl_len]; exact iSt) (by rw [rvl_len]; simp [rvl]) (rvl_one _ _) ?_) | fail)
      intro W9 k9 kk9
      have HK9 : Hid (W9.heap[rb]? = some (.cells (rvl (b) (s)).toArray 87 (0, 0))) := k9
      have HB9 : Hid (Below w.heap.size w W9) := (show Below _ _ _ from HB4.out.trans (kn kk9 (Nat.le_of_lt hkr) HB4.out.size))
      clear k9 kk9
      go_wp2_with fail
      (try simp only [Exit.inBlock, Exit.then])
      refine bodyPost_ret (v := .agg (rvl (b) (s)).toArray) ?_ rfl ⟨rfl, HB9.out⟩
      exact results_cell_row rfl _ _ rb 87 _ (0, 0) _ rfl HK9.out Try.underlying87 rfl (by rw [List.size_toArray, rvl_len]; exact iSt)
    · have hpt2 := HPT.out
      have hbq : 0 ≤ ebq ∧ ebq < (N : Int) := by
        simp only [Bool.and_eq_true] at hpt2
        have h3 := hpt2.1.2
        unfold ndB at h3
        rw [hN] at h3
        simpa using h3
      obtain ⟨r, rfl⟩ : ∃ r : Nat, ebq = (r : Int) := ⟨ebq.toNat, by omega⟩
      have r1 : (0 : Int) ≤ (r : Int) := Int.natCast_nonneg _
      have r2 : (r : Int) < 16 := by omega
      rw [show ((r : Int).toNat) = r from rfl] at HQb HQs
      clear hpt2 hbq
      by_cases hn1 : 1 ≤ n
      · by_cases hn2 : n ≤ 16
        · obtain rfl : (b) = qb := by rw [← HQb.out]; simp [rafB, hn1, hn2]
          obtain rfl : (upF s (289 + m * 16 + r) n) = qs := by rw [← HQs.out]; simp [rafS, hn1, hn2]
          clear HQb HQs
          go_wp2_with fail
          refine wp_region_held_drew (S := (fun w' => w'.cell? ⟨eb, 1, none⟩ = some (.int .i64 (m : Int)) ∧ w'.cell? ⟨eb, 2, none⟩ = some (.int .i64 (r : Int)) ∧ w'.cell? ⟨eb, 3, none⟩ = some (.int .i64 n))) (by kernel_rfl) ⟨(below_at (drew_bel _) g1), (below_at (drew_bel _) g2), (below_at (drew_bel _) g3)⟩ (fun hHeld => ?_)
          simp only [Act.put, List.size_toArray, List.length_cons, List.length_nil, Nat.zero_add]
          refine takeD (i := 0) (d := 126) (v := .pointer (some ⟨eb, 1, none⟩)) rfl (by kernel_rfl) (by kernel_rfl) (by kernel_rfl) (by kernel_rfl) (fun _ _ _ h => h) (Or.inl ⟨by rfl, fun w' hS => by go_simp⟩) hHeld ?_
          simp only [Act.put, List.setIfInBounds_toArray, List.set_cons_zero, List.set_cons_succ]
          refine takeD (i := 1) (d := 127) (v := .int .i64 (m : Int)) rfl (by kernel_rfl) (by kernel_rfl) (by kernel_rfl) (by kernel_rfl) (fun _ _ _ h => h) (Or.inl ⟨by rfl, fun w' hS => by (obtain ⟨s0, s1, s2⟩ := hS; go_simp)⟩) hHeld ?_
          simp only [Act.put, List.setIfInBounds_toArray, List.set_cons_zero, List.set_cons_succ]
          refine takeD (i := 2) (d := 128) (v := .pointer (some ⟨eb, 2, none⟩)) rfl (by kernel_rfl) (by kernel_rfl) (by kernel_rfl) (by kernel_rfl) (fun _ _ _ h => h) (Or.inl ⟨by rfl, fun w' hS => by go_simp⟩) hHeld ?_
          simp only [Act.put, List.setIfInBounds_toArray, List.set_cons_zero, List.set_cons_succ]
          refine takeD (i := 3) (d := 129) (v := .int .i64 (r : Int)) rfl (by kernel_rfl) (by kernel_rfl) (by kernel_rfl) (by kernel_rfl) (fun _ _ _ h => h) (Or.inl ⟨by rfl, fun w' hS => by (obtain ⟨s0, s1, s2⟩ := hS; go_simp)⟩) hHeld ?_
          simp only [Act.put, List.setIfInBounds_toArray, List.set_cons_zero, List.set_cons_succ]
          refine takeD (i := 4) (d := 130) (v := .pointer (some ⟨eb, 3, none⟩)) rfl (by kernel_rfl) (by kernel_rfl) (by kernel_rfl) (by kernel_rfl) (fun _ _ _ h => h) (Or.inl ⟨by rfl, fun w' hS => by go_simp⟩) hHeld ?_
          simp only [Act.put, List.setIfInBounds_toArray, List.set_cons_zero, List.set_cons_succ]
          refine takeD (i := 5) (d := 131) (v := .int .i64 n) rfl (by kernel_rfl) (by kernel_rfl) (by kernel_rfl) (by kernel_rfl) (fun _ _ _ h => h) (Or.inl ⟨by rfl, fun w' hS => by (obtain ⟨s0, s1, s2⟩ := hS; go_simp)⟩) hHeld ?_
          simp only [Act.put, List.setIfInBounds_toArray, List.set_cons_zero, List.set_cons_succ]
          refine takeD (i := 6) (d := 132) (v := .pointer (some ⟨w.heap.size, 289, none⟩)) rfl (by kernel_rfl) (by kernel_rfl) (by kernel_rfl) (by kernel_rfl) (fun _ _ _ h => h) (Or.inl ⟨by rfl, fun w' hS => by go_simp⟩) hHeld ?_
          simp only [Act.put, List.setIfInBounds_toArray, List.set_cons_zero, List.set_cons_succ]
          refine takeD (i := 7) (d := 133) (v := .pointer (some ⟨w.heap.size, 289 + m * 16, none⟩)) rfl (by kernel_rfl) (by kernel_rfl) (by kernel_rfl) (by kernel_rfl) (fun _ _ _ h => h) (Or.inl ⟨by rfl, fun w' hS => by go_simp⟩) hHeld ?_
          simp only [Act.put, List.setIfInBounds_toArray, List.set_cons_zero, List.set_cons_succ]
          refine takeD (i := 8) (d := 134) (v := .pointer (some ⟨w.heap.size, 289 + m * 16 + r, none⟩)) rfl (by kernel_rfl) (by kernel_rfl) (by kernel_rfl) (by kernel_rfl) (fun _ _ _ h => h) (Or.inl ⟨by rfl, fun w' hS => by go_simp⟩) hHeld ?_
          simp only [Act.put, List.setIfInBounds_toArray, List.set_cons_zero, List.set_cons_succ]
          have hbD1 : Below w4.heap.size w4 w4.drew := drew_bel _
          have q0 := below_at hbD1 g1
          have q1 := below_at hbD1 g2
          have q2 := below_at hbD1 g3
          have hSD : Sb w4.drew w.heap.size b s := HS4.out.on hbD1
          have hRD : w4.drew.heap[rb]? = some (.cells (rvl (fun _ => false) (fun _ => 0)).toArray 87 (0, 0)) := blk_on hbD1 HR4.out
          have hBD : Below w.heap.size w w4.drew := HB4.out.trans (hbD1.mono HB4.out.size)
          generalize w4.drew = D1 at *
          have HD1 : Hid (Sb D1 w.heap.size b s) := hSD
          have HR1 : Hid (D1.heap[rb]? = some (.cells (rvl (fun _ => false) (fun _ => 0)).toArray 87 (0, 0))) := hRD
          have HBD : Hid (Below w.heap.size w D1) := hBD
          clear hSD hRD hBD
          refine wpAnyH_ready (rs := [9]) (by kernel_rfl) (by simp) ?_
          refine AllReadyH.cons rfl (fun K hK => ?_) AllReadyH.nil
          have z1 := HD1.out.io (i := 289 + m * 16 + r) (by omega) (by omega)
          have z2 := HD1.out.fz (289 + m * 16 + r)
          go_simp
          refine hK.out _ _ ⟨(cell_ne hek q0), (cell_ne hek q1), (cell_ne hek q2)⟩ (fun hHeld => ?_)
          clear hK K
          refine wpAnyH_done (by kernel_rfl) ?_ _
          clear hHeld
          have HS5 : Hid (Sb (D1.setCell ⟨w.heap.size, 289 + m * 16 + r, none⟩ (.int .i64 n)) w.heap.size (b) (upF s (289 + m * 16 + r) n)) := (show Sb _ _ _ _ from HD1.out.setI n (by omega))
          have HR5 : Hid ((D1.setCell ⟨w.heap.size, 289 + m * 16 + r, none⟩ (.int .i64 n)).heap[rb]? = some (.cells (rvl (fun _ => false) (fun _ => 0)).toArray 87 (0, 0))) := (show _ = _ from (Mb.kset (P := fun q => q = w.heap.size) D1 w.heap.size _ _ rfl).obj HR1.out (fun e => by have e' : rb = w.heap.size := e; omega))
          have HB5 : Hid (Below w.heap.size w (D1.setCell ⟨w.heap.size, 289 + m * 16 + r, none⟩ (.int .i64 n))) := HBD.out.setCell (Nat.le_refl _) _
          try clear z1 z2
          clear q0 q1 q2 hbD1
          generalize D1.setCell ⟨w.heap.size, 289 + m * 16 + r, none⟩ (.int .i64 n) = w5 at *
          have HKR : Hid (w5.rangeAt w.heap.size 0 (rvl (b) (upF s (289 + m * 16 + r) n))) := HS5.out.rng
          go_wp2_with (first | (refine Ln.at_load 87 (.tmp 2) rfl ?_; refine Ln.load_mid 87 (.tmp 2) HKR.out _ Try.underlying87 rfl (by rw [rvl_len]; exact iSt) rfl rfl rfl ?_) | (refine Ln.at_store 87 _ _ rfl ?_; refine wl_storeZ rfl 87 _ _ rfl rfl rfl HR5.out (by rw [rvl_len]; exact iSt) (by rw [rvl_len]; simp [rvl]) (rvl_one _ _) ?_) | fail)
          intro W9 k9 kk9
          have HK9 : Hid (W9.heap[rb]? = some (.cells (rvl (b) (upF s (289 + m * 16 + r) n)).toArray 87 (0, 0))) := k9
          have HB9 : Hid (Below w.heap.size w W9) := (show Below _ _ _ from HB5.out.trans (kn kk9 (Nat.le_of_lt hkr) HB5.out.size))
          clear k9 kk9
          go_wp2_with fail
          (try simp only [Exit.inBlock, Exit.then])
          refine bodyPost_ret (v := .agg (rvl (b) (upF s (289 + m * 16 + r) n)).toArray) ?_ rfl ⟨rfl, HB9.out⟩
          exact results_cell_row rfl _ _ rb 87 _ (0, 0) _ rfl HK9.out Try.underlying87 rfl (by rw [List.size_toArray, rvl_len]; exact iSt)
        · obtain rfl : (b) = qb := by rw [← HQb.out]; simp [rafB, hn1, hn2]
          obtain rfl : (s) = qs := by rw [← HQs.out]; simp [rafS, hn1, hn2]
          clear HQb HQs
          have HKR : Hid (w4.rangeAt w.heap.size 0 (rvl (b) (s))) := HS4.out.rng
          go_wp2_with (first | (refine Ln.at_load 87 (.tmp 2) rfl ?_; refine Ln.load_mid 87 (.tmp 2) HKR.out _ Try.underlying87 rfl (by rw [rvl_len]; exact iSt) rfl rfl rfl ?_) | (refine Ln.at_store 87 _ _ rfl ?_; refine wl_storeZ rfl 87 _ _ rfl rfl rfl HR4.out (by rw [rvl_len]; exact iSt) (by rw [rvl_len]; simp [rvl]) (rvl_one _ _) ?_) | fail)
          intro W9 k9 kk9
          have HK9 : Hid (W9.heap[rb]? = some (.cells (rvl (b) (s)).toArray 87 (0, 0))) := k9
          have HB9 : Hid (Below w.heap.size w W9) := (show Below _ _ _ from HB4.out.trans (kn kk9 (Nat.le_of_lt hkr) HB4.out.size))
          clear k9 kk9
          go_wp2_with fail
          (try simp only [Exit.inBlock, Exit.then])
          refine bodyPost_ret (v := .agg (rvl (b) (s)).toArray) ?_ rfl ⟨rfl, HB9.out⟩
          exact results_cell_row rfl _ _ rb 87 _ (0, 0) _ rfl HK9.out Try.underlying87 rfl (by rw [List.size_toArray, rvl_len]; exact iSt)
      · obtain rfl : (b) = qb := by rw [← HQb.out]; simp [rafB, hn1]
        obtain rfl : (s) = qs := by rw [← HQs.out]; simp [rafS, hn1]
        clear HQb HQs
        have HKR : Hid (w4.rangeAt w.heap.size 0 (rvl (b) (s))) := HS4.out.rng
        go_wp2_with (first | (refine Ln.at_load 87 (.tmp 2) rfl ?_; refine Ln.load_mid 87 (.tmp 2) HKR.out _ Try.underlying87 rfl (by rw [rvl_len]; exact iSt) rfl rfl rfl ?_) | (refine Ln.at_store 87 _ _ rfl ?_; refine wl_storeZ rfl 87 _ _ rfl rfl rfl HR4.out (by rw [rvl_len]; exact iSt) (by rw [rvl_len]; simp [rvl]) (rvl_one _ _) ?_) | fail)
        intro W9 k9 kk9
        have HK9 : Hid (W9.heap[rb]? = some (.cells (rvl (b) (s)).toArray 87 (0, 0))) := k9
        have HB9 : Hid (Below w.heap.size w W9) := (show Below _ _ _ from HB4.out.trans (kn kk9 (Nat.le_of_lt hkr) HB4.out.size))
        clear k9 kk9
        go_wp2_with fail
        (try simp only [Exit.inBlock, Exit.then])
        refine bodyPost_ret (v := .agg (rvl (b) (s)).toArray) ?_ rfl ⟨rfl, HB9.out⟩
        exact results_cell_row rfl _ _ rb 87 _ (0, 0) _ rfl HK9.out Try.underlying87 rfl (by rw [List.size_toArray, rvl_len]; exact iSt)
  by_cases k11 : kd = 11
  · subst k11
    obtain rfl : (rsB b N xs) = qb := by rw [← HQb.out]; simp [rafB]
    obtain rfl : (s) = qs := by rw [← HQs.out]; simp [rafS]
    clear HQb HQs
    have HKN : Hid (w4.rangeAt w.heap.size 0 (rvl b s)) := HS4.out.rng
    have hsp := HSp.out w4 HB4.out
    have HSp4 : Hid (Calls Try.prog 59 #[.agg (rvl b s).toArray, .slice sa sn sc] w4 fun r w' => r = .returned (.agg (rvl (rsB b N xs) s).toArray) ∧ Below w4.heap.size w4 w') := hsp
    clear hsp
    go_wp2_with (first | (refine Ln.at_load 87 (.tmp 2) rfl ?_; refine Ln.load_mid 87 (.tmp 2) HKN.out _ Try.underlying87 rfl (by rw [rvl_len]; exact iSt) rfl rfl rfl ?_) | fail)
    refine HSp4.out.mono ?_
    rintro r5 w5 ⟨rfl, hb5⟩
    have HR5 : Hid (w5.heap[rb]? = some (.cells (rvl (fun _ => false) (fun _ => 0)).toArray 87 (0, 0))) := (show _ = _ from blk_on hb5 HR4.out)
    have HB5 : Hid (Below w.heap.size w w5) := bst HB4.out hb5
    clear hb5 HSp4 HKN g0 g1 g2 g3 g12
    go_wp2_with (first | (refine Ln.at_store 87 _ _ rfl ?_; refine wl_storeZ rfl 87 _ _ rfl rfl rfl HR5.out (by rw [rvl_len]; exact iSt) (by rw [rvl_len]; simp [rvl]) (rvl_one _ _) ?_) | fail)
    intro W9 k9 kk9
    have HK9 : Hid (W9.heap[rb]? = some (.cells (rvl (rsB b N xs) s).toArray 87 (0, 0))) := k9
    have HB9 : Hid (Below w.heap.size w W9) := (show Below _ _ _ from HB5.out.trans (kn kk9 (Nat.le_of_lt hkr) HB5.out.size))
    clear k9 kk9
    go_wp2_with fail
    (try simp only [Exit.inBlock, Exit.then])
    refine bodyPost_ret (v := .agg (rvl (rsB b N xs) s).toArray) ?_ rfl ⟨rfl, HB9.out⟩
    exact results_cell_row rfl _ _ rb 87 _ (0, 0) _ rfl HK9.out Try.underlying87 rfl (by rw [List.size_toArray, rvl_len]; exact iSt)
  by_cases k18 : kd = 18
  · subst k18
    obtain rfl : (upB b (17 + m) true) = qb := by rw [← HQb.out]; simp [rafB]
    obtain rfl : (s) = qs := by rw [← HQs.out]; simp [rafS]
    clear HQb HQs
    have z1 := HS4.out.bo (i := 17 + m) (by omega) (by omega)
    have z2 := HS4.out.fz (17 + m)
    have HS5 : Hid (Sb (w4.setCell ⟨w.heap.size, 17 + m, none⟩ (.bool true)) w.heap.size (upB b (17 + m) true) s) := (show Sb _ _ _ _ from HS4.out.setB true (by omega) (by omega))
    have HR5 : Hid ((w4.setCell ⟨w.heap.size, 17 + m, none⟩ (.bool true)).heap[rb]? = some (.cells (rvl (fun _ => false) (fun _ => 0)).toArray 87 (0, 0))) := (show _ = _ from (Mb.kset (P := fun q => q = w.heap.size) w4 w.heap.size _ _ rfl).obj HR4.out (fun e => by have e' : rb = w.heap.size := e; omega))
    have HB5 : Hid (Below w.heap.size w (w4.setCell ⟨w.heap.size, 17 + m, none⟩ (.bool true))) := HB4.out.setCell (Nat.le_refl _) _
    obtain ⟨w5, hw5⟩ : ∃ w5, w4.setCell ⟨w.heap.size, 17 + m, none⟩ (.bool true) = w5 := ⟨_, rfl⟩
    rw [hw5] at HS5 HR5 HB5
    have HKR : Hid (w5.rangeAt w.heap.size 0 (rvl (upB b (17 + m) true) (s))) := HS5.out.rng
    go_wp2_with (first | (refine Ln.at_load 87 (.tmp 2) rfl ?_; refine Ln.load_mid 87 (.tmp 2) HKR.out _ Try.underlying87 rfl (by rw [rvl_len]; exact iSt) rfl rfl rfl ?_) | (refine Ln.at_store 87 _ _ rfl ?_; refine wl_storeZ rfl 87 _ _ rfl rfl rfl HR5.out (by rw [rvl_len]; exact iSt) (by rw [rvl_len]; simp [rvl]) (rvl_one _ _) ?_) | fail)
    intro W9 k9 kk9
    have HK9 : Hid (W9.heap[rb]? = some (.cells (rvl (upB b (17 + m) true) (s)).toArray 87 (0, 0))) := k9
    have HB9 : Hid (Below w.heap.size w W9) := (show Below _ _ _ from HB5.out.trans (kn kk9 (Nat.le_of_lt hkr) HB5.out.size))
    clear k9 kk9
    go_wp2_with fail
    (try simp only [Exit.inBlock, Exit.then])
    refine bodyPost_ret (v := .agg (rvl (upB b (17 + m) true) (s)).toArray) ?_ rfl ⟨rfl, HB9.out⟩
    exact results_cell_row rfl _ _ rb 87 _ (0, 0) _ rfl HK9.out Try.underlying87 rfl (by rw [List.size_toArray, rvl_len]; exact iSt)
  have e5 : (kd == 5) = false := by rw [beq_eq_false_iff_ne]; exact k5
  have e6 : (kd == 6) = false := by rw [beq_eq_false_iff_ne]; exact k6
  have e7 : (kd == 7) = false := by rw [beq_eq_false_iff_ne]; exact k7
  have e8 : (kd == 8) = false := by rw [beq_eq_false_iff_ne]; exact k8
  have e9 : (kd == 9) = false := by rw [beq_eq_false_iff_ne]; exact k9
  have e10 : (kd == 10) = false := by rw [beq_eq_false_iff_ne]; exact k10
  have e11 : (kd == 11) = false := by rw [beq_eq_false_iff_ne]; exact k11
  have e18 : (kd == 18) = false := by rw [beq_eq_false_iff_ne]; exact k18
  obtain rfl : (b) = qb := by rw [← HQb.out]; simp [rafB, k5, k6, k7, k8, k9, k10, k11, k18]
  obtain rfl : (s) = qs := by rw [← HQs.out]; simp [rafS, k5, k6, k7, k8, k9, k10, k11, k18]
  clear HQb HQs
  clear k5 k6 k7 k8 k9 k10 k11 k18
  have HKR : Hid (w4.rangeAt w.heap.size 0 (rvl (b) (s))) := HS4.out.rng
  go_wp2_with (first | (refine Ln.at_load 87 (.tmp 2) rfl ?_; refine Ln.load_mid 87 (.tmp 2) HKR.out _ Try.underlying87 rfl (by rw [rvl_len]; exact iSt) rfl rfl rfl ?_) | (refine Ln.at_store 87 _ _ rfl ?_; refine wl_storeZ rfl 87 _ _ rfl rfl rfl HR4.out (by rw [rvl_len]; exact iSt) (by rw [rvl_len]; simp [rvl]) (rvl_one _ _) ?_) | fail)
  intro W9 k9 kk9
  have HK9 : Hid (W9.heap[rb]? = some (.cells (rvl (b) (s)).toArray 87 (0, 0))) := k9
  have HB9 : Hid (Below w.heap.size w W9) := (show Below _ _ _ from HB4.out.trans (kn kk9 (Nat.le_of_lt hkr) HB4.out.size))
  clear k9 kk9
  go_wp2_with fail
  (try simp only [Exit.inBlock, Exit.then])
  refine bodyPost_ret (v := .agg (rvl (b) (s)).toArray) ?_ rfl ⟨rfl, HB9.out⟩
  exact results_cell_row rfl _ _ rb 87 _ (0, 0) _ rfl HK9.out Try.underlying87 rfl (by rw [List.size_toArray, rvl_len]; exact iSt)
end Go.Proofs.Ytfodkackfahldaa.Lo
