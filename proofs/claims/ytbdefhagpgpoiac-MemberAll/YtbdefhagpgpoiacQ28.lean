import Derived.Test.YtbdefhagpgpoiacQ00
import Derived.Test.YtbdefhagpgpoiacQ13
namespace Go.Proofs.Ytbdefhagpgpoiac.Mb
open Go.RowKit
set_option linter.unusedVariables false
set_option maxRecDepth 100000
set_option linter.unusedSimpArgs false
section
variable {A A' : Ag} {w w' W : World} {B : Nat} {T : Int}
theorem built_eq {t : TypeId} {l l' : List (Nat × Value)} {c : Array Value} (e : l = l') (h : Try.prog.built t l' = some c) : Try.prog.built t l = some c := e ▸ h
set_option maxHeartbeats 2000000 in
theorem new_run (n s : Nat) (inc fl : Int) (h16 : 1 ≤ n ∧ n ≤ 16 ∧ s < n) (hok : newOk n s inc fl = true) (hf : 0 ≤ fl ∧ fl ≤ T) (hT : T ≤ 4611686018427387904) (hT2 : 4611686018427387903 ≤ T) : Calls Try.prog 5 #[.int .i64 n, .int .i64 s, .int .i64 inc, .int .i64 fl] w fun e w' => e = .returned (.tuple #[.pointer (if (A0 w.heap.size n s fl).begE (zs.set s inc) = 0 then some ⟨w.heap.size, 0, none⟩ else none), .int .i64 ((A0 w.heap.size n s fl).begE (zs.set s inc))]) ∧ ((A0 w.heap.size n s fl).begA (zs.set s inc)).Ok w' w.heap.size T ∧ Below w.heap.size w w' := by
  obtain ⟨nI, hnI⟩ : ∃ nI : Int, (n : Int) = nI := ⟨_, rfl⟩
  have hn1 : 1 ≤ nI ∧ nI ≤ 16 := by omega
  have i1 : (0 : Int) ≤ (s : Int) := Int.natCast_nonneg _
  have i2 : (s : Int) < 16 := by omega
  have hCA := built_a0 w.heap.size n s fl
  have hCP := built_p0 fl
  have hA := fun W h => a0_ok (w := W) (B := w.heap.size) (T := T) w.heap.size n s fl h16 hf hT h (Nat.le_refl _)
  rw [hnI] at hCA
  unfold newOk at hok
  rw [hnI] at hok
  simp only [Bool.and_eq_true] at hok
  obtain ⟨⟨⟨hg0, hg1⟩, hg2⟩, hg3⟩ := hok
  have H0 : Hid (∀ W, Calls Try.prog 9 #[.int .i64 nI, .int .i64 1, .int .i64 16] W fun e w' => e = .returned (.bool true) ∧ W = w') := fun W => hg0 ▸ within_w _ _ _
  have H1 : Hid (∀ W, Calls Try.prog 9 #[.int .i64 (s : Int), .int .i64 0, .int .i64 (nI - 1)] W fun e w' => e = .returned (.bool true) ∧ W = w') := fun W => hg1 ▸ within_w _ _ _
  have H2 : Hid (∀ W, Calls Try.prog 9 #[.int .i64 inc, .int .i64 1, .int .i64 4611686018427387904] W fun e w' => e = .returned (.bool true) ∧ W = w') := fun W => hg2 ▸ within_w _ _ _
  have H3 : Hid (∀ W, Calls Try.prog 9 #[.int .i64 fl, .int .i64 0, .int .i64 4611686018427387904] W fun e w' => e = .returned (.bool true) ∧ W = w') := fun W => hg3 ▸ within_w _ _ _
  generalize ((List.range 671).map (A0 w.heap.size n s fl).at).toArray = CA at *
  generalize (ints (P0 fl).fl).toArray = CP at *
  have HCA : Hid (Try.prog.built 53 [(0, .int .i64 nI), (1, .int .i64 (s : Int)), (2, .agg CP)] = some CA) := hCA
  have HCP : Hid (Try.prog.built 47 [(1, .int .i64 fl), (3, .int .i64 fl)] = some CP) := hCP
  have HA : Hid (∀ W : World, W.heap[w.heap.size]? = some (.cells CA 53 (0, 0)) → (A0 w.heap.size n s fl).Ok W w.heap.size T) := hA
  rw [hnI]
  clear hCA hCP hA hg0 hg1 hg2 hg3 hnI
  generalize hW1 : w.alloc (.cells CA 53) = W1
  generalize hW2 : W1.alloc (.cells #[.int .i64 0, .int .i64 0, .int .i64 0, .int .i64 0, .int .i64 0, .int .i64 0, .int .i64 0, .int .i64 0, .int .i64 0, .int .i64 0, .int .i64 0, .int .i64 0, .int .i64 0, .int .i64 0, .int .i64 0, .int .i64 0] 45) = W2
  have b1 : Below w.heap.size w W1 := hW1 ▸ balloc (Below.refl _ _)
  have b2 : Below W1.heap.size W1 W2 := hW2 ▸ balloc (Below.refl _ _)
  have k1 : W1.heap[w.heap.size]? = some (.cells CA 53 (0, 0)) := by rw [← hW1]; exact heap_alloc_new w _
  have k2 : Rw W2 W1.heap.size 45 zs := by unfold Rw; rw [← hW2]; exact heap_alloc_new W1 _
  have hA2 := (HA.out W1 k1).still b2
  have hlt : w.heap.size < W1.heap.size := lt_heap k1
  have d0 := k2.cell (i := s) (by show s < 16; omega)
  have d1 := k2.fz s
  have hV := k2.set s inc
  have bV := bset (bstep b1 b2) (Nat.le_of_lt hlt) s (.int .i64 inc)
  have hAV := hA2.keep (kset (P := fun j => j = W1.heap.size) W2 W1.heap.size s (.int .i64 inc) rfl) (fun e => by have : w.heap.size = W1.heap.size := e; omega) (fun g hg e => by cases hg)
  have hl : (zs.set s inc).length = 16 := by rw [List.length_set]; rfl
  have HV : Hid (Rw (W2.setCell ⟨W1.heap.size, s, none⟩ (.int .i64 inc)) W1.heap.size 45 (zs.set s inc)) := hV
  have HBg : Hid (Calls Try.prog 10 #[.pointer (some ⟨w.heap.size, 0, none⟩), .agg (ints (zs.set s inc)).toArray] (W2.setCell ⟨W1.heap.size, s, none⟩ (.int .i64 inc)) fun e w' => e = .returned (.int .i64 ((A0 w.heap.size n s fl).begE (zs.set s inc))) ∧ ((A0 w.heap.size n s fl).begA (zs.set s inc)).Ok w' w.heap.size T ∧ Kept (W2.setCell ⟨W1.heap.size, s, none⟩ (.int .i64 inc)) w' (fun j => j = w.heap.size)) := begin_any hAV hT2 _ hl
  have HBV : Hid (Below w.heap.size w (W2.setCell ⟨W1.heap.size, s, none⟩ (.int .i64 inc))) := bV
  have Hl : Hid ((zs.set s inc).length = 16) := hl
  generalize (A0 w.heap.size n s fl).begE (zs.set s inc) = E at *
  obtain ⟨pv, hpv⟩ : ∃ pv : Option Addr, (if E = 0 then some ⟨w.heap.size, 0, none⟩ else none) = pv := ⟨_, rfl⟩
  rw [hpv]
  have HP : Hid ((if E = 0 then some (⟨w.heap.size, 0, none⟩ : Addr) else none) = pv) := hpv
  clear b1 b2 k1 k2 hA2 hV bV hAV hl HA hpv
  go_enter Try.func5, Try.ntmps5
  go_wp2_with (first | (refine wl_at 15 rfl ?_) | fail)
  refine wl_step (by kernel_rfl) fun K hK => ?_
  go_simp
  refine (H0.out _).mono ?_
  rintro e w2 ⟨rfl, rfl⟩
  refine hK _ _ ?_
  clear hK K
  try (simp only [Act.put, gA, gB, gC, gD, gE, gF])
  refine wlT (.bool true) ?_
  simp only [Act.put, gA, gB, gC, gD, gE, gF]
  refine wlT (.int .i64 (s : Int)) ?_
  simp only [Act.put, gA, gB, gC, gD, gE, gF]
  refine wlT (.int .i64 nI) ?_
  simp only [Act.put, gA, gB, gC, gD, gE, gF]
  refine wl_take (v := .int .i64 (nI - 1)) (by kernel_rfl) (by (go_simp; exact wrap_id (by omega) (by omega))) ?_
  simp only [Act.put, gA, gB, gC, gD, gE, gF]
  refine wl_step (by kernel_rfl) fun K hK => ?_
  go_simp
  refine (H1.out _).mono ?_
  rintro e w2 ⟨rfl, rfl⟩
  refine hK _ _ ?_
  clear hK K
  try (simp only [Act.put, gA, gB, gC, gD, gE, gF])
  refine wlT (.bool true) ?_
  simp only [Act.put, gA, gB, gC, gD, gE, gF]
  refine wlT (.bool true) ?_
  simp only [Act.put, gA, gB, gC, gD, gE, gF]
  refine wlT (.int .i64 inc) ?_
  simp only [Act.put, gA, gB, gC, gD, gE, gF]
  refine wl_step (by kernel_rfl) fun K hK => ?_
  go_simp
  refine (H2.out _).mono ?_
  rintro e w2 ⟨rfl, rfl⟩
  refine hK _ _ ?_
  clear hK K
  try (simp only [Act.put, gA, gB, gC, gD, gE, gF])
  refine wlT (.bool true) ?_
  simp only [Act.put, gA, gB, gC, gD, gE, gF]
  refine wlT (.bool true) ?_
  simp only [Act.put, gA, gB, gC, gD, gE, gF]
  refine wlT (.int .i64 fl) ?_
  simp only [Act.put, gA, gB, gC, gD, gE, gF]
  refine wl_step (by kernel_rfl) fun K hK => ?_
  go_simp
  refine (H3.out _).mono ?_
  rintro e w2 ⟨rfl, rfl⟩
  refine hK _ _ ?_
  clear hK K
  try (simp only [Act.put, gA, gB, gC, gD, gE, gF])
  refine wlT (.bool true) ?_
  simp only [Act.put, gA, gB, gC, gD, gE, gF]
  refine ⟨?_⟩
  go_wp2_with (first | (refine wl_at 36 rfl ?_) | fail)
  refine wl_take (v := .agg CP) (by kernel_rfl) (by exact run_buildop 47 _ rfl _ (built_eq (by kernel_rfl) HCP.out)) ?_
  simp only [Act.put, gA, gB, gC, gD, gE, gF]
  refine wl_take (v := .agg CA) (by kernel_rfl) (by exact run_buildop 53 _ rfl _ (built_eq (by kernel_rfl) HCA.out)) ?_
  simp only [Act.put, gA, gB, gC, gD, gE, gF]
  refine ⟨?_⟩
  by_cases hE : E = 0
  · obtain rfl : pv = some ⟨w.heap.size, 0, none⟩ := by rw [← HP.out, if_pos hE]
    subst hE
    go_wp2_with (first
      | (go_at_call 10; refine HBg.out.mono ?_; rintro e w3 ⟨rfl, hO, hK⟩)
      | (refine load_mid 45 (.tmp 12) HV.out.all _ Try.underlying45 rfl (by rw [ints_len, Hl.out]; exact info_row) rfl rfl rfl ?_)
      | fail)
    (try simp only [Exit.inBlock, Exit.then]); refine bodyPost_ret (results_tmp2 rfl _ _ _) rfl ?_
    exact ⟨rfl, hO, bstepK HBV.out hK (fun j hj e => by omega)⟩
  · obtain rfl : pv = none := by rw [← HP.out, if_neg hE]
    have hE2 : (E != 0) = true := by simpa using hE
    go_wp2_with (first
      | (go_at_call 10; refine HBg.out.mono ?_; rintro e w3 ⟨rfl, hO, hK⟩)
      | (refine load_mid 45 (.tmp 12) HV.out.all _ Try.underlying45 rfl (by rw [ints_len, Hl.out]; exact info_row) rfl rfl rfl ?_)
      | fail)
    (try simp only [Exit.inBlock, Exit.then]); refine bodyPost_ret (results_tmp2 rfl _ _ _) rfl ?_
    exact ⟨rfl, hO, bstepK HBV.out hK (fun j hj e => by omega)⟩
end
end Go.Proofs.Ytbdefhagpgpoiac.Mb
