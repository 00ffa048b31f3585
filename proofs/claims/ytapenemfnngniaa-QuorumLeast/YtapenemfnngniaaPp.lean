import Derived.Test.YtapenemfnngniaaPh
import Derived.Test.YtapenemfnngniaaPf
namespace Go.Proofs.Ytapenemfnngniaa.Qm
open Go.RowKit Mb
set_option linter.unusedVariables false
set_option maxRecDepth 100000
set_option linter.unusedSimpArgs false
section
variable {w w' W : World} {B : Nat}
theorem num_any (x : Int) : Calls Try.prog 14 #[.int .i64 x] w fun e w' => e = .returned (.int .i64 x) ∧ w = w' := by
  go_enter Try.func14, Try.ntmps14
  go_wp2
  go_ret
  exact ⟨rfl, rfl⟩
set_option maxHeartbeats 2000000 in
theorem same_yes {a1 a2 : Option Addr} {n c d : Nat} {xs : List Int} (h1 : RdI w a1 n c xs) (h2 : RdI w a2 n d xs) (hn : n ≤ 17592186044416) : Calls Try.prog 40 #[.slice a1 n c, .slice a2 n d] w fun e w' => e = .returned (.bool true) ∧ Below w.heap.size w w' := by
  have H1 : Hid (RdI w a1 n c xs) := h1
  have H2 : Hid (RdI w a2 n d xs) := h2
  clear h1 h2
  go_enter Try.func40, Try.ntmps40
  go_wp2
  go_loopw [5] (fun i wr => ∃ k : Nat, k ≤ n ∧ i = .int .i64 (k : Int) ∧ Hid (Below w.heap.size w wr)) (fun i _ => n - (intOf i).toNat)
  case atStart => exact ⟨0, Nat.zero_le _, rfl, Below.refl _ _⟩
  case round =>
    obtain ⟨k, hk, rfl, HB⟩ := hrel
    by_cases hlt : k < n
    · obtain ⟨b1, o1, g1, e1⟩ := (H1.out.still HB.out).at hlt
      obtain ⟨b2, o2, g2, e2⟩ := (H2.out.still HB.out).at hlt
      have i1 : (0 : Int) ≤ (k : Int) := Int.natCast_nonneg _
      have i2 : (k : Int) < (n : Int) := by omega
      rw [g1, g2]
      generalize xs.getD k 0 = x at *
      clear g1 g2
      go_wp2
      refine wp_region_held_drew (S := (fun w' => w'.cell? ⟨b1, o1 + k, none⟩ = some (.int .i64 x) ∧ w'.cell? ⟨b2, o2 + k, none⟩ = some (.int .i64 x))) (by kernel_rfl) ⟨below_at (Below.refl _ _).drew e1, below_at (Below.refl _ _).drew e2⟩ (fun hHeld => ?_)
      simp only [Act.put, List.size_toArray, List.length_cons, List.length_nil, Nat.zero_add]
      refine wpAnyH_take (i := 0) (v := .slice (some ⟨b1, o1, none⟩) n c) rfl (by kernel_rfl) (by kernel_rfl) (by kernel_rfl) (fun _ _ _ h => h) (Or.inl ⟨by rfl, fun w' hS => by go_simp⟩) hHeld ?_
      simp only [Act.put, List.getElem_toArray, List.getElem_cons_zero, List.getElem_cons_succ, List.setIfInBounds_toArray, List.set_cons_zero, List.set_cons_succ]
      refine wpAnyH_take (i := 1) (v := .int .i64 (k : Int)) rfl (by kernel_rfl) (by kernel_rfl) (by kernel_rfl) (fun _ _ _ h => h) (Or.inl ⟨by rfl, fun w' hS => by go_simp⟩) hHeld ?_
      simp only [Act.put, List.getElem_toArray, List.getElem_cons_zero, List.getElem_cons_succ, List.setIfInBounds_toArray, List.set_cons_zero, List.set_cons_succ]
      refine wpAnyH_take (i := 2) (v := .pointer (some ⟨b1, o1 + k, none⟩)) rfl (by kernel_rfl) (by kernel_rfl) (by kernel_rfl) (fun _ _ _ h => h) (Or.inl ⟨by rfl, fun w' hS => by go_simp⟩) hHeld ?_
      simp only [Act.put, List.getElem_toArray, List.getElem_cons_zero, List.getElem_cons_succ, List.setIfInBounds_toArray, List.set_cons_zero, List.set_cons_succ]
      refine wpAnyH_take (i := 3) (v := .int .i64 x) rfl (by kernel_rfl) (by kernel_rfl) (by kernel_rfl) (fun _ _ _ h => h) (Or.inl ⟨by rfl, fun w' hS => by (obtain ⟨s0, s1⟩ := hS; go_simp)⟩) hHeld ?_
      simp only [Act.put, List.getElem_toArray, List.getElem_cons_zero, List.getElem_cons_succ, List.setIfInBounds_toArray, List.set_cons_zero, List.set_cons_succ]
      refine wpAnyH_take (i := 4) (v := .slice (some ⟨b2, o2, none⟩) n d) rfl (by kernel_rfl) (by kernel_rfl) (by kernel_rfl) (fun _ _ _ h => h) (Or.inl ⟨by rfl, fun w' hS => by go_simp⟩) hHeld ?_
      simp only [Act.put, List.getElem_toArray, List.getElem_cons_zero, List.getElem_cons_succ, List.setIfInBounds_toArray, List.set_cons_zero, List.set_cons_succ]
      refine wpAnyH_take (i := 5) (v := .int .i64 (k : Int)) rfl (by kernel_rfl) (by kernel_rfl) (by kernel_rfl) (fun _ _ _ h => h) (Or.inl ⟨by rfl, fun w' hS => by go_simp⟩) hHeld ?_
      simp only [Act.put, List.getElem_toArray, List.getElem_cons_zero, List.getElem_cons_succ, List.setIfInBounds_toArray, List.set_cons_zero, List.set_cons_succ]
      refine wpAnyH_take (i := 6) (v := .pointer (some ⟨b2, o2 + k, none⟩)) rfl (by kernel_rfl) (by kernel_rfl) (by kernel_rfl) (fun _ _ _ h => h) (Or.inl ⟨by rfl, fun w' hS => by go_simp⟩) hHeld ?_
      simp only [Act.put, List.getElem_toArray, List.getElem_cons_zero, List.getElem_cons_succ, List.setIfInBounds_toArray, List.set_cons_zero, List.set_cons_succ]
      refine wpAnyH_take (i := 7) (v := .int .i64 x) rfl (by kernel_rfl) (by kernel_rfl) (by kernel_rfl) (fun _ _ _ h => h) (Or.inl ⟨by rfl, fun w' hS => by (obtain ⟨s0, s1⟩ := hS; go_simp)⟩) hHeld ?_
      simp only [Act.put, List.getElem_toArray, List.getElem_cons_zero, List.getElem_cons_succ, List.setIfInBounds_toArray, List.set_cons_zero, List.set_cons_succ]
      refine wpAnyH_take (i := 8) (v := .bool false) rfl (by kernel_rfl) (by kernel_rfl) (by kernel_rfl) (fun _ _ _ h => h) (Or.inl ⟨by rfl, fun w' hS => by go_simp⟩) hHeld ?_
      simp only [Act.put, List.getElem_toArray, List.getElem_cons_zero, List.getElem_cons_succ, List.setIfInBounds_toArray, List.set_cons_zero, List.set_cons_succ]
      refine wpAnyH_done (by kernel_rfl) ?_ _
      clear hHeld
      go_wp2
      exact ⟨⟨k + 1, by omega, by go_num, HB.out.drew⟩, by simp [intOf]; omega⟩
    · obtain rfl : k = n := by omega
      go_wp2
      go_ret
      exact ⟨rfl, HB.out⟩
def mks : Nat → List Int
  | 0 => []
  | k + 1 => mks k ++ [-700 - (k : Int)]
theorem mks_len : ∀ k, (mks k).length = k
  | 0 => rfl
  | k + 1 => by simp [mks, mks_len k]
theorem mks_at : ∀ k i, i < k → (mks k).getD i 0 = -700 - (i : Int)
  | 0, i, h => by omega
  | k + 1, i, h => by
      simp only [mks]
      by_cases e : i < k
      · rw [← mks_at k i e]
        simp only [List.getD, List.getElem?_append_left (show i < (mks k).length by rw [mks_len]; exact e)]
      · obtain rfl : i = k := by omega
        simp [List.getD, List.getElem?_append_right (show (mks i).length ≤ i by rw [mks_len]; exact Nat.le_refl _), mks_len]
set_option maxHeartbeats 2000000 in
theorem lent_any {ao : Option Addr} {n c : Nat} {xs : List Int} (hr : RdI w ao n c xs) (hn : n ≤ 17592186043904) : Calls Try.prog 12 #[.slice ao n c] w fun e w' => ∃ v, e = .returned v ∧ w'.ownsRow w.heap.size 3 1 v (n + 64) (ints (xs ++ mks 64)) ∧ Below w.heap.size w w' := by
  have HC : Hid (Calls Try.prog 10 #[.slice ao n c] w fun e w' => ∃ v, e = .returned v ∧ w'.ownsRow w.heap.size 3 1 v n (ints xs) ∧ Below w.heap.size w w') := (copied_any hr (by omega)).mono fun e w' ⟨e1, e2, e3⟩ => ⟨_, e1, ⟨by rw [ints_len, hr.len]; omega, .inr ⟨w.heap.size, n, _, rfl, Nat.le_refl _, e2, Nat.le_refl _, by unfold maxLen; omega, by simp [ints, hr.len], by rw [List.toList_toArray, List.take_of_length_le (by rw [ints_len, hr.len]; omega)]⟩⟩, e3⟩
  clear hr
  go_enter Try.func12, Try.ntmps12
  go_wp2_with (first
    | (go_at_call 10; refine HC.out.mono ?_; rintro e w1 ⟨v1, rfl, ho1, hb1⟩)
    | fail)
  go_loopw [3, 4] (fun a i wr => ∃ k : Nat, k ≤ 64 ∧ i = .int .i64 (k : Int) ∧ Hid (wr.ownsRow w.heap.size 3 1 a (n + k) (ints (xs ++ mks k)) ∧ Below w.heap.size w wr)) (fun _ i _ => 64 - (intOf i).toNat)
  case atStart => exact ⟨0, Nat.zero_le _, rfl, (by simpa [mks] using ho1), hb1⟩
  case round =>
    obtain ⟨k, hk, rfl, HI⟩ := hrel
    clear ho1 hb1
    by_cases hlt : k < 64
    · go_wp2_with (first
        | (at_builtin; refine app_i (w0 := w) rfl _ _ rfl _ (n + k) (xs ++ mks k) rfl (HI.out.1.alloc _) (balloc HI.out.2) _ 1 1 [-700 - (k : Int)] rfl (Rw.rd (blk_one _) rfl (Nat.le_refl _)) (by omega) ?_; intro a2 w2 HO2 HB2)
        | fail)
      refine ⟨⟨k + 1, by omega, by go_num, ?_, HB2.out⟩, by simp [intOf]; omega⟩
      have := HO2.out
      rw [List.append_assoc] at this
      exact this
    · obtain rfl : k = 64 := by omega
      go_wp2
      go_ret
      exact ⟨_, rfl, HI.out.1, HI.out.2⟩
set_option maxHeartbeats 2000000 in
theorem kept_any {a1 a2 : Option Addr} {n c d : Nat} {xs : List Int} (h1 : RdI w a1 (n + 64) c (xs ++ mks 64)) (h2 : RdI w a2 n d xs) (hn : n ≤ 17592186043904) : Calls Try.prog 16 #[.slice a1 (n + 64) c, .slice a2 n d] w fun e w' => e = .returned (.bool true) ∧ Below w.heap.size w w' := by
  have hl := h2.len
  have hcap := h1.cap
  have ht := h1.take (m := n) (by omega)
  rw [← hl, List.take_left, hl] at ht
  have HS : Hid (Calls Try.prog 40 #[.slice a1 n c, .slice a2 n d] w fun e w' => e = .returned (.bool true) ∧ Below w.heap.size w w') := same_yes ht h2 (by omega)
  have HM : Hid (∀ k, k < 64 → ∃ b off, a1 = some ⟨b, off, none⟩ ∧ w.cell? ⟨b, off + (n + k), none⟩ = some (.int .i64 (-700 - (k : Int)))) := fun k hk => by
    obtain ⟨b, off, e1, e2⟩ := h1.at (i := n + k) (by omega)
    refine ⟨b, off, e1, e2.trans ?_⟩
    congr 2
    rw [← mks_at 64 k hk]
    simp only [List.getD, List.getElem?_append_right (show xs.length ≤ n + k by omega), hl]
    rw [show n + k - n = k by omega]
  clear h1 h2 ht hl
  go_enter Try.func16, Try.ntmps16
  go_wp2
  go_loop [6] (fun i => ∃ k : Nat, k ≤ 64 ∧ i = .int .i64 (k : Int)) (fun i => 64 - (intOf i).toNat)
  case atStart => exact ⟨0, Nat.zero_le _, rfl⟩
  case round =>
    obtain ⟨k, hk, rfl⟩ := hrel
    by_cases hlt : k < 64
    · obtain ⟨b, off, e1, e2⟩ := HM.out k hlt
      rw [e1]
      clear e1
      have i1 : (0 : Int) ≤ (n : Int) + (k : Int) := by omega
      have i2 : (n : Int) + (k : Int) < (n : Int) + 64 := by omega
      go_wp2
      go_round
      case rel => exact ⟨k + 1, by omega, by go_num⟩
      case measure => simp [intOf]; omega
    · obtain rfl : k = 64 := by omega
      go_wp2_with (first
        | (go_at_call 40; refine HS.out.mono ?_; rintro e w2 ⟨rfl, hb2⟩)
        | fail)
      go_ret
      exact ⟨rfl, hb2⟩
end
end Go.Proofs.Ytapenemfnngniaa.Qm
