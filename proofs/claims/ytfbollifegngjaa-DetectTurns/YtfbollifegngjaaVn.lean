import Derived.Test.YtfbollifegngjaaVm
namespace Go.Proofs.Ytfbollifegngjaa.Dt
open Go.RowKit
set_option linter.unusedVariables false
set_option maxRecDepth 100000
set_option linter.unusedSimpArgs false
section
variable {D D' : De} {w w' W V : World} {B m : Nat}
set_option maxHeartbeats 1000000 in
theorem rnew_ok (n s : Nat) (inc base step lim : Int) (hok : newOk n s inc base step lim = true) : Calls Try.prog 19 #[.int .i64 n, .int .i64 s, .int .i64 inc, .int .i64 base, .int .i64 step, .int .i64 lim] w fun e w' => e = .returned (.tuple #[.pointer (some ⟨w.heap.size, 0, none⟩), .int .i64 0]) ∧ Below w.heap.size w w' ∧ w'.heap[w.heap.size]? = some (.cells #[.int .i64 (n : Int), .int .i64 (s : Int), .int .i64 inc, .int .i64 base, .int .i64 step, .int .i64 lim, .slice none 0 0] 88 (0, 0)) := by
  unfold newOk at hok
  simp only [Bool.and_eq_true] at hok
  obtain ⟨b1, b2, b3, b4, b5, b6⟩ := hok
  obtain ⟨a1, a2⟩ := of_decide_eq_true b1
  obtain ⟨a3, a4⟩ := of_decide_eq_true b2
  obtain ⟨a5, a6⟩ := of_decide_eq_true b3
  obtain ⟨a7, a8⟩ := of_decide_eq_true b4
  obtain ⟨a9, a10⟩ := of_decide_eq_true b5
  obtain ⟨a11, a12⟩ := of_decide_eq_true b6
  have a4' : (s : Int) < (n : Int) := by omega
  clear b1 b2 b3 b4 b5 b6 a4
  have hA := heap_alloc_new w (.cells #[.int .i64 (n : Int), .int .i64 (s : Int), .int .i64 inc, .int .i64 base, .int .i64 step, .int .i64 lim, .slice none 0 0] 88)
  have hB : Below w.heap.size w (w.alloc (.cells #[.int .i64 (n : Int), .int .i64 (s : Int), .int .i64 inc, .int .i64 base, .int .i64 step, .int .i64 lim, .slice none 0 0] 88)) := balloc (Below.refl _ w)
  generalize hW : w.alloc (.cells #[.int .i64 (n : Int), .int .i64 (s : Int), .int .i64 inc, .int .i64 base, .int .i64 step, .int .i64 lim, .slice none 0 0] 88) = W at *
  go_enter Try.func19, Try.ntmps19
  go_wp2
  go_ret2
  exact ⟨rfl, hB, hA⟩
set_option maxHeartbeats 1000000 in
theorem copied_any {ao : Option Addr} {n c : Nat} {xs : List Int} (hr : RdI w ao n xs) (hn : n ≤ 17592186044416) : Calls Try.prog 8 #[.slice ao n c] w fun e w' => ∃ u, e = .returned u ∧ IsI w w' n xs u := by
  obtain ⟨i0, hi, hz0, hz1, hz2⟩ := info_parts info_i
  have HR : Hid (RdI w ao n xs) := hr
  have hl := hr.1
  clear hr
  go_enter Try.func8, Try.ntmps8
  go_wp2_with (first
    | (at_make; refine wpList_make_cap _ rfl _ _ 25 rfl 3 i0 (.int .i64 0) Try.underlying25 hi hz0 hz1 rfl 8 hz2 .i64 .i64 _ _ n n rfl rfl rfl rfl (Nat.le_refl _) (by omega) (by omega) ?_; intro W hW hWs hWb; have Hx : Hid (BlkI W w.heap.size (List.replicate n 0) ∧ Below w.heap.size w W) := (⟨(by have := hW.out; unfold BlkI ints; rw [List.map_replicate]; exact this), hWb⟩); clear hW hWs hWb)
    | fail)
  go_loopw [4] (fun i wr => ∃ k : Nat, k ≤ n ∧ i = .int .i64 k ∧ BlkI wr w.heap.size (xs.take k ++ List.replicate (n - k) 0) ∧ Below w.heap.size w wr) (fun i _ => n - (intOf i).toNat)
  case atStart => exact ⟨0, Nat.zero_le _, rfl, by simpa using Hx.out.1, Hx.out.2⟩
  case round =>
    obtain ⟨k, hk, rfl, ho, hb⟩ := hrel
    by_cases hlt : k < n
    · obtain ⟨g, o, hg, hc⟩ := (HR.out.still hb).at hlt
      have i1 : (0 : Int) ≤ (k : Int) := Int.natCast_nonneg _
      have i2 : (k : Int) < (n : Int) := by omega
      have e0 := ho.cell (i := k) (by simp; omega)
      have e1 := ho.fz k
      have Hs : Hid (BlkI (wr.setCell ⟨w.heap.size, k, none⟩ (.int .i64 (xs.getD k 0))) w.heap.size (xs.take (k + 1) ++ List.replicate (n - (k + 1)) 0)) := by
        have := ho.set k (xs.getD k 0)
        have e : (xs.take k ++ List.replicate (n - k) 0).set k (xs.getD k 0) = xs.take (k + 1) ++ List.replicate (n - (k + 1)) 0 := by
          rw [List.set_append_right _ _ (by simp; omega), List.take_add_one, List.append_assoc]
          have e2 : xs[k]? = some (xs.getD k 0) := by simp [List.getD, show k < xs.length by omega]
          rw [e2, show n - k = (n - (k + 1)) + 1 by omega, List.replicate_succ]
          simp [show min k xs.length = k by omega]
        rw [e] at this
        exact this
      have HB : Hid (Below w.heap.size w wr) := hb
      rw [hg]
      generalize xs.getD k 0 = x at *
      clear ho hb hg
      go_wp2
      exact ⟨⟨k + 1, by omega, by go_num, Hs.out, bset HB.out (Nat.le_refl _) _ _⟩, by simp [intOf]; omega⟩
    · obtain rfl : k = n := by omega
      rw [List.take_of_length_le (by omega), Nat.sub_self, List.replicate_zero, List.append_nil] at ho
      go_wp2
      go_ret
      exact ⟨_, rfl, w.heap.size, rfl, Nat.le_refl _, ho, hb⟩
end
end Go.Proofs.Ytfbollifegngjaa.Dt
