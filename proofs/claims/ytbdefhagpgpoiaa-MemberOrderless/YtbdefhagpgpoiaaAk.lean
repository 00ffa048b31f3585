import Derived.Test.YtbdefhagpgpoiaaAg
namespace Go.Proofs.Ytbdefhagpgpoiaa.Mb
open Go.RowKit
set_option linter.unusedVariables false
set_option maxRecDepth 100000
set_option linter.unusedSimpArgs false
section
variable {A A' : Ag} {w w' W : World} {B : Nat} {T : Int}
def RdM (w : World) (ao : Option Addr) (k : Nat) (ms : List Int) : Prop :=
  ms.length = 3 * k ∧ (k = 0 ∨ ∃ g, ao = some ⟨g, 0, none⟩ ∧ ∀ j, j < 3 * k → w.cell? ⟨g, j, none⟩ = some (.int .i64 (ms.getD j 0)))
theorem RdM.still {ao : Option Addr} {k : Nat} {ms : List Int} (h : RdM w ao k ms) (hb : Below w.heap.size w w') : RdM w' ao k ms := by
  obtain ⟨h1, h3⟩ := h
  refine ⟨h1, h3.elim (fun hh => .inl hh) (fun hh => .inr ?_)⟩
  obtain ⟨g, rfl, hc⟩ := hh
  exact ⟨g, rfl, fun i hi => below_at hb (hc i hi)⟩
theorem own_rdM {ao : Option Addr} {k c : Nat} {ms : List Int} (h : w.ownsRow B 86 3 (.slice ao k c) k (ints ms)) : RdM w ao k ms := by
  have hl : ms.length = 3 * k := by have := h.1; rw [ints_len] at this; omega
  refine ⟨hl, ?_⟩
  by_cases h0 : k = 0
  · exact .inl h0
  · rcases h.2 with ⟨h1, h2⟩ | ⟨g, cap, cur, hv, hB, hg, hnc, hcm, hcs, htk⟩
    · omega
    · simp at hv
      refine .inr ⟨g, hv.1, fun i hi => ?_⟩
      rw [blk_cell hg i]
      have e1 : (cur.toList.take (k * 3))[i]? = (ints ms)[i]? := by rw [htk]
      rw [List.getElem?_take_of_lt (by omega)] at e1
      rw [← Array.getElem?_toList, e1]
      simp [ints, List.getD, show i < ms.length by omega]
theorem RdM.at {ao : Option Addr} {k : Nat} {ms : List Int} (h : RdM w ao k ms) {i : Nat} (hi : i < k) : ∃ g, ao = some ⟨g, 0, none⟩ ∧ w.rangeAt g (i * 3) (ints [ms.getD (i * 3) 0, ms.getD (i * 3 + 1) 0, ms.getD (i * 3 + 2) 0]) := by
  obtain ⟨h1, h3⟩ := h
  rcases h3 with h3 | ⟨g, h4, h5⟩
  · omega
  · refine ⟨g, h4, fun j v hv => ?_⟩
    match j, hv with
    | 0, hv => cases hv; exact h5 (i * 3) (by omega)
    | 1, hv => cases hv; exact h5 (i * 3 + 1) (by omega)
    | 2, hv => cases hv; exact h5 (i * 3 + 2) (by omega)
    | j + 3, hv => cases hv
theorem info_mem : (Try.prog.info? 86).map (·.size) = some 3 := by kernel_rfl
def lvB (q inc cid : Int) (a b c : Int) : Bool := (a == q) && (b == inc) && decide (c < cid)
set_option maxHeartbeats 2000000 in
theorem leaves1_any (q inc cid a b c : Int) (kq ki kc : Nat) (h1 : w.cell? ⟨kq, 0, none⟩ = some (.int .i64 q)) (h2 : w.cell? ⟨ki, 0, none⟩ = some (.int .i64 inc)) (h3 : w.cell? ⟨kc, 0, none⟩ = some (.int .i64 cid)) : Calls Try.prog 64 #[.agg (ints [a, b, c]).toArray, .pointer (some ⟨kq, 0, none⟩), .pointer (some ⟨ki, 0, none⟩), .pointer (some ⟨kc, 0, none⟩)] w fun e w' => e = .returned (.bool (lvB q inc cid a b c)) ∧ Below w.heap.size w w' := by
  generalize hW1 : w.alloc (.cells (ints [a, b, c]).toArray 86) = W1
  have b1 : Below w.heap.size w W1 := hW1 ▸ balloc (Below.refl _ _)
  have k1 : Rw W1 w.heap.size 86 [a, b, c] := by unfold Rw; rw [← hW1]; exact heap_alloc_new w _
  have d0 : W1.cell? ⟨w.heap.size, 0, none⟩ = some (.int .i64 a) := k1.cell (i := 0) (by simp)
  have d1 : W1.cell? ⟨w.heap.size, 1, none⟩ = some (.int .i64 b) := k1.cell (i := 1) (by simp)
  have d2 : W1.cell? ⟨w.heap.size, 2, none⟩ = some (.int .i64 c) := k1.cell (i := 2) (by simp)
  have c1 := below_at b1 h1
  have c2 := below_at b1 h2
  have c3 := below_at b1 h3
  have Hb : Hid (Below w.heap.size w W1) := b1
  have Hv : Hid (lvB q inc cid a b c = ((a == q) && (b == inc) && decide (c < cid))) := rfl
  clear k1 b1 h1 h2 h3
  by_cases e1 : a = q
  · have f1 : (a == q) = true := by simpa using e1
    by_cases e2 : b = inc
    · have f2 : (b == inc) = true := by simpa using e2
      subst e1 e2
      go_enter Try.func64, Try.ntmps64
      go_wp2
      all_goals (go_ret; exact ⟨by rw [Hv.out]; simp_all, Hb.out⟩)
    · have f2 : (b == inc) = false := by simpa using e2
      subst e1
      go_enter Try.func64, Try.ntmps64
      go_wp2
      all_goals (go_ret; exact ⟨by rw [Hv.out, f2]; simp, Hb.out⟩)
  · have f1 : (a == q) = false := by simpa using e1
    go_enter Try.func64, Try.ntmps64
    go_wp2
    all_goals (go_ret; exact ⟨by rw [Hv.out, f1]; simp, Hb.out⟩)
def lvs (q inc cid : Int) (ms : List Int) (i : Nat) : Bool := lvB q inc cid (ms.getD (i * 3) 0) (ms.getD (i * 3 + 1) 0) (ms.getD (i * 3 + 2) 0)
set_option maxHeartbeats 2000000 in
theorem idx_any {ao : Option Addr} {k cp : Nat} {ms : List Int} (hr : RdM w ao k ms) (hk16 : k ≤ 16) (q inc cid : Int) (kq ki kc : Nat) (h1 : w.cell? ⟨kq, 0, none⟩ = some (.int .i64 q)) (h2 : w.cell? ⟨ki, 0, none⟩ = some (.int .i64 inc)) (h3 : w.cell? ⟨kc, 0, none⟩ = some (.int .i64 cid)) : Calls Try.prog 66 #[.slice ao k cp, .func (.func 64) #[] #[.pointer (some ⟨kq, 0, none⟩), .pointer (some ⟨ki, 0, none⟩), .pointer (some ⟨kc, 0, none⟩)]] w fun e w' => ∃ r : Int, e = .returned (.int .i64 r) ∧ decide (0 ≤ r) = (List.range k).any (lvs q inc cid ms) ∧ Below w.heap.size w w' := by
  have HR : Hid (RdM w ao k ms) := hr
  have C1 : Hid (w.cell? ⟨kq, 0, none⟩ = some (.int .i64 q)) := h1
  have C2 : Hid (w.cell? ⟨ki, 0, none⟩ = some (.int .i64 inc)) := h2
  have C3 : Hid (w.cell? ⟨kc, 0, none⟩ = some (.int .i64 cid)) := h3
  clear hr h1 h2 h3
  go_enter Try.func66, Try.ntmps66
  go_wp2
  go_loopw [8] (fun i wr => ∃ j : Nat, j ≤ k ∧ i = .int .i64 j ∧ (List.range j).any (lvs q inc cid ms) = false ∧ Below w.heap.size w wr) (fun i _ => k - (intOf i).toNat)
  case atStart => exact ⟨0, Nat.zero_le _, rfl, by simp, Below.refl _ _⟩
  case round =>
    obtain ⟨j, hj, rfl, hno, hb⟩ := hrel
    have HB : Hid (Below w.heap.size w wr) := hb
    by_cases hlt : j < k
    · obtain ⟨g, hg, hc⟩ := (HR.out.still hb).at hlt
      have HC : Hid (wr.rangeAt g (j * 3) (ints [ms.getD (j * 3) 0, ms.getD (j * 3 + 1) 0, ms.getD (j * 3 + 2) 0])) := hc
      have HM : Hid (Calls Try.prog 64 #[.agg (ints [ms.getD (j * 3) 0, ms.getD (j * 3 + 1) 0, ms.getD (j * 3 + 2) 0]).toArray, .pointer (some ⟨kq, 0, none⟩), .pointer (some ⟨ki, 0, none⟩), .pointer (some ⟨kc, 0, none⟩)] wr fun e w' => e = .returned (.bool (lvs q inc cid ms j)) ∧ Below wr.heap.size wr w') := leaves1_any q inc cid _ _ _ kq ki kc (below_at hb C1.out) (below_at hb C2.out) (below_at hb C3.out)
      have i1 : (0 : Int) ≤ (j : Int) := Int.natCast_nonneg _
      have i2 : (j : Int) < (k : Int) := by omega
      have Hyes : Hid (lvs q inc cid ms j = true → (List.range k).any (lvs q inc cid ms) = true) := fun h => List.any_eq_true.2 ⟨j, List.mem_range.2 hlt, h⟩
      have Hno : Hid (lvs q inc cid ms j = false → (List.range (j + 1)).any (lvs q inc cid ms) = false) := fun h => by
        rw [List.range_succ, List.any_append, hno]
        simp [h]
      subst hg
      obtain ⟨l3, hl3', hl3⟩ : ∃ l3, [ms.getD (j * 3) 0, ms.getD (j * 3 + 1) 0, ms.getD (j * 3 + 2) 0] = l3 ∧ (ints l3).length = 3 := ⟨_, rfl, rfl⟩
      rw [hl3'] at HC HM
      clear hl3'
      clear hno hb hc
      cases hx : lvs q inc cid ms j with
      | true =>
        rw [hx] at HM
        go_wp2_with (first
          | (go_at_call 64; refine HM.out.mono ?_; rintro e w2 ⟨rfl, hb2⟩)
          | (refine load_mid 86 (.tmp 14) HC.out _ Try.underlying86 rfl (by rw [hl3]; exact info_mem) rfl rfl rfl ?_)
          | fail)
        go_ret
        exact ⟨(j : Int), rfl, by rw [Hyes.out hx]; simp, bstep HB.out hb2⟩
      | false =>
        rw [hx] at HM
        go_wp2_with (first
          | (go_at_call 64; refine HM.out.mono ?_; rintro e w2 ⟨rfl, hb2⟩)
          | (refine load_mid 86 (.tmp 14) HC.out _ Try.underlying86 rfl (by rw [hl3]; exact info_mem) rfl rfl rfl ?_)
          | fail)
        exact ⟨⟨j + 1, by omega, by go_num, Hno.out hx, bstep HB.out hb2⟩, by simp [intOf]; omega⟩
    · obtain rfl : j = k := by omega
      have Hn : Hid ((List.range j).any (lvs q inc cid ms) = false) := hno
      clear hno hb
      go_wp2
      go_ret
      exact ⟨-1, rfl, by rw [Hn.out]; decide, HB.out⟩
set_option maxHeartbeats 1000000 in
theorem has_any {ao : Option Addr} {k cp : Nat} {ms : List Int} (hr : RdM w ao k ms) (hk16 : k ≤ 16) (q inc cid : Int) (kq ki kc : Nat) (h1 : w.cell? ⟨kq, 0, none⟩ = some (.int .i64 q)) (h2 : w.cell? ⟨ki, 0, none⟩ = some (.int .i64 inc)) (h3 : w.cell? ⟨kc, 0, none⟩ = some (.int .i64 cid)) : Calls Try.prog 63 #[.slice ao k cp, .func (.func 64) #[] #[.pointer (some ⟨kq, 0, none⟩), .pointer (some ⟨ki, 0, none⟩), .pointer (some ⟨kc, 0, none⟩)]] w fun e w' => e = .returned (.bool ((List.range k).any (lvs q inc cid ms))) ∧ Below w.heap.size w w' := by
  have HI := idx_any (cp := cp) hr hk16 q inc cid kq ki kc h1 h2 h3
  clear hr h1 h2 h3
  go_enter Try.func63, Try.ntmps63
  go_wp2_with (first | (go_at_call 66; refine HI.mono ?_; rintro e w2 ⟨r, rfl, hr, hb2⟩) | fail)
  all_goals (go_ret; exact ⟨by rw [← hr]; simp; try omega, hb2⟩)
end
end Go.Proofs.Ytbdefhagpgpoiaa.Mb
