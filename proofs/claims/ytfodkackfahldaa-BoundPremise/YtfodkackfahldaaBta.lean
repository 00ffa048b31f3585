import Derived.Test.YtfodkackfahldaaBse
namespace Go.Proofs.Ytfodkackfahldaa.Lo
open Go.RowKit
set_option linter.unusedVariables false
set_option linter.unusedSimpArgs false

def rv (b : Nat → Bool) (s : Nat → Int) (i : Nat) : Value := if i = 0 then .int .i64 (s 0) else if i < 289 then .bool (b i) else .int .i64 (s i)
def rvl (b : Nat → Bool) (s : Nat → Int) : List Value := (List.range 545).map (rv b s)
theorem rvl_len (b : Nat → Bool) (s : Nat → Int) : (rvl b s).length = 545 := by simp [rvl]
theorem rvl_one (b : Nat → Bool) (s : Nat → Int) : ∀ u ∈ rvl b s, u.oneCell' = true := by
  intro u hu
  obtain ⟨i, _, rfl⟩ := List.mem_map.1 hu
  unfold rv
  split
  · rfl
  · split <;> rfl
theorem rvl_at (b : Nat → Bool) (s : Nat → Int) {i : Nat} (h : i < 545) : (rvl b s)[i]? = some (rv b s i) := by simp [rvl, h]
def upB (b : Nat → Bool) (i : Nat) (x : Bool) : Nat → Bool := fun j => if j = i then x else b j
theorem rvl_setB (b : Nat → Bool) (s : Nat → Int) {i : Nat} (x : Bool) (h1 : 1 ≤ i) (h2 : i < 289) : (rvl b s).set i (.bool x) = rvl (upB b i x) s := by
  apply List.ext_getElem
  · simp [rvl]
  · intro j h3 h4
    simp [rvl] at h3 h4 ⊢
    rw [List.getElem_set]
    by_cases e : i = j
    · subst e
      simp [rv, upB, show ¬ i = 0 by omega, h2]
    · simp [e, rv, upB, show ¬ j = i from fun h => e h.symm]
theorem rvl_setI (b : Nat → Bool) (s : Nat → Int) {i : Nat} (x : Int) (h1 : 289 ≤ i) : (rvl b s).set i (.int .i64 x) = rvl b (upF s i x) := by
  apply List.ext_getElem
  · simp [rvl]
  · intro j h3 h4
    simp [rvl] at h3 h4 ⊢
    rw [List.getElem_set]
    by_cases e : i = j
    · subst e
      simp [rv, upF, show ¬ i = 0 by omega, show ¬ i < 289 by omega]
    · simp [e, rv, upF, show ¬ j = i from fun h => e h.symm]
      by_cases e0 : j = 0
      · subst e0; simp [show ¬ 0 = i by omega]
      · simp [e0]
theorem rvl_congr {b b' : Nat → Bool} {s s' : Nat → Int} (h : ∀ i, i < 289 → b i = b' i) (h' : ∀ i, i < 545 → s i = s' i) : rvl b s = rvl b' s' := by
  apply List.ext_getElem
  · simp [rvl]
  · intro j h3 h4
    simp [rvl] at h3 h4 ⊢
    unfold rv
    split
    · rw [h' 0 (by omega)]
    · split
      · rw [h j (by assumption)]
      · rw [h' j h3]
def Sb (w : World) (k : Nat) (b : Nat → Bool) (s : Nat → Int) : Prop := w.heap[k]? = some (.cells (rvl b s).toArray 87 (0, 0))
section
variable {w w' : World} {k : Nat} {b : Nat → Bool} {s : Nat → Int}
theorem Sb.on (h : Sb w k b s) (hb : Below w.heap.size w w') : Sb w' k b s := blk_on hb h
theorem Sb.lt (h : Sb w k b s) : k < w.heap.size := lt_heap_of h
theorem Sb.no (h : Sb w k b s) : w.cell? ⟨k, 0, none⟩ = some (.int .i64 (s 0)) := by
  rw [blk_cell h]
  simpa [rv] using rvl_at b s (i := 0) (by omega)
theorem Sb.bo (h : Sb w k b s) {i : Nat} (h1 : 1 ≤ i) (h2 : i < 289) : w.cell? ⟨k, i, none⟩ = some (.bool (b i)) := by
  rw [blk_cell h]
  have := rvl_at b s (i := i) (by omega)
  simpa [rv, show ¬ i = 0 by omega, h2] using this
theorem Sb.io (h : Sb w k b s) {i : Nat} (h1 : 289 ≤ i) (h2 : i < 545) : w.cell? ⟨k, i, none⟩ = some (.int .i64 (s i)) := by
  rw [blk_cell h]
  have := rvl_at b s (i := i) (by omega)
  simpa [rv, show ¬ i = 0 by omega, show ¬ i < 289 by omega] using this
theorem Sb.fz (h : Sb w k b s) (i : Nat) : w.frozen? ⟨k, i, none⟩ = false := frozen_of_row w k i _ _ h
theorem Sb.setB (h : Sb w k b s) {i : Nat} (x : Bool) (h1 : 1 ≤ i) (h2 : i < 289) : Sb (w.setCell ⟨k, i, none⟩ (.bool x)) k (upB b i x) s := by
  refine Mb.blk_set h ?_
  rw [List.setIfInBounds_toArray, rvl_setB b s x h1 h2]
theorem Sb.setI (h : Sb w k b s) {i : Nat} (x : Int) (h1 : 289 ≤ i) : Sb (w.setCell ⟨k, i, none⟩ (.int .i64 x)) k b (upF s i x) := by
  refine Mb.blk_set h ?_
  rw [List.setIfInBounds_toArray, rvl_setI b s x h1]
theorem Sb.rng (h : Sb w k b s) : w.rangeAt k 0 (rvl b s) := Ln.blk_range h
theorem Sb.new (w : World) (b : Nat → Bool) (s : Nat → Int) : Sb (w.alloc (.cells (rvl b s).toArray 87)) w.heap.size b s := heap_new _ _ _
end
theorem iSt : (Try.prog.info? 87).map (·.size) = some 545 := by kernel_rfl
theorem zSt : (Try.prog.info? 87).map (·.zero) = some (some (.agg (rvl (fun _ => false) (fun _ => 0)).toArray)) := by kernel_rfl
theorem bSt (N : Int) : Try.prog.built 87 [(0, .int .i64 N)] = some (rvl (fun _ => false) (fun i => if i = 0 then N else 0)).toArray := by kernel_rfl
set_option maxRecDepth 100000 in
theorem snode_any (b : Nat → Bool) (s : Nat → Int) (p : Int) (w : World) : Calls Try.prog 58 #[.agg (rvl b s).toArray, .int .i64 p] w fun e w' => e = .returned (.bool (decide (0 ≤ p) && decide (p < s 0))) ∧ Below w.heap.size w w' := by
  have HB : Hid (Below w.heap.size w (w.alloc (.cells (rvl b s).toArray 87))) := bsp _ _ _
  have c0 := (Sb.new w b s).no
  generalize hW : w.alloc (.cells (rvl b s).toArray 87) = W at *
  generalize s 0 = n at *
  by_cases h0 : 0 ≤ p
  · by_cases h1 : p < n
    · go_enter Try.func58, Try.ntmps58
      go_wp2_with fail
      go_ret
      exact ⟨by simp [h0, h1], HB.out⟩
    · go_enter Try.func58, Try.ntmps58
      go_wp2_with fail
      go_ret
      exact ⟨by simp [h0, h1], HB.out⟩
  · go_enter Try.func58, Try.ntmps58
    go_wp2_with fail
    go_ret
    exact ⟨by rw [decide_eq_false (by omega : ¬ 0 ≤ p)]; rfl, HB.out⟩
def ndB (s : Nat → Int) (p : Int) : Bool := decide (0 ≤ p) && decide (p < s 0)
set_option maxRecDepth 100000 in
set_option maxHeartbeats 1000000 in
theorem spath_any (b : Nat → Bool) (s : Nat → Int) (p q : Int) (w : World) : Calls Try.prog 57 #[.agg (rvl b s).toArray, .int .i64 p, .int .i64 q] w fun e w' => e = .returned (.bool (ndB s p && ndB s q && !(p == q))) ∧ Below w.heap.size w w' := by
  have HB : Hid (Below w.heap.size w (w.alloc (.cells (rvl b s).toArray 87))) := bsp _ _ _
  have hS := Sb.new w b s
  generalize hW : w.alloc (.cells (rvl b s).toArray 87) = W at *
  have HS : Hid (Sb W w.heap.size b s) := hS
  have HR : Hid (W.rangeAt w.heap.size 0 (rvl b s)) := hS.rng
  have HN : Hid (∀ D x, Calls Try.prog 58 #[.agg (rvl b s).toArray, .int .i64 x] D fun e w' => e = .returned (.bool (ndB s x)) ∧ Below D.heap.size D w') := (show ∀ D x, _ from fun D x => snode_any b s x D)
  clear hS
  generalize hp : ndB s p = bp
  have HP : Hid (ndB s p = bp) := hp
  cases bp
  · clear hp
    go_enter Try.func57, Try.ntmps57
    go_wp2_with (first | (refine Ln.at_load 87 (.tmp 3) rfl ?_; refine Ln.load_mid 87 (.tmp 3) HR.out _ Try.underlying87 rfl (by rw [rvl_len]; exact iSt) rfl rfl rfl ?_) | fail)
    refine (HN.out _ _).mono ?_
    rintro e w1 ⟨rfl, hb1⟩
    rw [HP.out]
    have HB1 : Hid (Below w.heap.size w w1) := bst HB.out hb1
    clear hb1
    go_wp2_with fail
    go_ret
    exact ⟨by simp, HB1.out⟩
  · generalize hq : ndB s q = bq
    have HQ : Hid (ndB s q = bq) := hq
    clear hp hq
    go_enter Try.func57, Try.ntmps57
    go_wp2_with (first | (refine Ln.at_load 87 (.tmp 3) rfl ?_; refine Ln.load_mid 87 (.tmp 3) HR.out _ Try.underlying87 rfl (by rw [rvl_len]; exact iSt) rfl rfl rfl ?_) | fail)
    refine (HN.out _ _).mono ?_
    rintro e w1 ⟨rfl, hb1⟩
    rw [HP.out]
    have HB1 : Hid (Below w.heap.size w w1) := bst HB.out hb1
    have HR1 : Hid (w1.rangeAt w.heap.size 0 (rvl b s)) := (HS.out.on hb1).rng
    clear hb1
    go_wp2_with (first | (refine Ln.at_load 87 (.tmp 3) rfl ?_; refine Ln.load_mid 87 (.tmp 3) HR1.out _ Try.underlying87 rfl (by rw [rvl_len]; exact iSt) rfl rfl rfl ?_) | fail)
    refine (HN.out _ _).mono ?_
    rintro e w2 ⟨rfl, hb2⟩
    rw [HQ.out]
    have HB2 : Hid (Below w.heap.size w w2) := bst HB1.out hb2
    clear hb2 HR HR1 HS HN
    cases bq
    · go_wp2_with fail
      go_ret
      exact ⟨by simp, HB2.out⟩
    · go_wp2_with fail
      all_goals go_ret
      all_goals exact ⟨by simp_all [bne], HB2.out⟩
set_option maxRecDepth 100000 in
theorem rin_any (ao : Option Addr) (n c : Nat) (xs : List Int) (x : Int) (w : World) (hr : Ri w ao n c xs) (hn : n ≤ 140737488355328) : Calls Try.prog 60 #[.slice ao n c, .int .i64 x] w fun e w' => e = .returned (.bool (decide (x ∈ xs))) ∧ w = w' := by
  have hl : xs.length = n := hr.1
  have HR : Hid (Ri w ao n c xs) := hr
  clear hr
  obtain ⟨d, hd⟩ : ∃ d, decide (x ∈ xs) = d := ⟨_, rfl⟩
  rw [hd]
  have HD : Hid (decide (x ∈ xs) = d) := hd
  clear hd
  go_enter Try.func60, Try.ntmps60
  go_wp2_with fail
  go_loopw [5] (fun y wr => ∃ (j : Nat), j ≤ n ∧ y = .int .i64 j ∧ Hid (¬ x ∈ xs.take j) ∧ w = wr) (fun y _ => n - (intOf y).toNat)
  case atStart => exact ⟨0, Nat.zero_le _, rfl, (show ¬ _ from by simp), rfl⟩
  case round =>
    obtain ⟨j, hj, rfl, hne, rfl⟩ := hrel
    by_cases hjn : j < n
    · have j1 : (0 : Int) ≤ (j : Int) := Int.natCast_nonneg _
      have j3 : (j : Int) < (n : Int) := by omega
      rcases HR.out.2.2 with h0 | ⟨lb, lo, rfl, hlc⟩
      · omega
      have e1 := hlc j hjn
      have HT : Hid (x ∈ xs.take (j + 1) ↔ x ∈ xs.take j ∨ xs.getD j 0 = x) := (show _ ↔ _ from by
        rw [List.take_add_one, List.getElem?_eq_getElem (by omega), List.getD_eq_getElem?_getD, List.getElem?_eq_getElem (by omega)]
        simp only [Option.toList_some, List.mem_append, List.mem_singleton, Option.getD_some]
        exact ⟨fun h => h.elim .inl (fun h => .inr h.symm), fun h => h.elim .inl (fun h => .inr h.symm)⟩)
      have HM : Hid (xs.getD j 0 = x → x ∈ xs) := (show _ → _ from fun h => by
        rw [← h, List.getD_eq_getElem?_getD, List.getElem?_eq_getElem (by omega)]
        exact List.getElem_mem _)
      clear hlc
      generalize xs.getD j 0 = y at *
      by_cases hy : y = x
      · subst hy
        obtain rfl : true = d := by rw [← HD.out]; exact (decide_eq_true (HM.out rfl)).symm
        clear HT HM HD
        go_wp2_with fail
        go_ret
        exact ⟨rfl, rfl⟩
      · have hy1 : (y == x) = false := by rw [beq_eq_false_iff_ne]; exact hy
        have HN : Hid (¬ x ∈ xs.take (j + 1)) := (show ¬ _ from fun h => (HT.out.1 h).elim hne.out hy)
        clear HT HM hy
        go_wp2_with fail
        go_roundw
        case rel => exact ⟨j + 1, by omega, by go_num, HN, (by trivial)⟩
        case measure => simp [intOf]; omega
    · obtain rfl : n = j := by omega
      obtain rfl : false = d := by rw [← HD.out]; exact (decide_eq_false (fun h => hne.out (by rw [List.take_of_length_le (by omega)]; exact h))).symm
      clear HD
      go_wp2_with fail
      go_ret
      exact ⟨rfl, rfl⟩
def brB (xs : List Int) (kd a : Int) : Bool := if inR kd 12 17 then true else if k5 kd then decide (a ∈ xs) else false
set_option maxRecDepth 100000 in
set_option maxHeartbeats 1000000 in
theorem bars_any (e : Em) (ao : Option Addr) (n c : Nat) (xs : List Int) (w : World) (hr : Ri w ao n c xs) (hn : n ≤ 140737488355328) : Calls Try.prog 55 #[.agg e.cs.toArray, .slice ao n c] w fun r w' => r = .returned (.bool (brB xs e.k e.a)) ∧ Below w.heap.size w w' := by
  have HB : Hid (Below w.heap.size w (w.alloc (.cells e.cs.toArray 36))) := bsp _ _ _
  have hk := heap_new w e.cs.toArray 36
  generalize hW : w.alloc (.cells e.cs.toArray 36) = W at *
  have c0 : W.cell? ⟨w.heap.size, 0, none⟩ = some (.int .i64 e.k) := blk_cell hk 0
  have c1 : W.cell? ⟨w.heap.size, 1, none⟩ = some (.int .i64 e.a) := blk_cell hk 1
  have HI : Hid (Calls Try.prog 60 #[.slice ao n c, .int .i64 e.a] W fun r w' => r = .returned (.bool (decide (e.a ∈ xs))) ∧ W = w') := rin_any ao n c xs e.a W (hr.below HB.out) hn
  clear hk hr
  unfold brB
  generalize decide (e.a ∈ xs) = d at *
  generalize e.k = kd at *
  generalize e.a = a at *
  by_cases h1 : inR kd 12 17 = true
  · rw [if_pos h1]
    have h2 : kd = 12 ∨ kd = 13 ∨ kd = 14 ∨ kd = 15 ∨ kd = 16 ∨ kd = 17 := by rw [inR_iff] at h1; omega
    clear h1
    rcases h2 with rfl | rfl | rfl | rfl | rfl | rfl
    all_goals
      go_enter Try.func55, Try.ntmps55
      go_wp2_with fail
      go_ret
      exact ⟨rfl, HB.out⟩
  · rw [if_neg h1]
    have hn2 : ¬ (12 ≤ kd ∧ kd ≤ 17) := fun h => h1 (inR_iff.2 h)
    by_cases h5 : k5 kd
    · rw [if_pos h5]
      unfold k5 at h5
      clear h1 hn2
      rcases h5 with rfl | rfl | rfl | rfl | rfl
      all_goals
        go_enter Try.func55, Try.ntmps55
        go_wp2_with (first | (go_at_call 60; refine HI.out.mono ?_; rintro e w' ⟨rfl, rfl⟩) | fail)
        go_ret
        exact ⟨rfl, HB.out⟩
    · rw [if_neg h5]
      unfold k5 at h5
      have d2 : (kd == 2) = false := by rw [beq_eq_false_iff_ne]; omega
      have d5 : (kd == 5) = false := by rw [beq_eq_false_iff_ne]; omega
      have d6 : (kd == 6) = false := by rw [beq_eq_false_iff_ne]; omega
      have d7 : (kd == 7) = false := by rw [beq_eq_false_iff_ne]; omega
      have d18 : (kd == 18) = false := by rw [beq_eq_false_iff_ne]; omega
      have d12 : (kd == 12) = false := by rw [beq_eq_false_iff_ne]; omega
      have d13 : (kd == 13) = false := by rw [beq_eq_false_iff_ne]; omega
      have d14 : (kd == 14) = false := by rw [beq_eq_false_iff_ne]; omega
      have d15 : (kd == 15) = false := by rw [beq_eq_false_iff_ne]; omega
      have d16 : (kd == 16) = false := by rw [beq_eq_false_iff_ne]; omega
      have d17 : (kd == 17) = false := by rw [beq_eq_false_iff_ne]; omega
      clear h1 h5 hn2
      go_enter Try.func55, Try.ntmps55
      go_wp2_with fail
      go_ret
      exact ⟨rfl, HB.out⟩
end Go.Proofs.Ytfodkackfahldaa.Lo
