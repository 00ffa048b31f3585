import Derived.Test.YtfbollifegngjaaVk
namespace Go.Proofs.Ytfbollifegngjaa.Dt
open Go.RowKit
set_option linter.unusedVariables false
set_option maxRecDepth 100000
set_option linter.unusedSimpArgs false
section
variable {D D' : De} {w w' W V : World} {B m : Nat}
theorem info_p : (Try.prog.info? 70).map (fun i => (i.zero, i.size, i.bytes)) = some (some (.pointer none), 1, 8) := by kernel_rfl
def newOk (n s inc base step lim : Int) : Bool := decide (1 ≤ n ∧ n ≤ 16) && (decide (0 ≤ s ∧ s ≤ n - 1) && (decide (1 ≤ inc ∧ inc ≤ 4611686018427387904) && (decide (1 ≤ lim ∧ lim ≤ 64) && (decide (1 ≤ base ∧ base ≤ lim) && decide (1 ≤ step ∧ step ≤ 64)))))
def pe0 (base : Int) : Pe := ⟨0, 0, 0, 0, base, false, false⟩
set_option maxHeartbeats 1000000 in
theorem new_no (n s inc base step lim : Int) (hno : newOk n s inc base step lim = false) : Calls Try.prog 20 #[.int .i64 n, .int .i64 s, .int .i64 inc, .int .i64 base, .int .i64 step, .int .i64 lim] w fun e w' => e = .returned (.tuple #[.pointer none, .int .i64 1]) ∧ w = w' := by
  unfold newOk at hno
  cases b1 : decide (1 ≤ n ∧ n ≤ 16) with
  | false =>
    go_enter Try.func20, Try.ntmps20
    go_wp2_with (first | (go_at_call 25; refine (within_any _ _ _).mono ?_; rintro e w' ⟨rfl, rfl⟩; simp only [b1]) | fail)
    go_ret2
    exact ⟨rfl, rfl⟩
  | true =>
    rw [b1, Bool.true_and] at hno
    have hw : IntKind.i64.wrap (n - 1) = n - 1 := wrap_id (by have := of_decide_eq_true b1; omega) (by have := of_decide_eq_true b1; omega)
    cases b2 : decide (0 ≤ s ∧ s ≤ n - 1) with
    | false =>
      go_enter Try.func20, Try.ntmps20
      go_wp2_with (first | (go_at_call 25; refine (within_any _ _ _).mono ?_; rintro e w' ⟨rfl, rfl⟩; simp only [b1, b2]) | fail)
      go_ret2
      exact ⟨rfl, rfl⟩
    | true =>
      rw [b2, Bool.true_and] at hno
      cases b3 : decide (1 ≤ inc ∧ inc ≤ 4611686018427387904) with
      | false =>
        go_enter Try.func20, Try.ntmps20
        go_wp2_with (first | (go_at_call 25; refine (within_any _ _ _).mono ?_; rintro e w' ⟨rfl, rfl⟩; simp only [b1, b2, b3]) | fail)
        go_ret2
        exact ⟨rfl, rfl⟩
      | true =>
        rw [b3, Bool.true_and] at hno
        cases b4 : decide (1 ≤ lim ∧ lim ≤ 64) with
        | false =>
          go_enter Try.func20, Try.ntmps20
          go_wp2_with (first | (go_at_call 25; refine (within_any _ _ _).mono ?_; rintro e w' ⟨rfl, rfl⟩; simp only [b1, b2, b3, b4]) | fail)
          go_ret2
          exact ⟨rfl, rfl⟩
        | true =>
          rw [b4, Bool.true_and] at hno
          cases b5 : decide (1 ≤ base ∧ base ≤ lim) with
          | false =>
            go_enter Try.func20, Try.ntmps20
            go_wp2_with (first | (go_at_call 25; refine (within_any _ _ _).mono ?_; rintro e w' ⟨rfl, rfl⟩; simp only [b1, b2, b3, b4, b5]) | fail)
            go_ret2
            exact ⟨rfl, rfl⟩
          | true =>
            rw [b5, Bool.true_and] at hno
            have b6 := hno
            clear hno
            go_enter Try.func20, Try.ntmps20
            go_wp2_with (first | (go_at_call 25; refine (within_any _ _ _).mono ?_; rintro e w' ⟨rfl, rfl⟩; simp only [b1, b2, b3, b4, b5, b6]) | fail)
            go_ret2
            exact ⟨rfl, rfl⟩

structure NewIn (w wr : World) (n s : Nat) (inc base step lim : Int) (k : Nat) (bo bt : Nat → Nat) : Prop where
  below : Below w.heap.size w wr
  blk : wr.heap[w.heap.size + 1]? = some (.cells #[.int .i64 (s : Int), .int .i64 inc, .int .i64 0, .bool false, .slice (some ⟨w.heap.size, 0, none⟩) n n] 69 (0, 0))
  row : ∃ cs : Array Value, wr.heap[w.heap.size]? = some (.cells cs 70 (0, 0)) ∧ cs.size = n ∧ ∀ q, q < n → cs[q]? = some (.pointer (if q < k ∧ q ≠ s then some ⟨bo q, 0, none⟩ else none))
  oth : ∀ q, q < k → q ≠ s → wr.heap[bo q]? = some (.cells (ocs (bt q) (pe0 base)) 74 (0, 0))
  ris : ∀ q, q < k → q ≠ s → wr.heap[bt q]? = some (.cells #[.int .i64 base, .int .i64 step, .int .i64 lim] 91 (0, 0))
  ge : ∀ q, q < k → q ≠ s → w.heap.size ≤ bo q ∧ w.heap.size ≤ bt q
  injo : ∀ p q, p < k → p ≠ s → q < k → q ≠ s → bo p = bo q → p = q
  injt : ∀ p q, p < k → p ≠ s → q < k → q ≠ s → bt p = bt q → p = q
theorem NewIn.skip {wr : World} {n s k : Nat} {inc base step lim : Int} {bo bt : Nat → Nat} (h : NewIn w wr n s inc base step lim k bo bt) (hk : k = s) : NewIn w wr n s inc base step lim (k + 1) bo bt := by
  obtain ⟨cs, r1, r2, r3⟩ := h.row
  have e : ∀ q, q ≠ s → (q < k + 1 ↔ q < k) := fun q hq => by omega
  refine ⟨h.below, h.blk, ⟨cs, r1, r2, fun q hq => ?_⟩, fun q h1 h2 => h.oth q ((e q h2).1 h1) h2, fun q h1 h2 => h.ris q ((e q h2).1 h1) h2, fun q h1 h2 => h.ge q ((e q h2).1 h1) h2, fun p q h1 h2 h3 h4 => h.injo p q ((e p h2).1 h1) h2 ((e q h4).1 h3) h4, fun p q h1 h2 h3 h4 => h.injt p q ((e p h2).1 h1) h2 ((e q h4).1 h3) h4⟩
  rw [r3 q hq]
  by_cases h2 : q = s
  · simp [h2]
  · simp [h2, e q h2]
theorem NewIn.step {wr V : World} {n s k : Nat} {inc base step lim : Int} {bo bt : Nat → Nat} (h : NewIn w wr n s inc base step lim k bo bt) (hk : k ≠ s) (hn : k < n) {gt go : Nat} (hV : Below wr.heap.size wr V) (hgt : wr.heap.size ≤ gt) (hgo : wr.heap.size ≤ go) (ht : V.heap[gt]? = some (.cells #[.int .i64 base, .int .i64 step, .int .i64 lim] 91 (0, 0))) (ho : V.heap[go]? = some (.cells (ocs gt (pe0 base)) 74 (0, 0))) : NewIn w (V.setCell ⟨w.heap.size, k, none⟩ (.pointer (some ⟨go, 0, none⟩))) n s inc base step lim (k + 1) (upd bo k go) (upd bt k gt) := by
  obtain ⟨cs, r1, r2, r3⟩ := h.row
  have hsz := lt_heap r1
  have hst := h.below.size
  have k1 : Kept V (V.setCell ⟨w.heap.size, k, none⟩ (.pointer (some ⟨go, 0, none⟩))) (fun j => j = w.heap.size) := kset _ _ _ _ rfl
  have k2 : Kept wr (V.setCell ⟨w.heap.size, k, none⟩ (.pointer (some ⟨go, 0, none⟩))) (fun j => j = w.heap.size) := (Kept.ofBelow hV _).trans k1
  have hlo : ∀ q, q < k → q ≠ s → bo q < wr.heap.size ∧ bt q < wr.heap.size := fun q h1 h2 => ⟨lt_heap (h.oth q h1 h2), lt_heap (h.ris q h1 h2)⟩
  refine ⟨?_, k2.obj h.blk (by omega), ⟨cs.setIfInBounds k (.pointer (some ⟨go, 0, none⟩)), blk_set ((hV.block _ hsz).trans r1) rfl, by simpa using r2, fun q hq => ?_⟩, fun q h1 h2 => ?_, fun q h1 h2 => ?_, fun q h1 h2 => ?_, fun p q h1 h2 h3 h4 => ?_, fun p q h1 h2 h3 h4 => ?_⟩
  · exact bset (bstep h.below hV) (Nat.le_refl _) _ _
  · rw [Array.getElem?_setIfInBounds]
    by_cases e : k = q
    · subst e
      simp [r2, hn, hk, upd_same]
    · rw [if_neg e, r3 q hq, upd_ne _ _ (Ne.symm e)]
      have : q < k + 1 ↔ q < k := by omega
      simp [this]
  · by_cases e : q = k
    · subst e
      rw [upd_same, upd_same]
      exact k1.obj ho (by omega)
    · rw [upd_ne _ _ e, upd_ne _ _ e]
      have hq : q < k := by omega
      exact k2.obj (h.oth q hq h2) (fun e2 => by
        have := h.oth q hq h2
        rw [e2, r1] at this
        simp at this)
  · by_cases e : q = k
    · subst e
      rw [upd_same]
      exact k1.obj ht (by omega)
    · rw [upd_ne _ _ e]
      have hq : q < k := by omega
      exact k2.obj (h.ris q hq h2) (fun e2 => by
        have := h.ris q hq h2
        rw [e2, r1] at this
        simp at this)
  · by_cases e : q = k
    · subst e
      rw [upd_same, upd_same]
      exact ⟨by omega, by omega⟩
    · rw [upd_ne _ _ e, upd_ne _ _ e]
      exact h.ge q (by omega) h2
  · by_cases e : p = k <;> by_cases e2 : q = k
    · intro _; omega
    · subst e; rw [upd_same, upd_ne _ _ e2]; intro e3; have := (hlo q (by omega) h4).1; omega
    · subst e2; rw [upd_same, upd_ne _ _ e]; intro e3; have := (hlo p (by omega) h2).1; omega
    · rw [upd_ne _ _ e, upd_ne _ _ e2]; exact h.injo p q (by omega) h2 (by omega) h4
  · by_cases e : p = k <;> by_cases e2 : q = k
    · intro _; omega
    · subst e; rw [upd_same, upd_ne _ _ e2]; intro e3; have := (hlo q (by omega) h4).2; omega
    · subst e2; rw [upd_same, upd_ne _ _ e]; intro e3; have := (hlo p (by omega) h2).2; omega
    · rw [upd_ne _ _ e, upd_ne _ _ e2]; exact h.injt p q (by omega) h2 (by omega) h4
def newDe (w : World) (n s : Nat) (inc base step lim : Int) (bo bt : Nat → Nat) : De := ⟨w.heap.size + 1, w.heap.size, n, s, inc, step, lim, 0, false, bo, bt, fun _ => pe0 base⟩
theorem NewIn.fin {wr : World} {n s : Nat} {inc base step lim : Int} {bo bt : Nat → Nat} (h : NewIn w wr n s inc base step lim n bo bt) (h1 : 1 ≤ n ∧ n ≤ 16) (h2 : s < n) (h3 : 1 ≤ inc ∧ inc ≤ 4611686018427387904) (h4 : 1 ≤ lim ∧ lim ≤ 64) (h5 : 1 ≤ base ∧ base ≤ lim) (h6 : 1 ≤ step ∧ step ≤ 64) : (newDe w n s inc base step lim bo bt).Ok wr w.heap.size 0 := by
  obtain ⟨cs, r1, r2, r3⟩ := h.row
  refine ⟨h.blk, ⟨cs, r1, r2, fun q hq => ?_⟩, fun q hq => h.oth q hq.1 hq.2, fun q hq => h.ris q hq.1 hq.2, fun p q hp hq => h.injo p q hp.1 hp.2 hq.1 hq.2, fun p q hp hq => h.injt p q hp.1 hp.2 hq.1 hq.2, ⟨Nat.le_succ _, Nat.le_refl _, fun q hq => h.ge q hq.1 hq.2⟩, ⟨h1.1, h1.2, h2⟩, ⟨h3.1, h3.2, h6.1, h6.2, h4.1, h4.2, by show (0 : Int) ≤ 0; omega, by show (0 : Int) ≤ 4611686018427387904; omega⟩, fun q hq => ⟨⟨by show (0 : Int) ≤ 0; omega, by show (0 : Int) ≤ 4611686018427387904; omega⟩, ⟨by show (0 : Int) ≤ 0; omega, by show (0 : Int) ≤ 4611686018427387904; omega⟩, ⟨by show (0 : Int) ≤ 0; omega, by show (0 : Int) ≤ 65; omega⟩, ⟨by show (0 : Int) ≤ 0; omega, by show (0 : Int) ≤ ((0 : Nat) : Int); omega⟩, h5, fun e => by cases e⟩, by omega⟩
  rw [r3 q hq]
  unfold optr newDe
  by_cases e : q = s
  · simp [e]
  · have : q < n := hq
    simp [e, this]
set_option maxHeartbeats 1000000 in
theorem new_ok (n s : Nat) (inc base step lim : Int) (hok : newOk n s inc base step lim = true) : Calls Try.prog 20 #[.int .i64 n, .int .i64 s, .int .i64 inc, .int .i64 base, .int .i64 step, .int .i64 lim] w fun e w' => e = .returned (.tuple #[.pointer (some ⟨w.heap.size + 1, 0, none⟩), .int .i64 0]) ∧ Below w.heap.size w w' ∧ ∃ bo bt, (newDe w n s inc base step lim bo bt).Ok w' w.heap.size 0 := by
  obtain ⟨i0, hi, hz0, hz1, hz2⟩ := info_parts info_p
  unfold newOk at hok
  simp only [Bool.and_eq_true] at hok
  obtain ⟨b1, b2, b3, b4, b5, b6⟩ := hok
  have g1 := of_decide_eq_true b1
  have g2 := of_decide_eq_true b2
  have g3 := of_decide_eq_true b3
  have g4 := of_decide_eq_true b4
  have g5 := of_decide_eq_true b5
  have g6 := of_decide_eq_true b6
  have hw : IntKind.i64.wrap ((n : Int) - 1) = (n : Int) - 1 := wrap_id (by omega) (by omega)
  go_enter Try.func20, Try.ntmps20
  go_wp2_with (first
    | (go_at_call 25; refine (within_any _ _ _).mono ?_; rintro e w' ⟨rfl, rfl⟩; simp only [b1, b2, b3, b4, b5, b6])
    | (at_make; refine wpList_make_cap _ rfl _ _ 67 rfl 70 i0 (.pointer none) Try.underlying67 hi hz0 hz1 rfl 8 hz2 .i64 .i64 _ _ n n rfl rfl rfl rfl (Nat.le_refl _) (by omega) (by omega) ?_; intro W hW hWs hWb)
    | fail)
  have hlt : w.heap.size + 1 < (W.alloc (.cells #[.int .i64 (s : Int), .int .i64 inc, .int .i64 0, .bool false, .slice (some ⟨w.heap.size, 0, none⟩) n n] 69)).heap.size := by simp; omega
  have hD : (W.alloc (.cells #[.int .i64 (s : Int), .int .i64 inc, .int .i64 0, .bool false, .slice (some ⟨w.heap.size, 0, none⟩) n n] 69)).heap[w.heap.size + 1]? = some (.cells #[.int .i64 (s : Int), .int .i64 inc, .int .i64 0, .bool false, .slice (some ⟨w.heap.size, 0, none⟩) n n] 69 (0, 0)) := by rw [← hWs]; exact heap_alloc_new W _
  have H0 : Hid (NewIn w (W.alloc (.cells #[.int .i64 (s : Int), .int .i64 inc, .int .i64 0, .bool false, .slice (some ⟨w.heap.size, 0, none⟩) n n] 69)) n s inc base step lim 0 (fun _ => 0) (fun _ => 0)) := by
    refine ⟨hWb.alloc hWb.size _, hD, ⟨_, blk_alloc hW.out, by simp, fun q hq => by simp [hq]⟩, fun q h => by omega, fun q h => by omega, fun q h => by omega, fun p q h => by omega, fun p q h => by omega⟩
  clear hD hlt
  generalize (W.alloc (.cells #[.int .i64 (s : Int), .int .i64 inc, .int .i64 0, .bool false, .slice (some ⟨w.heap.size, 0, none⟩) n n] 69)) = V0 at *
  clear hW hWs hWb
  go_loopw [51] (fun i wr => ∃ (k : Nat) (bo bt : Nat → Nat), k ≤ n ∧ i = .int .i64 k ∧ NewIn w wr n s inc base step lim k bo bt) (fun i _ => n - (intOf i).toNat)
  case atStart => exact ⟨0, _, _, Nat.zero_le _, rfl, H0.out⟩
  case round =>
    obtain ⟨k, bo, bt, hk, rfl, hN⟩ := hrel
    have HN : Hid (NewIn w wr n s inc base step lim k bo bt) := hN
    by_cases hlt : k < n
    · have i1 : (0 : Int) ≤ (k : Int) := Int.natCast_nonneg _
      have i2 : (k : Int) < (n : Int) := by omega
      by_cases hks : k = s
      · have Hks : Hid (k = s) := hks
        have e0 : ((k : Int) = (s : Int)) := by omega
        clear hks hN
        go_wp2
        exact ⟨⟨k + 1, bo, bt, by omega, by go_num, HN.out.skip Hks.out⟩, by simp [intOf]; omega⟩
      · have Hks : Hid (k ≠ s) := hks
        have e0 : ¬ ((k : Int) = (s : Int)) := by omega
        generalize hV : (wr.alloc (.cells #[.int .i64 base, .int .i64 step, .int .i64 lim] 91)).alloc (.cells #[.iface 89 (.pointer (some ⟨wr.heap.size, 0, none⟩)), .int .i64 0, .int .i64 0, .int .i64 0, .int .i64 0, .bool false, .bool false] 74) = V
        have hbV : Below wr.heap.size wr V := by rw [← hV]; exact balloc (balloc (Below.refl _ wr))
        have t1 : V.heap[wr.heap.size]? = some (.cells #[.int .i64 base, .int .i64 step, .int .i64 lim] 91 (0, 0)) := by rw [← hV]; exact blk_alloc (heap_alloc_new wr _)
        have t2 : V.heap[wr.heap.size + 1]? = some (.cells (ocs wr.heap.size (pe0 base)) 74 (0, 0)) := by
          rw [← hV]
          have := heap_alloc_new (wr.alloc (.cells #[.int .i64 base, .int .i64 step, .int .i64 lim] 91)) (.cells #[.iface 89 (.pointer (some ⟨wr.heap.size, 0, none⟩)), .int .i64 0, .int .i64 0, .int .i64 0, .int .i64 0, .bool false, .bool false] 74)
          simpa [ocs, pe0] using this
        have HS : Hid (NewIn w (V.setCell ⟨w.heap.size, k, none⟩ (.pointer (some ⟨wr.heap.size + 1, 0, none⟩))) n s inc base step lim (k + 1) (upd bo k (wr.heap.size + 1)) (upd bt k wr.heap.size)) := hN.step hks hlt hbV (Nat.le_refl _) (Nat.le_succ _) t1 t2
        obtain ⟨cs, r1, r2, r3⟩ := hN.row
        have y4 : wr.cell? ⟨w.heap.size + 1, 4, none⟩ = some (.slice (some ⟨w.heap.size, 0, none⟩) n n) := blk_cell hN.blk 4
        have r1' := (hbV.block _ (lt_heap r1)).trans r1
        have y0 : V.cell? ⟨w.heap.size, k, none⟩ = some (.pointer none) := by
          rw [blk_cell r1' k, r3 k hlt]
          simp
        have y1 : V.frozen? ⟨w.heap.size, k, none⟩ = false := frozen_of_row V _ k _ _ r1'
        clear hks hN r1 r1' r2 r3 t1 t2 hbV
        go_wp2
        exact ⟨⟨k + 1, _, _, by omega, by go_num, HS.out⟩, by simp [intOf]; omega⟩
    · obtain rfl : k = n := by omega
      clear HN
      go_wp2
      go_ret2
      exact ⟨rfl, hN.below, bo, bt, hN.fin (by omega) (by omega) g3 g4 g5 g6⟩
end
end Go.Proofs.Ytfbollifegngjaa.Dt
