import Derived.Test.YtbjpbcanmpimnabKb

namespace Go.Proofs.Ytbjpbcanmpimnab.Lo
open Go.RowKit Bk
set_option linter.unusedVariables false
set_option linter.unusedSimpArgs false

def Ri (w : World) (ao : Option Addr) (n : Nat) (xs : List Int) : Prop :=
  xs.length = n ∧ (n = 0 ∨ ∃ b off, ao = some ⟨b, off, none⟩ ∧ ∀ i, i < n → w.cell? ⟨b, off + i, none⟩ = some (.int .i64 (xs.getD i 0)))

theorem Ri.below {w w1 : World} {ao : Option Addr} {n : Nat} {xs : List Int} (h : Ri w ao n xs) (hb : Below w.heap.size w w1) : Ri w1 ao n xs := by
  refine ⟨h.1, ?_⟩
  rcases h.2 with h | ⟨b, off, rfl, hc⟩
  · exact .inl h
  · exact .inr ⟨b, off, rfl, fun i hi => (hb.cell (World.block_lt_of_cell? w _ (hc i hi))).trans (hc i hi)⟩

def okC (x : Int) : Bool := inR x 0 4611686018427387904

theorem all_take_succ {xs : List Int} {f : Int → Bool} {j : Nat} (h : j < xs.length) : (xs.take (j + 1)).all f = ((xs.take j).all f && f (xs.getD j 0)) := by
  rw [List.take_add_one, List.all_append, List.getElem?_eq_getElem h]
  simp [List.getD, h]

def wholeB (e l i c : Int) : Bool := inR e 1 4611686018427387904 && inR l 0 15 && inR i 1 4611686018427387904 && inR c 1 4611686018427387904

def noneB (e l i c : Int) : Bool := e == 0 && l == 0 && i == 0 && c == 0

theorem mostOf_any (x : Int) (w : World) : Calls Try.prog 114 #[.int .i64 x] w fun e w' => e = .returned (.int .i64 (if x = 0 then 0 else 4611686018427387904)) ∧ w = w' := by
  by_cases h : x = 0
  · subst h
    go_enter Try.func114, Try.ntmps114
    go_wp2
    go_ret
    exact ⟨rfl, rfl⟩
  · have h' : (x == 0) = false := by simpa using h
    rw [if_neg h]
    go_enter Try.func114, Try.ntmps114
    go_wp2
    go_ret
    exact ⟨rfl, rfl⟩

theorem least_any (x : Int) (w : World) : Calls Try.prog 77 #[.int .i64 x] w fun e w' => e = .returned (.int .i64 (if x = 1 then 0 else 1)) ∧ w = w' := by
  by_cases h : x = 1
  · subst h
    go_enter Try.func77, Try.ntmps77
    go_wp2
    go_ret
    exact ⟨rfl, rfl⟩
  · have h' : (x == 1) = false := by simpa using h
    rw [if_neg h]
    go_enter Try.func77, Try.ntmps77
    go_wp2
    go_ret
    exact ⟨rfl, rfl⟩

theorem whole_any (e l i c : Int) (w : World) : Calls Try.prog 107 #[.agg #[.int .i64 e, .int .i64 l, .int .i64 i, .int .i64 c]] w fun x w' => x = .returned (.bool (wholeB e l i c)) ∧ Below w.heap.size w w' := by
  go_enter Try.func107, Try.ntmps107
  go_wp2_with (first
    | (go_at_call 64; refine (within_any _ _ _ _).mono ?_; rintro e w' ⟨rfl, rfl⟩)
    | (go_at_call 76; refine (nodeFits_any _ _).mono ?_; rintro e w' ⟨rfl, rfl⟩)
    | fail)
  all_goals go_ret
  all_goals refine ⟨?_, (Below.refl _ _).alloc (Nat.le_refl _) _⟩
  all_goals simp_all [wholeB]

theorem rwhole_any (e l i c : Int) (w : World) : Calls Try.prog 112 #[.agg #[.int .i64 e, .int .i64 l, .int .i64 i, .int .i64 c]] w fun x w' => x = .returned (.bool (wholeB e l i c)) ∧ Below w.heap.size w w' := by
  go_enter Try.func112, Try.ntmps112
  go_wp2_with (first
    | (go_at_call 72; refine (rwithin_any _ _ _ _).mono ?_; rintro e w' ⟨rfl, rfl⟩)
    | fail)
  all_goals go_ret
  all_goals refine ⟨?_, (Below.refl _ _).alloc (Nat.le_refl _) _⟩
  all_goals simp_all [wholeB]

theorem none_any (e l i c : Int) (w : World) : Calls Try.prog 106 #[.agg #[.int .i64 e, .int .i64 l, .int .i64 i, .int .i64 c]] w fun x w' => x = .returned (.bool (noneB e l i c)) ∧ Below w.heap.size w w' := by
  go_enter Try.func106, Try.ntmps106
  go_wp2
  all_goals go_ret
  all_goals refine ⟨?_, (Below.refl _ _).alloc (Nat.le_refl _) _⟩
  all_goals simp_all [noneB]

theorem rnone_any (e l i c : Int) (w : World) : Calls Try.prog 110 #[.agg #[.int .i64 e, .int .i64 l, .int .i64 i, .int .i64 c]] w fun x w' => x = .returned (.bool (noneB e l i c)) ∧ Below w.heap.size w w' := by
  go_enter Try.func110, Try.ntmps110
  go_wp2
  all_goals go_ret
  all_goals refine ⟨?_, (Below.refl _ _).alloc (Nat.le_refl _) _⟩
  all_goals simp_all [noneB]

theorem all_false {xs : List Int} {f : Int → Bool} {j : Nat} (h : (xs.take j).all f = false) : xs.all f = false := by
  have e : xs.all f = ((xs.take j).all f && (xs.drop j).all f) := by rw [← List.all_append, List.take_append_drop]
  rw [e, h]; rfl

set_option maxRecDepth 100000 in
theorem nodeList_any (ao : Option Addr) (n c : Nat) (xs : List Int) (w : World) (hr : Ri w ao n xs) (hlen : n ≤ 140737488355328) :
    Calls Try.prog 105 #[.slice ao n c] w fun e w' => e = .returned (.bool (inR n 1 16 && xs.all okC)) ∧ w = w' := by
  by_cases hn : inR n 1 16 = true
  · have hg := hn
    unfold inR at hg
    simp at hg
    obtain ⟨b, off, rfl, hc⟩ : ∃ b off, ao = some ⟨b, off, none⟩ ∧ ∀ i, i < n → w.cell? ⟨b, off + i, none⟩ = some (.int .i64 (xs.getD i 0)) := by
      rcases hr.2 with h | h
      · omega
      · exact h
    have HC : Hid (∀ i, i < n → w.cell? ⟨b, off + i, none⟩ = some (.int .i64 (xs.getD i 0))) := hc
    have HL : Hid (xs.length = n) := hr.1
    have hg' : n ≤ 16 := by omega
    obtain ⟨r, hr0⟩ : ∃ r, xs.all okC = r := ⟨_, rfl⟩
    have HRR : Hid (xs.all okC = r) := hr0
    rw [hn, hr0, Bool.true_and]
    clear hr hc hg hr0
    go_enter Try.func105, Try.ntmps105
    go_wp2_with (first
      | (go_at_call 64; refine (within_any _ _ _ _).mono ?_; rintro e w' ⟨rfl, rfl⟩)
      | fail)
    go_loopw [11] (fun x wr => ∃ j : Nat, j ≤ n ∧ x = .int .i64 j ∧ Hid ((xs.take j).all okC = true) ∧ w = wr) (fun x _ => n - (intOf x).toNat)
    case atStart => exact ⟨0, Nat.zero_le _, rfl, (by simp : (xs.take 0).all okC = true), rfl⟩
    case round =>
      obtain ⟨j, hj, rfl, hall, rfl⟩ := hrel
      by_cases hjn : j < n
      · have hcx := HC.out j hjn
        obtain ⟨x, hx⟩ : ∃ x, xs.getD j 0 = x := ⟨_, rfl⟩
        rw [hx] at hcx
        have HS : Hid ((xs.take (j + 1)).all okC = okC x) := by
          show _ = _
          rw [all_take_succ (by have := HL.out; omega), hall.out, hx, Bool.true_and]
        clear hx
        by_cases hok : inR x 0 4611686018427387904 = true
        · have HS' : Hid ((xs.take (j + 1)).all okC = true) := HS.out.trans hok
          go_wp2_with (first
            | (go_at_call 101; refine (countFits_any _ _).mono ?_; rintro e w' ⟨rfl, rfl⟩)
            | fail)
          go_roundw
          case rel => exact ⟨j + 1, by omega, by go_num, HS', (by first | exact rfl | exact True.intro)⟩
          case measure => simp [intOf]; omega
        · have hok' : inR x 0 4611686018427387904 = false := by simpa using hok
          have HS' : Hid ((xs.take (j + 1)).all okC = false) := HS.out.trans hok'
          clear hok
          have HF : Hid (r = false) := by
            show _ = _
            rw [← HRR.out]
            exact all_false HS'.out
          go_wp2_with (first
            | (go_at_call 101; refine (countFits_any _ _).mono ?_; rintro e w' ⟨rfl, rfl⟩)
            | fail)
          go_ret
          exact ⟨by rw [HF.out]; rfl, rfl⟩
      · have HF : Hid (r = true) := by
          show _ = _
          rw [← HRR.out]
          have e : xs.take j = xs := List.take_of_length_le (by have := HL.out; omega)
          rw [← e]; exact hall.out
        go_wp2_with fail
        go_ret
        exact ⟨by rw [HF.out]; rfl, rfl⟩
  · have hn' : inR n 1 16 = false := by simpa using hn
    rw [hn']
    clear hn hr
    go_enter Try.func105, Try.ntmps105
    go_wp2_with (first
      | (go_at_call 64; refine (within_any _ _ _ _).mono ?_; rintro e w' ⟨rfl, rfl⟩)
      | fail)
    go_ret
    exact ⟨rfl, rfl⟩

set_option maxRecDepth 100000 in
theorem rcounts_any (ao : Option Addr) (n c : Nat) (xs : List Int) (w : World) (hr : Ri w ao n xs) (hlen : n ≤ 140737488355328) :
    Calls Try.prog 111 #[.slice ao n c] w fun e w' => e = .returned (.bool (xs.all okC)) ∧ w = w' := by
  have HC : Hid (n = 0 ∨ ∃ b off, ao = some ⟨b, off, none⟩ ∧ ∀ i, i < n → w.cell? ⟨b, off + i, none⟩ = some (.int .i64 (xs.getD i 0))) := hr.2
  have HL : Hid (xs.length = n) := hr.1
  obtain ⟨r, hr0⟩ : ∃ r, xs.all okC = r := ⟨_, rfl⟩
  have HRR : Hid (xs.all okC = r) := hr0
  rw [hr0]
  clear hr hr0
  go_enter Try.func111, Try.ntmps111
  go_wp2_with fail
  go_loopw [3] (fun x wr => ∃ j : Nat, j ≤ n ∧ x = .int .i64 j ∧ Hid ((xs.take j).all okC = true) ∧ w = wr) (fun x _ => n - (intOf x).toNat)
  case atStart => exact ⟨0, Nat.zero_le _, rfl, (by simp : (xs.take 0).all okC = true), rfl⟩
  case round =>
    obtain ⟨j, hj, rfl, hall, rfl⟩ := hrel
    by_cases hjn : j < n
    · obtain ⟨b, off, rfl, hcx⟩ : ∃ b off, ao = some ⟨b, off, none⟩ ∧ w.cell? ⟨b, off + j, none⟩ = some (.int .i64 (xs.getD j 0)) := by
        rcases HC.out with h | ⟨b, off, rfl, hc⟩
        · omega
        · exact ⟨b, off, rfl, hc j hjn⟩
      obtain ⟨x, hx⟩ : ∃ x, xs.getD j 0 = x := ⟨_, rfl⟩
      rw [hx] at hcx
      have HS : Hid ((xs.take (j + 1)).all okC = okC x) := by
        show _ = _
        rw [all_take_succ (by have := HL.out; omega), hall.out, hx, Bool.true_and]
      clear hx HC
      by_cases hok : inR x 0 4611686018427387904 = true
      · have HS' : Hid ((xs.take (j + 1)).all okC = true) := HS.out.trans hok
        go_wp2_with (first
          | (go_at_call 72; refine (rwithin_any _ _ _ _).mono ?_; rintro e w' ⟨rfl, rfl⟩)
          | fail)
        go_roundw
        case rel => exact ⟨j + 1, by omega, by go_num, HS', (by first | exact rfl | exact True.intro)⟩
        case measure => simp [intOf]; omega
      · have hok' : inR x 0 4611686018427387904 = false := by simpa using hok
        have HS' : Hid ((xs.take (j + 1)).all okC = false) := HS.out.trans hok'
        clear hok
        have HF : Hid (r = false) := by
          show _ = _
          rw [← HRR.out]
          exact all_false HS'.out
        go_wp2_with (first
          | (go_at_call 72; refine (rwithin_any _ _ _ _).mono ?_; rintro e w' ⟨rfl, rfl⟩)
          | fail)
        go_ret
        exact ⟨by rw [HF.out]; rfl, rfl⟩
    · have HF : Hid (r = true) := by
        show _ = _
        rw [← HRR.out]
        have e : xs.take j = xs := List.take_of_length_le (by have := HL.out; omega)
        rw [← e]; exact hall.out
      go_wp2_with fail
      go_ret
      exact ⟨by rw [HF.out]; rfl, rfl⟩

def okV (vs ss : List Int) (i : Nat) : Bool := inR (vs.getD i 0) 0 (if ss.getD i 0 = 0 then 0 else 4611686018427387904)

def vecTo (vs ss : List Int) (j : Nat) : Bool := (List.range j).all (okV vs ss)

theorem vecTo_succ (vs ss : List Int) (j : Nat) : vecTo vs ss (j + 1) = (vecTo vs ss j && okV vs ss j) := by simp [vecTo, List.range_succ]

theorem vecTo_false {vs ss : List Int} {j n : Nat} (h : vecTo vs ss j = false) (hj : j ≤ n) : vecTo vs ss n = false := by
  obtain ⟨k, rfl⟩ := Nat.exists_eq_add_of_le hj
  clear hj
  induction k with
  | zero => exact h
  | succ k ih => rw [← Nat.add_assoc, vecTo_succ, ih]; rfl

theorem mostOf_eq (x mo : Int) (h : (if x = 0 then 0 else 4611686018427387904) = mo) (w : World) : Calls Try.prog 114 #[.int .i64 x] w fun e w' => e = .returned (.int .i64 mo) ∧ w = w' := by
  subst h
  exact mostOf_any x w

set_option maxRecDepth 100000 in
set_option maxHeartbeats 1000000 in
theorem vecFits_any (a1 a2 : Option Addr) (n m c1 c2 : Nat) (vs ss : List Int) (w : World) (h1 : Ri w a1 n vs) (h2 : Ri w a2 m ss) (hlen : n ≤ 140737488355328) :
    Calls Try.prog 108 #[.slice a1 n c1, .slice a2 m c2] w fun e w' => e = .returned (.bool (decide (n = m) && vecTo vs ss n)) ∧ w = w' := by
  by_cases hnm : n = m
  · subst hnm
    have HC1 : Hid (n = 0 ∨ ∃ b off, a1 = some ⟨b, off, none⟩ ∧ ∀ i, i < n → w.cell? ⟨b, off + i, none⟩ = some (.int .i64 (vs.getD i 0))) := h1.2
    have HC2 : Hid (n = 0 ∨ ∃ b off, a2 = some ⟨b, off, none⟩ ∧ ∀ i, i < n → w.cell? ⟨b, off + i, none⟩ = some (.int .i64 (ss.getD i 0))) := h2.2
    obtain ⟨r, hr0⟩ : ∃ r, vecTo vs ss n = r := ⟨_, rfl⟩
    have HRR : Hid (vecTo vs ss n = r) := hr0
    rw [hr0]
    simp only [decide_true, Bool.true_and]
    clear h1 h2 hr0
    go_enter Try.func108, Try.ntmps108
    go_wp2_with fail
    go_loopw [14] (fun x wr => ∃ j : Nat, j ≤ n ∧ x = .int .i64 j ∧ Hid (vecTo vs ss j = true) ∧ w = wr) (fun x _ => n - (intOf x).toNat)
    case atStart => exact ⟨0, Nat.zero_le _, rfl, (rfl : vecTo vs ss 0 = true), rfl⟩
    case round =>
      obtain ⟨j, hj, rfl, hall, rfl⟩ := hrel
      by_cases hjn : j < n
      · obtain ⟨b, off, rfl, hcx⟩ : ∃ b off, a1 = some ⟨b, off, none⟩ ∧ w.cell? ⟨b, off + j, none⟩ = some (.int .i64 (vs.getD j 0)) := by
          rcases HC1.out with h | ⟨b, off, rfl, hc⟩
          · omega
          · exact ⟨b, off, rfl, hc j hjn⟩
        obtain ⟨b2, off2, rfl, hcy⟩ : ∃ b off, a2 = some ⟨b, off, none⟩ ∧ w.cell? ⟨b, off + j, none⟩ = some (.int .i64 (ss.getD j 0)) := by
          rcases HC2.out with h | ⟨b, off, rfl, hc⟩
          · omega
          · exact ⟨b, off, rfl, hc j hjn⟩
        obtain ⟨x, hx⟩ : ∃ x, vs.getD j 0 = x := ⟨_, rfl⟩
        obtain ⟨y, hy⟩ : ∃ y, ss.getD j 0 = y := ⟨_, rfl⟩
        obtain ⟨mo, hmo⟩ : ∃ mo : Int, (if y = 0 then 0 else 4611686018427387904) = mo := ⟨_, rfl⟩
        rw [hx] at hcx
        rw [hy] at hcy
        have HMO : Hid ((if y = 0 then 0 else 4611686018427387904) = mo) := hmo
        have HS : Hid (vecTo vs ss (j + 1) = inR x 0 mo) := by
          show _ = _
          rw [vecTo_succ, hall.out, Bool.true_and]
          unfold okV
          rw [hx, hy, hmo]
        clear hx hy HC1 HC2 hmo
        by_cases hok : inR x 0 mo = true
        · have HS' : Hid (vecTo vs ss (j + 1) = true) := HS.out.trans hok
          go_wp2_with (first
            | (go_at_call 114; refine (mostOf_eq _ mo HMO.out _).mono ?_; rintro e w' ⟨rfl, rfl⟩)
            | (go_at_call 64; refine (within_any _ _ _ _).mono ?_; rintro e w' ⟨rfl, rfl⟩)
            | fail)
          go_roundw
          case rel => exact ⟨j + 1, by omega, by go_num, HS', (by first | exact rfl | exact True.intro)⟩
          case measure => simp [intOf]; omega
        · have hok' : inR x 0 mo = false := by simpa using hok
          have HS' : Hid (vecTo vs ss (j + 1) = false) := HS.out.trans hok'
          clear hok
          have HF : Hid (r = false) := by
            show _ = _
            rw [← HRR.out]
            exact vecTo_false HS'.out (by omega)
          go_wp2_with (first
            | (go_at_call 114; refine (mostOf_eq _ mo HMO.out _).mono ?_; rintro e w' ⟨rfl, rfl⟩)
            | (go_at_call 64; refine (within_any _ _ _ _).mono ?_; rintro e w' ⟨rfl, rfl⟩)
            | fail)
          go_ret
          exact ⟨by rw [HF.out]; rfl, rfl⟩
      · have HF : Hid (r = true) := by
          show _ = _
          rw [← HRR.out]
          have e : j = n := by omega
          rw [← e]; exact hall.out
        go_wp2_with fail
        go_ret
        exact ⟨by rw [HF.out]; rfl, rfl⟩
  · have h' : ((n : Int) != (m : Int)) = true := by simp; omega
    have e : decide (n = m) = false := by simpa using hnm
    rw [e, Bool.false_and]
    clear h1 h2 e
    go_enter Try.func108, Try.ntmps108
    go_wp2_with fail
    go_ret
    exact ⟨rfl, rfl⟩

def stableB (e l i c d p : Int) : Bool := wholeB e l i c && okC d && inR p 0 d

def ackB (e l i c u : Int) : Bool := wholeB e l i c && okC u

def frameB (e l i c s : Int) (n : Nat) : Bool := wholeB e l i c && inR s 1 4611686018427387904 && inR n 1 300

def stableZ (e l i c d p : Int) : Bool := noneB e l i c && d == 0 && p == 0

def frameZ (e l i c s : Int) (n : Nat) : Bool := noneB e l i c && s == 0 && (n : Int) == 0

def beatB (t : Int) (n : Nat) (xs : List Int) : Bool := okC t && inR n 1 16 && xs.all okC

def beatZ (t : Int) (n : Nat) : Bool := t == 0 && (n : Int) == 0

def proposeZ (n : Nat) (d r t e l i c : Int) (m : Nat) : Bool := (n : Int) == 0 && d == 0 && r == 0 && t == 0 && noneB e l i c && (m : Int) == 0

def flushZ (e l i c b : Int) (n m : Nat) : Bool := noneB e l i c && b == 0 && (n : Int) == 0 && (m : Int) == 0

def forwardZ (e l i c : Int) (n : Nat) : Bool := noneB e l i c && (n : Int) == 0

def proposeB (n : Nat) (ss : List Int) (d r t e l i c : Int) (m : Nat) (vs : List Int) : Bool := inR n 1 16 && ss.all okC && inR d 1 4611686018427387904 && inR r 1 4611686018427387904 && okC t && (noneB e l i c || wholeB e l i c) && (decide (m = n) && vecTo vs ss m)

set_option maxRecDepth 100000 in
set_option maxHeartbeats 1000000 in
theorem stableFits_any (e l i c d p : Int) (w : World) :
    Calls Try.prog 81 #[.agg #[.int .i64 e, .int .i64 l, .int .i64 i, .int .i64 c, .int .i64 d, .int .i64 p]] w fun x w' => x = .returned (.bool (stableB e l i c d p)) ∧ Below w.heap.size w w' := by
  go_enter Try.func81, Try.ntmps81
  go_wp2_with (first
    | (go_at_call 64; refine (within_any _ _ _ _).mono ?_; rintro e w' ⟨rfl, rfl⟩)
    | (go_at_call 72; refine (rwithin_any _ _ _ _).mono ?_; rintro e w' ⟨rfl, rfl⟩)
    | (go_at_call 101; refine (countFits_any _ _).mono ?_; rintro e w' ⟨rfl, rfl⟩)
    | (go_at_call 76; refine (nodeFits_any _ _).mono ?_; rintro e w' ⟨rfl, rfl⟩)
    | (go_at_call 106; refine (none_any _ _ _ _ _).mono ?_; rintro e w1 ⟨rfl, hb1⟩; have hp := fun i => blk_cell (blk_spill hb1) i)
    | (go_at_call 110; refine (rnone_any _ _ _ _ _).mono ?_; rintro e w1 ⟨rfl, hb1⟩; have hp := fun i => blk_cell (blk_spill hb1) i)
    | (go_at_call 107; refine (whole_any _ _ _ _ _).mono ?_; rintro e w1 ⟨rfl, hb1⟩; have hp := fun i => blk_cell (blk_spill hb1) i)
    | (go_at_call 112; refine (rwhole_any _ _ _ _ _).mono ?_; rintro e w1 ⟨rfl, hb1⟩; have hp := fun i => blk_cell (blk_spill hb1) i)
    | fail)
  all_goals go_ret
  all_goals refine ⟨?_, ?_⟩
  all_goals first
    | exact balloc (Below.refl _ _)
    | exact bstepA (Below.refl _ _) (by assumption)
    | simp_all [stableB, okC]

set_option maxRecDepth 100000 in
set_option maxHeartbeats 1000000 in
theorem gstable_any (e l i c d p : Int) (w : World) :
    Calls Try.prog 94 #[.agg #[.int .i64 e, .int .i64 l, .int .i64 i, .int .i64 c, .int .i64 d, .int .i64 p]] w fun x w' => x = .returned (.bool (stableB e l i c d p)) ∧ Below w.heap.size w w' := by
  go_enter Try.func94, Try.ntmps94
  go_wp2_with (first
    | (go_at_call 64; refine (within_any _ _ _ _).mono ?_; rintro e w' ⟨rfl, rfl⟩)
    | (go_at_call 72; refine (rwithin_any _ _ _ _).mono ?_; rintro e w' ⟨rfl, rfl⟩)
    | (go_at_call 101; refine (countFits_any _ _).mono ?_; rintro e w' ⟨rfl, rfl⟩)
    | (go_at_call 76; refine (nodeFits_any _ _).mono ?_; rintro e w' ⟨rfl, rfl⟩)
    | (go_at_call 106; refine (none_any _ _ _ _ _).mono ?_; rintro e w1 ⟨rfl, hb1⟩; have hp := fun i => blk_cell (blk_spill hb1) i)
    | (go_at_call 110; refine (rnone_any _ _ _ _ _).mono ?_; rintro e w1 ⟨rfl, hb1⟩; have hp := fun i => blk_cell (blk_spill hb1) i)
    | (go_at_call 107; refine (whole_any _ _ _ _ _).mono ?_; rintro e w1 ⟨rfl, hb1⟩; have hp := fun i => blk_cell (blk_spill hb1) i)
    | (go_at_call 112; refine (rwhole_any _ _ _ _ _).mono ?_; rintro e w1 ⟨rfl, hb1⟩; have hp := fun i => blk_cell (blk_spill hb1) i)
    | fail)
  all_goals go_ret
  all_goals refine ⟨?_, ?_⟩
  all_goals first
    | exact balloc (Below.refl _ _)
    | exact bstepA (Below.refl _ _) (by assumption)
    | simp_all [stableB, okC]

set_option maxRecDepth 100000 in
set_option maxHeartbeats 1000000 in
theorem ackFits_any (e l i c u : Int) (w : World) :
    Calls Try.prog 83 #[.agg #[.int .i64 e, .int .i64 l, .int .i64 i, .int .i64 c, .int .i64 u]] w fun x w' => x = .returned (.bool (ackB e l i c u)) ∧ Below w.heap.size w w' := by
  go_enter Try.func83, Try.ntmps83
  go_wp2_with (first
    | (go_at_call 64; refine (within_any _ _ _ _).mono ?_; rintro e w' ⟨rfl, rfl⟩)
    | (go_at_call 72; refine (rwithin_any _ _ _ _).mono ?_; rintro e w' ⟨rfl, rfl⟩)
    | (go_at_call 101; refine (countFits_any _ _).mono ?_; rintro e w' ⟨rfl, rfl⟩)
    | (go_at_call 76; refine (nodeFits_any _ _).mono ?_; rintro e w' ⟨rfl, rfl⟩)
    | (go_at_call 106; refine (none_any _ _ _ _ _).mono ?_; rintro e w1 ⟨rfl, hb1⟩; have hp := fun i => blk_cell (blk_spill hb1) i)
    | (go_at_call 110; refine (rnone_any _ _ _ _ _).mono ?_; rintro e w1 ⟨rfl, hb1⟩; have hp := fun i => blk_cell (blk_spill hb1) i)
    | (go_at_call 107; refine (whole_any _ _ _ _ _).mono ?_; rintro e w1 ⟨rfl, hb1⟩; have hp := fun i => blk_cell (blk_spill hb1) i)
    | (go_at_call 112; refine (rwhole_any _ _ _ _ _).mono ?_; rintro e w1 ⟨rfl, hb1⟩; have hp := fun i => blk_cell (blk_spill hb1) i)
    | fail)
  all_goals go_ret
  all_goals refine ⟨?_, ?_⟩
  all_goals first
    | exact balloc (Below.refl _ _)
    | exact bstepA (Below.refl _ _) (by assumption)
    | simp_all [ackB, okC]

set_option maxRecDepth 100000 in
set_option maxHeartbeats 1000000 in
theorem gack_any (e l i c u : Int) (w : World) :
    Calls Try.prog 96 #[.agg #[.int .i64 e, .int .i64 l, .int .i64 i, .int .i64 c, .int .i64 u]] w fun x w' => x = .returned (.bool (ackB e l i c u)) ∧ Below w.heap.size w w' := by
  go_enter Try.func96, Try.ntmps96
  go_wp2_with (first
    | (go_at_call 64; refine (within_any _ _ _ _).mono ?_; rintro e w' ⟨rfl, rfl⟩)
    | (go_at_call 72; refine (rwithin_any _ _ _ _).mono ?_; rintro e w' ⟨rfl, rfl⟩)
    | (go_at_call 101; refine (countFits_any _ _).mono ?_; rintro e w' ⟨rfl, rfl⟩)
    | (go_at_call 76; refine (nodeFits_any _ _).mono ?_; rintro e w' ⟨rfl, rfl⟩)
    | (go_at_call 106; refine (none_any _ _ _ _ _).mono ?_; rintro e w1 ⟨rfl, hb1⟩; have hp := fun i => blk_cell (blk_spill hb1) i)
    | (go_at_call 110; refine (rnone_any _ _ _ _ _).mono ?_; rintro e w1 ⟨rfl, hb1⟩; have hp := fun i => blk_cell (blk_spill hb1) i)
    | (go_at_call 107; refine (whole_any _ _ _ _ _).mono ?_; rintro e w1 ⟨rfl, hb1⟩; have hp := fun i => blk_cell (blk_spill hb1) i)
    | (go_at_call 112; refine (rwhole_any _ _ _ _ _).mono ?_; rintro e w1 ⟨rfl, hb1⟩; have hp := fun i => blk_cell (blk_spill hb1) i)
    | fail)
  all_goals go_ret
  all_goals refine ⟨?_, ?_⟩
  all_goals first
    | exact balloc (Below.refl _ _)
    | exact bstepA (Below.refl _ _) (by assumption)
    | simp_all [ackB, okC]

set_option maxRecDepth 100000 in
set_option maxHeartbeats 1000000 in
theorem frameFits_any (e l i c s : Int) (ao : Option Addr) (n cc : Nat) (w : World) :
    Calls Try.prog 82 #[.agg #[.int .i64 e, .int .i64 l, .int .i64 i, .int .i64 c, .int .i64 s, .slice ao n cc]] w fun x w' => x = .returned (.bool (frameB e l i c s n)) ∧ Below w.heap.size w w' := by
  go_enter Try.func82, Try.ntmps82
  go_wp2_with (first
    | (go_at_call 64; refine (within_any _ _ _ _).mono ?_; rintro e w' ⟨rfl, rfl⟩)
    | (go_at_call 72; refine (rwithin_any _ _ _ _).mono ?_; rintro e w' ⟨rfl, rfl⟩)
    | (go_at_call 101; refine (countFits_any _ _).mono ?_; rintro e w' ⟨rfl, rfl⟩)
    | (go_at_call 76; refine (nodeFits_any _ _).mono ?_; rintro e w' ⟨rfl, rfl⟩)
    | (go_at_call 106; refine (none_any _ _ _ _ _).mono ?_; rintro e w1 ⟨rfl, hb1⟩; have hp := fun i => blk_cell (blk_spill hb1) i)
    | (go_at_call 110; refine (rnone_any _ _ _ _ _).mono ?_; rintro e w1 ⟨rfl, hb1⟩; have hp := fun i => blk_cell (blk_spill hb1) i)
    | (go_at_call 107; refine (whole_any _ _ _ _ _).mono ?_; rintro e w1 ⟨rfl, hb1⟩; have hp := fun i => blk_cell (blk_spill hb1) i)
    | (go_at_call 112; refine (rwhole_any _ _ _ _ _).mono ?_; rintro e w1 ⟨rfl, hb1⟩; have hp := fun i => blk_cell (blk_spill hb1) i)
    | fail)
  all_goals go_ret
  all_goals refine ⟨?_, ?_⟩
  all_goals first
    | exact balloc (Below.refl _ _)
    | exact bstepA (Below.refl _ _) (by assumption)
    | simp_all [frameB]

set_option maxRecDepth 100000 in
set_option maxHeartbeats 1000000 in
theorem gframe_any (e l i c s : Int) (ao : Option Addr) (n cc : Nat) (w : World) :
    Calls Try.prog 95 #[.agg #[.int .i64 e, .int .i64 l, .int .i64 i, .int .i64 c, .int .i64 s, .slice ao n cc]] w fun x w' => x = .returned (.bool (frameB e l i c s n)) ∧ Below w.heap.size w w' := by
  go_enter Try.func95, Try.ntmps95
  go_wp2_with (first
    | (go_at_call 64; refine (within_any _ _ _ _).mono ?_; rintro e w' ⟨rfl, rfl⟩)
    | (go_at_call 72; refine (rwithin_any _ _ _ _).mono ?_; rintro e w' ⟨rfl, rfl⟩)
    | (go_at_call 101; refine (countFits_any _ _).mono ?_; rintro e w' ⟨rfl, rfl⟩)
    | (go_at_call 76; refine (nodeFits_any _ _).mono ?_; rintro e w' ⟨rfl, rfl⟩)
    | (go_at_call 106; refine (none_any _ _ _ _ _).mono ?_; rintro e w1 ⟨rfl, hb1⟩; have hp := fun i => blk_cell (blk_spill hb1) i)
    | (go_at_call 110; refine (rnone_any _ _ _ _ _).mono ?_; rintro e w1 ⟨rfl, hb1⟩; have hp := fun i => blk_cell (blk_spill hb1) i)
    | (go_at_call 107; refine (whole_any _ _ _ _ _).mono ?_; rintro e w1 ⟨rfl, hb1⟩; have hp := fun i => blk_cell (blk_spill hb1) i)
    | (go_at_call 112; refine (rwhole_any _ _ _ _ _).mono ?_; rintro e w1 ⟨rfl, hb1⟩; have hp := fun i => blk_cell (blk_spill hb1) i)
    | fail)
  all_goals go_ret
  all_goals refine ⟨?_, ?_⟩
  all_goals first
    | exact balloc (Below.refl _ _)
    | exact bstepA (Below.refl _ _) (by assumption)
    | simp_all [frameB]

set_option maxRecDepth 100000 in
set_option maxHeartbeats 1000000 in
theorem frameZero_any (e l i c s : Int) (ao : Option Addr) (n cc : Nat) (w : World) :
    Calls Try.prog 88 #[.agg #[.int .i64 e, .int .i64 l, .int .i64 i, .int .i64 c, .int .i64 s, .slice ao n cc]] w fun x w' => x = .returned (.bool (frameZ e l i c s n)) ∧ Below w.heap.size w w' := by
  go_enter Try.func88, Try.ntmps88
  go_wp2_with (first
    | (go_at_call 64; refine (within_any _ _ _ _).mono ?_; rintro e w' ⟨rfl, rfl⟩)
    | (go_at_call 72; refine (rwithin_any _ _ _ _).mono ?_; rintro e w' ⟨rfl, rfl⟩)
    | (go_at_call 101; refine (countFits_any _ _).mono ?_; rintro e w' ⟨rfl, rfl⟩)
    | (go_at_call 76; refine (nodeFits_any _ _).mono ?_; rintro e w' ⟨rfl, rfl⟩)
    | (go_at_call 106; refine (none_any _ _ _ _ _).mono ?_; rintro e w1 ⟨rfl, hb1⟩; have hp := fun i => blk_cell (blk_spill hb1) i)
    | (go_at_call 110; refine (rnone_any _ _ _ _ _).mono ?_; rintro e w1 ⟨rfl, hb1⟩; have hp := fun i => blk_cell (blk_spill hb1) i)
    | (go_at_call 107; refine (whole_any _ _ _ _ _).mono ?_; rintro e w1 ⟨rfl, hb1⟩; have hp := fun i => blk_cell (blk_spill hb1) i)
    | (go_at_call 112; refine (rwhole_any _ _ _ _ _).mono ?_; rintro e w1 ⟨rfl, hb1⟩; have hp := fun i => blk_cell (blk_spill hb1) i)
    | fail)
  all_goals go_ret
  all_goals refine ⟨?_, ?_⟩
  all_goals first
    | exact balloc (Below.refl _ _)
    | exact bstepA (Below.refl _ _) (by assumption)
    | simp_all [frameZ]

set_option maxRecDepth 100000 in
set_option maxHeartbeats 1000000 in
theorem beatFits_any (t : Int) (ao : Option Addr) (n cc : Nat) (xs : List Int) (w : World) (hr : Ri w ao n xs) (hlen : n ≤ 140737488355328) :
    Calls Try.prog 78 #[.agg #[.int .i64 t, .slice ao n cc]] w fun x w' => x = .returned (.bool (beatB t n xs)) ∧ Below w.heap.size w w' := by
  have HL : Hid (Ri w ao n xs) := hr
  clear hr
  go_enter Try.func78, Try.ntmps78
  go_wp2_with (first
    | (go_at_call 64; refine (within_any _ _ _ _).mono ?_; rintro e w' ⟨rfl, rfl⟩)
    | (go_at_call 72; refine (rwithin_any _ _ _ _).mono ?_; rintro e w' ⟨rfl, rfl⟩)
    | (go_at_call 101; refine (countFits_any _ _).mono ?_; rintro e w' ⟨rfl, rfl⟩)
    | (go_at_call 76; refine (nodeFits_any _ _).mono ?_; rintro e w' ⟨rfl, rfl⟩)
    | (go_at_call 106; refine (none_any _ _ _ _ _).mono ?_; rintro e w1 ⟨rfl, hb1⟩; have hp := fun i => blk_cell (blk_spill hb1) i)
    | (go_at_call 110; refine (rnone_any _ _ _ _ _).mono ?_; rintro e w1 ⟨rfl, hb1⟩; have hp := fun i => blk_cell (blk_spill hb1) i)
    | (go_at_call 107; refine (whole_any _ _ _ _ _).mono ?_; rintro e w1 ⟨rfl, hb1⟩; have hp := fun i => blk_cell (blk_spill hb1) i)
    | (go_at_call 112; refine (rwhole_any _ _ _ _ _).mono ?_; rintro e w1 ⟨rfl, hb1⟩; have hp := fun i => blk_cell (blk_spill hb1) i)
    | (go_at_call 105; refine (nodeList_any _ _ _ xs _ (by first | exact HL.out.below (balloc (Below.refl _ _)) | exact HL.out.below (bstepA (Below.refl _ _) (by assumption))) hlen).mono ?_; rintro e w' ⟨rfl, rfl⟩)
    | (go_at_call 111; refine (rcounts_any _ _ _ xs _ (by first | exact HL.out.below (balloc (Below.refl _ _)) | exact HL.out.below (bstepA (Below.refl _ _) (by assumption))) hlen).mono ?_; rintro e w' ⟨rfl, rfl⟩)
    | fail)
  all_goals go_ret
  all_goals refine ⟨?_, ?_⟩
  all_goals first
    | exact balloc (Below.refl _ _)
    | exact bstepA (Below.refl _ _) (by assumption)
    | simp_all [beatB, okC, Bool.and_assoc]

set_option maxRecDepth 100000 in
set_option maxHeartbeats 1000000 in
theorem gbeat_any (t : Int) (ao : Option Addr) (n cc : Nat) (xs : List Int) (w : World) (hr : Ri w ao n xs) (hlen : n ≤ 140737488355328) :
    Calls Try.prog 91 #[.agg #[.int .i64 t, .slice ao n cc]] w fun x w' => x = .returned (.bool (beatB t n xs)) ∧ Below w.heap.size w w' := by
  have HL : Hid (Ri w ao n xs) := hr
  clear hr
  go_enter Try.func91, Try.ntmps91
  go_wp2_with (first
    | (go_at_call 64; refine (within_any _ _ _ _).mono ?_; rintro e w' ⟨rfl, rfl⟩)
    | (go_at_call 72; refine (rwithin_any _ _ _ _).mono ?_; rintro e w' ⟨rfl, rfl⟩)
    | (go_at_call 101; refine (countFits_any _ _).mono ?_; rintro e w' ⟨rfl, rfl⟩)
    | (go_at_call 76; refine (nodeFits_any _ _).mono ?_; rintro e w' ⟨rfl, rfl⟩)
    | (go_at_call 106; refine (none_any _ _ _ _ _).mono ?_; rintro e w1 ⟨rfl, hb1⟩; have hp := fun i => blk_cell (blk_spill hb1) i)
    | (go_at_call 110; refine (rnone_any _ _ _ _ _).mono ?_; rintro e w1 ⟨rfl, hb1⟩; have hp := fun i => blk_cell (blk_spill hb1) i)
    | (go_at_call 107; refine (whole_any _ _ _ _ _).mono ?_; rintro e w1 ⟨rfl, hb1⟩; have hp := fun i => blk_cell (blk_spill hb1) i)
    | (go_at_call 112; refine (rwhole_any _ _ _ _ _).mono ?_; rintro e w1 ⟨rfl, hb1⟩; have hp := fun i => blk_cell (blk_spill hb1) i)
    | (go_at_call 105; refine (nodeList_any _ _ _ xs _ (by first | exact HL.out.below (balloc (Below.refl _ _)) | exact HL.out.below (bstepA (Below.refl _ _) (by assumption))) hlen).mono ?_; rintro e w' ⟨rfl, rfl⟩)
    | (go_at_call 111; refine (rcounts_any _ _ _ xs _ (by first | exact HL.out.below (balloc (Below.refl _ _)) | exact HL.out.below (bstepA (Below.refl _ _) (by assumption))) hlen).mono ?_; rintro e w' ⟨rfl, rfl⟩)
    | fail)
  all_goals go_ret
  all_goals refine ⟨?_, ?_⟩
  all_goals first
    | exact balloc (Below.refl _ _)
    | exact bstepA (Below.refl _ _) (by assumption)
    | simp_all [beatB, okC, Bool.and_assoc]

set_option maxRecDepth 100000 in
set_option maxHeartbeats 1000000 in
theorem beatZero_any (t : Int) (ao : Option Addr) (n cc : Nat) (w : World) :
    Calls Try.prog 85 #[.agg #[.int .i64 t, .slice ao n cc]] w fun x w' => x = .returned (.bool (beatZ t n)) ∧ Below w.heap.size w w' := by
  go_enter Try.func85, Try.ntmps85
  go_wp2_with (first
    | (go_at_call 64; refine (within_any _ _ _ _).mono ?_; rintro e w' ⟨rfl, rfl⟩)
    | (go_at_call 72; refine (rwithin_any _ _ _ _).mono ?_; rintro e w' ⟨rfl, rfl⟩)
    | (go_at_call 101; refine (countFits_any _ _).mono ?_; rintro e w' ⟨rfl, rfl⟩)
    | (go_at_call 76; refine (nodeFits_any _ _).mono ?_; rintro e w' ⟨rfl, rfl⟩)
    | (go_at_call 106; refine (none_any _ _ _ _ _).mono ?_; rintro e w1 ⟨rfl, hb1⟩; have hp := fun i => blk_cell (blk_spill hb1) i)
    | (go_at_call 110; refine (rnone_any _ _ _ _ _).mono ?_; rintro e w1 ⟨rfl, hb1⟩; have hp := fun i => blk_cell (blk_spill hb1) i)
    | (go_at_call 107; refine (whole_any _ _ _ _ _).mono ?_; rintro e w1 ⟨rfl, hb1⟩; have hp := fun i => blk_cell (blk_spill hb1) i)
    | (go_at_call 112; refine (rwhole_any _ _ _ _ _).mono ?_; rintro e w1 ⟨rfl, hb1⟩; have hp := fun i => blk_cell (blk_spill hb1) i)
    | fail)
  all_goals go_ret
  all_goals refine ⟨?_, ?_⟩
  all_goals first
    | exact balloc (Below.refl _ _)
    | exact bstepA (Below.refl _ _) (by assumption)
    | simp_all [beatZ]

set_option maxRecDepth 100000 in
set_option maxHeartbeats 1000000 in
theorem flushZero_any (e l i c b : Int) (a1 a2 : Option Addr) (n m c1 c2 : Nat) (w : World) :
    Calls Try.prog 87 #[.agg #[.int .i64 e, .int .i64 l, .int .i64 i, .int .i64 c, .int .i64 b, .slice a1 n c1, .slice a2 m c2]] w fun x w' => x = .returned (.bool (flushZ e l i c b n m)) ∧ Below w.heap.size w w' := by
  go_enter Try.func87, Try.ntmps87
  go_wp2_with (first
    | (go_at_call 64; refine (within_any _ _ _ _).mono ?_; rintro e w' ⟨rfl, rfl⟩)
    | (go_at_call 72; refine (rwithin_any _ _ _ _).mono ?_; rintro e w' ⟨rfl, rfl⟩)
    | (go_at_call 101; refine (countFits_any _ _).mono ?_; rintro e w' ⟨rfl, rfl⟩)
    | (go_at_call 76; refine (nodeFits_any _ _).mono ?_; rintro e w' ⟨rfl, rfl⟩)
    | (go_at_call 106; refine (none_any _ _ _ _ _).mono ?_; rintro e w1 ⟨rfl, hb1⟩; have hp := fun i => blk_cell (blk_spill hb1) i)
    | (go_at_call 110; refine (rnone_any _ _ _ _ _).mono ?_; rintro e w1 ⟨rfl, hb1⟩; have hp := fun i => blk_cell (blk_spill hb1) i)
    | (go_at_call 107; refine (whole_any _ _ _ _ _).mono ?_; rintro e w1 ⟨rfl, hb1⟩; have hp := fun i => blk_cell (blk_spill hb1) i)
    | (go_at_call 112; refine (rwhole_any _ _ _ _ _).mono ?_; rintro e w1 ⟨rfl, hb1⟩; have hp := fun i => blk_cell (blk_spill hb1) i)
    | fail)
  all_goals go_ret
  all_goals refine ⟨?_, ?_⟩
  all_goals first
    | exact balloc (Below.refl _ _)
    | exact bstepA (Below.refl _ _) (by assumption)
    | simp_all [flushZ, Bool.and_assoc]

set_option maxRecDepth 100000 in
set_option maxHeartbeats 1000000 in
theorem forwardZero_any (e l i c : Int) (a1 : Option Addr) (n c1 : Nat) (w : World) :
    Calls Try.prog 89 #[.agg #[.int .i64 e, .int .i64 l, .int .i64 i, .int .i64 c, .slice a1 n c1]] w fun x w' => x = .returned (.bool (forwardZ e l i c n)) ∧ Below w.heap.size w w' := by
  go_enter Try.func89, Try.ntmps89
  go_wp2_with (first
    | (go_at_call 64; refine (within_any _ _ _ _).mono ?_; rintro e w' ⟨rfl, rfl⟩)
    | (go_at_call 72; refine (rwithin_any _ _ _ _).mono ?_; rintro e w' ⟨rfl, rfl⟩)
    | (go_at_call 101; refine (countFits_any _ _).mono ?_; rintro e w' ⟨rfl, rfl⟩)
    | (go_at_call 76; refine (nodeFits_any _ _).mono ?_; rintro e w' ⟨rfl, rfl⟩)
    | (go_at_call 106; refine (none_any _ _ _ _ _).mono ?_; rintro e w1 ⟨rfl, hb1⟩; have hp := fun i => blk_cell (blk_spill hb1) i)
    | (go_at_call 110; refine (rnone_any _ _ _ _ _).mono ?_; rintro e w1 ⟨rfl, hb1⟩; have hp := fun i => blk_cell (blk_spill hb1) i)
    | (go_at_call 107; refine (whole_any _ _ _ _ _).mono ?_; rintro e w1 ⟨rfl, hb1⟩; have hp := fun i => blk_cell (blk_spill hb1) i)
    | (go_at_call 112; refine (rwhole_any _ _ _ _ _).mono ?_; rintro e w1 ⟨rfl, hb1⟩; have hp := fun i => blk_cell (blk_spill hb1) i)
    | fail)
  all_goals go_ret
  all_goals refine ⟨?_, ?_⟩
  all_goals first
    | exact balloc (Below.refl _ _)
    | exact bstepA (Below.refl _ _) (by assumption)
    | simp_all [forwardZ]

set_option maxRecDepth 100000 in
set_option maxHeartbeats 1000000 in
theorem proposeZero_any (a1 : Option Addr) (n c1 : Nat) (d r t e l i c : Int) (a2 : Option Addr) (m c2 : Nat) (w : World) :
    Calls Try.prog 86 #[.agg #[.slice a1 n c1, .int .i64 d, .int .i64 r, .int .i64 t, .int .i64 e, .int .i64 l, .int .i64 i, .int .i64 c, .slice a2 m c2]] w fun x w' => x = .returned (.bool (proposeZ n d r t e l i c m)) ∧ Below w.heap.size w w' := by
  go_enter Try.func86, Try.ntmps86
  go_wp2_with (first
    | (go_at_call 64; refine (within_any _ _ _ _).mono ?_; rintro e w' ⟨rfl, rfl⟩)
    | (go_at_call 72; refine (rwithin_any _ _ _ _).mono ?_; rintro e w' ⟨rfl, rfl⟩)
    | (go_at_call 101; refine (countFits_any _ _).mono ?_; rintro e w' ⟨rfl, rfl⟩)
    | (go_at_call 76; refine (nodeFits_any _ _).mono ?_; rintro e w' ⟨rfl, rfl⟩)
    | (go_at_call 106; refine (none_any _ _ _ _ _).mono ?_; rintro e w1 ⟨rfl, hb1⟩; have hp := fun i => blk_cell (blk_spill hb1) i)
    | (go_at_call 110; refine (rnone_any _ _ _ _ _).mono ?_; rintro e w1 ⟨rfl, hb1⟩; have hp := fun i => blk_cell (blk_spill hb1) i)
    | (go_at_call 107; refine (whole_any _ _ _ _ _).mono ?_; rintro e w1 ⟨rfl, hb1⟩; have hp := fun i => blk_cell (blk_spill hb1) i)
    | (go_at_call 112; refine (rwhole_any _ _ _ _ _).mono ?_; rintro e w1 ⟨rfl, hb1⟩; have hp := fun i => blk_cell (blk_spill hb1) i)
    | fail)
  all_goals go_ret
  all_goals refine ⟨?_, ?_⟩
  all_goals first
    | exact balloc (Below.refl _ _)
    | exact bstepA (Below.refl _ _) (by assumption)
    | simp_all [proposeZ, Bool.and_assoc]

def Rs (w : World) (ao : Option Addr) (n : Nat) (xs : List (Int × Int)) : Prop :=
  xs.length = n ∧ (n = 0 ∨ ∃ b off, ao = some ⟨b, off, none⟩ ∧ ∀ i, i < n → w.cell? ⟨b, off + i * 2, none⟩ = some (.int .i64 (xs.getD i (0, 0)).1) ∧ w.cell? ⟨b, off + i * 2 + 1, none⟩ = some (.int .i64 (xs.getD i (0, 0)).2))

theorem Rs.below {w w1 : World} {ao : Option Addr} {n : Nat} {xs : List (Int × Int)} (h : Rs w ao n xs) (hb : Below w.heap.size w w1) : Rs w1 ao n xs := by
  refine ⟨h.1, ?_⟩
  rcases h.2 with h | ⟨b, off, rfl, hc⟩
  · exact .inl h
  · exact .inr ⟨b, off, rfl, fun i hi => ⟨(hb.cell (World.block_lt_of_cell? w _ (hc i hi).1)).trans (hc i hi).1, (hb.cell (World.block_lt_of_cell? w _ (hc i hi).2)).trans (hc i hi).2⟩⟩

theorem all_take_succ' {α : Type} {xs : List α} {f : α → Bool} {j : Nat} {d : α} (h : j < xs.length) : (xs.take (j + 1)).all f = ((xs.take j).all f && f (xs.getD j d)) := by
  rw [List.take_add_one, List.all_append, List.getElem?_eq_getElem h]
  simp [List.getD, h]

theorem all_false' {α : Type} {xs : List α} {f : α → Bool} {j : Nat} (h : (xs.take j).all f = false) : xs.all f = false := by
  have e : xs.all f = ((xs.take j).all f && (xs.drop j).all f) := by rw [← List.all_append, List.take_append_drop]
  rw [e, h]; rfl

theorem lt_heapL {w : World} {k : Nat} {o : Obj} (h : w.heap[k]? = some o) : k < w.heap.size := by
  rcases Array.getElem?_eq_some_iff.1 h with ⟨h, _⟩; exact h

theorem nodeList_eq (ao : Option Addr) (n c : Nat) (xs : List Int) (r : Bool) (w : World) (hr : Ri w ao n xs) (hlen : n ≤ 140737488355328) (h : (inR n 1 16 && xs.all okC) = r) :
    Calls Try.prog 105 #[.slice ao n c] w fun e w' => e = .returned (.bool r) ∧ w = w' := by
  subst h
  exact nodeList_any ao n c xs w hr hlen

theorem vecFits_eq (a1 a2 : Option Addr) (n m c1 c2 : Nat) (vs ss : List Int) (r : Bool) (w : World) (h1 : Ri w a1 n vs) (h2 : Ri w a2 m ss) (hlen : n ≤ 140737488355328) (h : (decide (n = m) && vecTo vs ss n) = r) :
    Calls Try.prog 108 #[.slice a1 n c1, .slice a2 m c2] w fun e w' => e = .returned (.bool r) ∧ w = w' := by
  subst h
  exact vecFits_any a1 a2 n m c1 c2 vs ss w h1 h2 hlen

def okS (x : Int × Int) : Bool := slotOK x.1 x.2

def flushB (e l i c b : Int) (n : Nat) (sl : List (Int × Int)) (m : Nat) (hs : List Int) : Bool := wholeB e l i c && okC b && decide (n ≤ 128) && sl.all okS && (inR m 1 16 && hs.all okC)

set_option maxRecDepth 100000 in
set_option maxHeartbeats 1000000 in
theorem flushFits_any (e l i c b : Int) (a1 : Option Addr) (n c1 : Nat) (sl : List (Int × Int)) (a2 : Option Addr) (m c2 : Nat) (hs : List Int) (w : World) (h1 : Rs w a1 n sl) (h2 : Ri w a2 m hs) (hl1 : n ≤ 140737488355328) (hl2 : m ≤ 140737488355328) :
    Calls Try.prog 80 #[.agg #[.int .i64 e, .int .i64 l, .int .i64 i, .int .i64 c, .int .i64 b, .slice a1 n c1, .slice a2 m c2]] w fun x w' => x = .returned (.bool (flushB e l i c b n sl m hs)) ∧ Below w.heap.size w w' := by
  have HS : Hid (Rs w a1 n sl) := h1
  have HV : Hid (Ri w a2 m hs) := h2
  clear h1 h2
  cases hw : wholeB e l i c with
  | false =>
    go_enter Try.func80, Try.ntmps80
    go_wp2_with (first
      | (go_at_call 107; refine (whole_any _ _ _ _ _).mono ?_; rintro e w1 ⟨rfl, hb1⟩; have hp := fun i => blk_cell (blk_spill hb1) i)
      | fail)
    go_ret
    exact ⟨by simp [flushB, hw], bstepA (Below.refl _ _) (by assumption)⟩
  | true =>
    cases hb : okC b with
    | false =>
      have hb' : inR b 0 4611686018427387904 = false := hb
      go_enter Try.func80, Try.ntmps80
      go_wp2_with (first
        | (go_at_call 107; refine (whole_any _ _ _ _ _).mono ?_; rintro e w1 ⟨rfl, hb1⟩; have hp := fun i => blk_cell (blk_spill hb1) i)
        | (go_at_call 101; refine (countFits_any _ _).mono ?_; rintro e w' ⟨rfl, rfl⟩)
        | fail)
      go_ret
      exact ⟨by simp [flushB, hw, hb], bstepA (Below.refl _ _) (by assumption)⟩
    | true =>
      have hb' : inR b 0 4611686018427387904 = true := hb
      by_cases hn : n ≤ 128
      · have hn' : ¬ ((128 : Int) < (n : Int)) := by omega
        go_enter Try.func80, Try.ntmps80
        go_wp2_with (first
          | (go_at_call 107; refine (whole_any _ _ _ _ _).mono ?_; rintro e w1 ⟨rfl, hb1⟩; have hp := fun i => blk_cell (blk_spill hb1) i)
          | (go_at_call 101; refine (countFits_any _ _).mono ?_; rintro e w' ⟨rfl, rfl⟩)
          | fail)
        have HB1 : Hid (Below w.heap.size w w1) := bstepA (Below.refl _ _) hb1
        have HP : Hid (w1.heap[w.heap.size]? = some (.cells #[.int .i64 e, .int .i64 l, .int .i64 i, .int .i64 c, .int .i64 b, .slice a1 n c1, .slice a2 m c2] 61 (0, 0))) := blk_spill hb1
        have HFB : Hid (flushB e l i c b n sl m hs = (sl.all okS && (inR m 1 16 && hs.all okC))) := by
          show _ = _
          unfold flushB
          rw [hw, hb]
          simp [hn]
        clear hb1 hp
        go_loopw [24] (fun x wr => ∃ j : Nat, j ≤ n ∧ x = .int .i64 j ∧ Hid ((sl.take j).all okS = true) ∧ Hid (Below w1.heap.size w1 wr)) (fun x _ => n - (intOf x).toNat)
        case atStart => exact ⟨0, Nat.zero_le _, rfl, (by simp : (sl.take 0).all okS = true), Below.refl _ _⟩
        case round =>
          obtain ⟨j, hj, rfl, hall, hbr⟩ := hrel
          by_cases hjn : j < n
          · obtain ⟨bb, off, rfl, hc1, hc2⟩ : ∃ bb off, a1 = some ⟨bb, off, none⟩ ∧ wr.cell? ⟨bb, off + j * 2, none⟩ = some (.int .i64 (sl.getD j (0, 0)).1) ∧ wr.cell? ⟨bb, off + j * 2 + 1, none⟩ = some (.int .i64 (sl.getD j (0, 0)).2) := by
              rcases (HS.out.below (bstep HB1.out hbr.out)).2 with h | ⟨bb, off, rfl, hc⟩
              · omega
              · exact ⟨bb, off, rfl, (hc j hjn).1, (hc j hjn).2⟩
            obtain ⟨x, hx⟩ : ∃ x, (sl.getD j (0, 0)).1 = x := ⟨_, rfl⟩
            obtain ⟨y, hy⟩ : ∃ y, (sl.getD j (0, 0)).2 = y := ⟨_, rfl⟩
            rw [hx] at hc1
            rw [hy] at hc2
            have HSj : Hid ((sl.take (j + 1)).all okS = slotOK x y) := by
              show _ = _
              rw [all_take_succ' (by have := HS.out.1; omega), hall.out, Bool.true_and]
              unfold okS
              rw [hx, hy]
            clear hx hy
            cases hok : slotOK x y with
            | true =>
              have HS' : Hid ((sl.take (j + 1)).all okS = true) := HSj.out.trans hok
              go_wp2_with fail
              refine (slotFits_any x y _).mono ?_
              rintro e w2 ⟨rfl, hb2⟩
              have HB2 : Hid (Below w1.heap.size w1 w2) := bstepA hbr.out hb2
              clear hb2
              go_wp2_with fail
              go_roundw
              case rel => exact ⟨j + 1, by omega, by go_num, HS', HB2⟩
              case measure => simp [intOf]; omega
            | false =>
              have HS' : Hid ((sl.take (j + 1)).all okS = false) := HSj.out.trans hok
              go_wp2_with fail
              refine (slotFits_any x y _).mono ?_
              rintro e w2 ⟨rfl, hb2⟩
              have HB2 : Hid (Below w1.heap.size w1 w2) := bstepA hbr.out hb2
              clear hb2
              go_wp2_with fail
              go_ret
              exact ⟨by rw [HFB.out, all_false' HS'.out]; rfl, bstep HB1.out HB2.out⟩
          · have HT : Hid (sl.all okS = true) := by
              show _ = _
              have e : sl.take j = sl := List.take_of_length_le (by have := HS.out.1; omega)
              rw [← e]; exact hall.out
            have hp := fun i => blk_cell ((hbr.out.block w.heap.size (lt_heapL HP.out)).trans HP.out) i
            obtain ⟨r, hr⟩ : ∃ r, (inR m 1 16 && hs.all okC) = r := ⟨_, rfl⟩
            have HRR : Hid ((inR m 1 16 && hs.all okC) = r) := hr
            clear hr
            go_wp2_with fail
            refine (nodeList_eq a2 m c2 hs r wr (HV.out.below (bstep HB1.out hbr.out)) hl2 HRR.out).mono ?_
            rintro e w' ⟨rfl, rfl⟩
            go_wp2_with fail
            go_ret
            exact ⟨by rw [HFB.out, HT.out, HRR.out]; rfl, bstep HB1.out hbr.out⟩
      · have hn' : ((128 : Int) < (n : Int)) := by omega
        go_enter Try.func80, Try.ntmps80
        go_wp2_with (first
          | (go_at_call 107; refine (whole_any _ _ _ _ _).mono ?_; rintro e w1 ⟨rfl, hb1⟩; have hp := fun i => blk_cell (blk_spill hb1) i)
          | (go_at_call 101; refine (countFits_any _ _).mono ?_; rintro e w' ⟨rfl, rfl⟩)
          | fail)
        go_ret
        exact ⟨by simp [flushB, hw, hb, hn], bstepA (Below.refl _ _) (by assumption)⟩

set_option maxRecDepth 100000 in
set_option maxHeartbeats 1000000 in
theorem proposeFits_any (a1 : Option Addr) (n c1 : Nat) (ss : List Int) (d r t e l i c : Int) (a2 : Option Addr) (m c2 : Nat) (vs : List Int) (w : World) (h1 : Ri w a1 n ss) (h2 : Ri w a2 m vs) (hl1 : n ≤ 140737488355328) (hl2 : m ≤ 140737488355328) :
    Calls Try.prog 79 #[.agg #[.slice a1 n c1, .int .i64 d, .int .i64 r, .int .i64 t, .int .i64 e, .int .i64 l, .int .i64 i, .int .i64 c, .slice a2 m c2]] w fun x w' => x = .returned (.bool (proposeB n ss d r t e l i c m vs)) ∧ Below w.heap.size w w' := by
  have HS : Hid (Ri w a1 n ss) := h1
  have HV : Hid (Ri w a2 m vs) := h2
  obtain ⟨r1, hr1⟩ : ∃ r1, (inR n 1 16 && ss.all okC) = r1 := ⟨_, rfl⟩
  obtain ⟨r2, hr2⟩ : ∃ r2, (decide (m = n) && vecTo vs ss m) = r2 := ⟨_, rfl⟩
  have HR1 : Hid ((inR n 1 16 && ss.all okC) = r1) := hr1
  have HR2 : Hid ((decide (m = n) && vecTo vs ss m) = r2) := hr2
  have e0 : proposeB n ss d r t e l i c m vs = (r1 && inR d 1 4611686018427387904 && inR r 1 4611686018427387904 && okC t && (noneB e l i c || wholeB e l i c) && r2) := by
    unfold proposeB
    rw [hr1, hr2]
  rw [e0]
  clear h1 h2 hr1 hr2 e0
  go_enter Try.func79, Try.ntmps79
  go_wp2_with (first
    | (go_at_call 64; refine (within_any _ _ _ _).mono ?_; rintro e w' ⟨rfl, rfl⟩)
    | (go_at_call 72; refine (rwithin_any _ _ _ _).mono ?_; rintro e w' ⟨rfl, rfl⟩)
    | (go_at_call 101; refine (countFits_any _ _).mono ?_; rintro e w' ⟨rfl, rfl⟩)
    | (go_at_call 76; refine (nodeFits_any _ _).mono ?_; rintro e w' ⟨rfl, rfl⟩)
    | (go_at_call 106; refine (none_any _ _ _ _ _).mono ?_; rintro e w1 ⟨rfl, hb1⟩; have hp := fun i => blk_cell (blk_spill hb1) i)
    | (go_at_call 110; refine (rnone_any _ _ _ _ _).mono ?_; rintro e w1 ⟨rfl, hb1⟩; have hp := fun i => blk_cell (blk_spill hb1) i)
    | (go_at_call 107; refine (whole_any _ _ _ _ _).mono ?_; rintro e w2 ⟨rfl, hb2⟩; have hbb := blk_spill hb1; have hp2 := fun i => blk_cell ((hb2.block _ (lt_heapL hbb)).trans hbb) i; have hb3 := bstep hb1 hb2; clear hbb hb1)
    | (go_at_call 112; refine (rwhole_any _ _ _ _ _).mono ?_; rintro e w1 ⟨rfl, hb1⟩; have hp := fun i => blk_cell (blk_spill hb1) i)
    | (go_at_call 105; refine (nodeList_eq _ _ _ ss r1 _ (by first | exact HS.out.below (balloc (Below.refl _ _)) | exact HS.out.below (bstepA (Below.refl _ _) (by assumption))) hl1 HR1.out).mono ?_; rintro e w' ⟨rfl, rfl⟩)
    | (go_at_call 108; refine (vecFits_eq _ _ _ _ _ _ vs ss r2 _ (by first | exact HV.out.below (balloc (Below.refl _ _)) | exact HV.out.below (bstepA (Below.refl _ _) (by assumption))) (by first | exact HS.out.below (balloc (Below.refl _ _)) | exact HS.out.below (bstepA (Below.refl _ _) (by assumption))) hl2 HR2.out).mono ?_; rintro e w' ⟨rfl, rfl⟩)
    | fail)
  all_goals go_ret
  all_goals refine ⟨?_, ?_⟩
  all_goals first
    | exact balloc (Below.refl _ _)
    | exact bstepA (Below.refl _ _) (by assumption)
    | simp_all [okC, Bool.and_assoc]

structure Dt where
  s : Int
  q : Int
  st : Int
  a : Option Addr
  n : Nat
  c : Nat

def Dt.cs (d : Dt) : Array Value := #[.int .i64 d.s, .int .i64 d.q, .int .i64 d.st, .slice d.a d.n d.c]

def dt0 : Dt := ⟨0, 0, 0, none, 0, 0⟩

def Rm (w : World) (ao : Option Addr) (n : Nat) (ds : List Dt) : Prop :=
  ds.length = n ∧ (n = 0 ∨ ∃ b off, ao = some ⟨b, off, none⟩ ∧ ∀ i, i < n → w.cell? ⟨b, off + i * 4, none⟩ = some (.int .i64 (ds.getD i dt0).s) ∧ w.cell? ⟨b, off + i * 4 + 1, none⟩ = some (.int .i64 (ds.getD i dt0).q) ∧ w.cell? ⟨b, off + i * 4 + 2, none⟩ = some (.int .i64 (ds.getD i dt0).st) ∧ w.cell? ⟨b, off + i * 4 + 3, none⟩ = some (.slice (ds.getD i dt0).a (ds.getD i dt0).n (ds.getD i dt0).c))

theorem Rm.below {w w1 : World} {ao : Option Addr} {n : Nat} {ds : List Dt} (h : Rm w ao n ds) (hb : Below w.heap.size w w1) : Rm w1 ao n ds := by
  refine ⟨h.1, ?_⟩
  rcases h.2 with h | ⟨b, off, rfl, hc⟩
  · exact .inl h
  · refine .inr ⟨b, off, rfl, fun i hi => ?_⟩
    obtain ⟨h1, h2, h3, h4⟩ := hc i hi
    exact ⟨(hb.cell (World.block_lt_of_cell? w _ h1)).trans h1, (hb.cell (World.block_lt_of_cell? w _ h2)).trans h2, (hb.cell (World.block_lt_of_cell? w _ h3)).trans h3, (hb.cell (World.block_lt_of_cell? w _ h4)).trans h4⟩

def risB (s q s' q' : Int) : Bool := decide (s < s') || (s' == s && decide (q < q'))

set_option maxRecDepth 100000 in
theorem rises_any (s q st : Int) (a : Option Addr) (n c : Nat) (s' q' st' : Int) (a' : Option Addr) (n' c' : Nat) (w : World) :
    Calls Try.prog 109 #[.agg #[.int .i64 s, .int .i64 q, .int .i64 st, .slice a n c], .agg #[.int .i64 s', .int .i64 q', .int .i64 st', .slice a' n' c']] w fun x w' => x = .returned (.bool (risB s q s' q')) ∧ Below w.heap.size w w' := by
  go_enter Try.func109, Try.ntmps109
  go_wp2_with fail
  all_goals go_ret
  all_goals refine ⟨?_, balloc (balloc (Below.refl _ _))⟩
  all_goals simp_all [risB]
  all_goals omega

def prevD (ds : List Dt) (j : Nat) : Dt := if j = 0 then dt0 else ds.getD (j - 1) dt0

def okF (ds : List Dt) (j : Nat) : Bool := dataOK (ds.getD j dt0).s (ds.getD j dt0).q (ds.getD j dt0).st (ds.getD j dt0).n && risB (prevD ds j).s (prevD ds j).q (ds.getD j dt0).s (ds.getD j dt0).q

def fwdTo (ds : List Dt) (j : Nat) : Bool := (List.range j).all (okF ds)

theorem fwdTo_succ (ds : List Dt) (j : Nat) : fwdTo ds (j + 1) = (fwdTo ds j && okF ds j) := by simp [fwdTo, List.range_succ]

theorem fwdTo_false {ds : List Dt} {j n : Nat} (h : fwdTo ds j = false) (hj : j ≤ n) : fwdTo ds n = false := by
  obtain ⟨k, rfl⟩ := Nat.exists_eq_add_of_le hj
  clear hj
  induction k with
  | zero => exact h
  | succ k ih => rw [← Nat.add_assoc, fwdTo_succ, ih]; rfl

def forwardB (e l i c : Int) (n : Nat) (ds : List Dt) : Bool := wholeB e l i c && inR n 1 128 && fwdTo ds n

set_option maxRecDepth 100000 in
set_option maxHeartbeats 2000000 in
theorem forwardFits_any (e l i c : Int) (a1 : Option Addr) (n c1 : Nat) (ds : List Dt) (w : World) (h1 : Rm w a1 n ds) (hl1 : n ≤ 140737488355328) :
    Calls Try.prog 84 #[.agg #[.int .i64 e, .int .i64 l, .int .i64 i, .int .i64 c, .slice a1 n c1]] w fun x w' => x = .returned (.bool (forwardB e l i c n ds)) ∧ Below w.heap.size w w' := by
  have HS : Hid (Rm w a1 n ds) := h1
  clear h1
  cases hw : wholeB e l i c with
  | false =>
    go_enter Try.func84, Try.ntmps84
    go_wp2_with (first
      | (go_at_call 107; refine (whole_any _ _ _ _ _).mono ?_; rintro e w1 ⟨rfl, hb1⟩; have hp := fun i => blk_cell (blk_spill hb1) i)
      | fail)
    go_ret
    exact ⟨by simp [forwardB, hw], bstepA (Below.refl _ _) (by assumption)⟩
  | true =>
    cases hn : inR n 1 128 with
    | false =>
      go_enter Try.func84, Try.ntmps84
      go_wp2_with (first
        | (go_at_call 107; refine (whole_any _ _ _ _ _).mono ?_; rintro e w1 ⟨rfl, hb1⟩; have hp := fun i => blk_cell (blk_spill hb1) i)
        | (go_at_call 64; refine (within_any _ _ _ _).mono ?_; rintro e w' ⟨rfl, rfl⟩)
        | fail)
      go_ret
      exact ⟨by simp [forwardB, hw, hn], bstepA (Below.refl _ _) (by assumption)⟩
    | true =>
      obtain ⟨r, hr⟩ : ∃ r, fwdTo ds n = r := ⟨_, rfl⟩
      have HRR : Hid (fwdTo ds n = r) := hr
      have hFB : forwardB e l i c n ds = r := by unfold forwardB; rw [hw, hn, hr]; rfl
      rw [hFB]
      clear hr hFB
      go_enter Try.func84, Try.ntmps84
      go_wp2_with (first
        | (go_at_call 107; refine (whole_any _ _ _ _ _).mono ?_; rintro e w1 ⟨rfl, hb1⟩; have hp := fun i => blk_cell (blk_spill hb1) i; have hpa := fun o i => blk_cell (blk_alloc (o := o) (blk_spill hb1)) i)
        | (go_at_call 64; refine (within_any _ _ _ _).mono ?_; rintro e w' ⟨rfl, rfl⟩)
        | fail)
      have HB1 : Hid (Below w.heap.size w (w1.alloc (.cells #[.int .i64 0, .int .i64 0, .int .i64 0, .slice none 0 0] 24))) := balloc (bstepA (Below.refl _ _) hb1)
      have HA1 : Hid ((w1.alloc (.cells #[.int .i64 0, .int .i64 0, .int .i64 0, .slice none 0 0] 24)).heap[w1.heap.size]? = some (.cells #[.int .i64 0, .int .i64 0, .int .i64 0, .slice none 0 0] 24 (0, 0))) := heap_alloc_new _ _
      have hwa : w.heap.size ≤ w1.heap.size := (bstepA (Below.refl _ _) hb1 : Below w.heap.size w w1).size
      clear hb1 hp hpa
      generalize w1.alloc (.cells #[.int .i64 0, .int .i64 0, .int .i64 0, .slice none 0 0] 24) = WA at *
      generalize w1.heap.size = ah at *
      go_loopw [21] (fun x wr => ∃ (j : Nat) (ps pq pt : Int) (pa : Option Addr) (pn pc : Nat), j ≤ n ∧ x = .int .i64 j ∧ Hid (fwdTo ds j = true) ∧ Hid (prevD ds j = ⟨ps, pq, pt, pa, pn, pc⟩) ∧ Hid (wr.heap[ah]? = some (.cells #[.int .i64 ps, .int .i64 pq, .int .i64 pt, .slice pa pn pc] 24 (0, 0))) ∧ Hid (Below w.heap.size w wr)) (fun x _ => n - (intOf x).toNat)
      case atStart => exact ⟨0, 0, 0, 0, none, 0, 0, Nat.zero_le _, rfl, (rfl : fwdTo ds 0 = true), (rfl : prevD ds 0 = dt0), HA1, HB1⟩
      case round =>
        obtain ⟨j, ps, pq, pt, pa, pn, pc, hj, rfl, hall, hpv, hah, hbr⟩ := hrel
        by_cases hjn : j < n
        · obtain ⟨s, q, st, da, dn, dc, hdt⟩ : ∃ s q st da dn dc, ds.getD j dt0 = ⟨s, q, st, da, dn, dc⟩ := ⟨_, _, _, _, _, _, rfl⟩
          obtain ⟨bb, off, rfl, hc0, hc1, hc2, hc3⟩ : ∃ bb off, a1 = some ⟨bb, off, none⟩ ∧ wr.cell? ⟨bb, off + j * 4, none⟩ = some (.int .i64 s) ∧ wr.cell? ⟨bb, off + j * 4 + 1, none⟩ = some (.int .i64 q) ∧ wr.cell? ⟨bb, off + j * 4 + 2, none⟩ = some (.int .i64 st) ∧ wr.cell? ⟨bb, off + j * 4 + 3, none⟩ = some (.slice da dn dc) := by
            rcases (HS.out.below hbr.out).2 with h | ⟨bb, off, rfl, hc⟩
            · omega
            · have h := hc j hjn
              rw [hdt] at h
              exact ⟨bb, off, rfl, h.1, h.2.1, h.2.2.1, h.2.2.2⟩
          have HSj : Hid (fwdTo ds (j + 1) = (dataOK s q st dn && risB ps pq s q)) := by
            show _ = _
            rw [fwdTo_succ, hall.out, Bool.true_and]
            unfold okF
            rw [hdt, hpv.out]
          have HPV : Hid (prevD ds (j + 1) = ⟨s, q, st, da, dn, dc⟩) := by
            show _ = _
            unfold prevD
            rw [if_neg (by omega)]
            exact hdt
          clear hdt hpv
          cases hok : dataOK s q st dn with
          | false =>
              have HF : Hid (r = false) := by
                show _ = _
                rw [← HRR.out]
                exact fwdTo_false (HSj.out.trans (by rw [hok]; rfl)) (by omega)
              have D0 : Hid (Two w (wr.alloc (.cells #[.int .i64 s, .int .i64 q, .int .i64 st, .slice da dn dc] 24)) wr.heap.size #[.int .i64 s, .int .i64 q, .int .i64 st, .slice da dn dc] ah #[.int .i64 ps, .int .i64 pq, .int .i64 pt, .slice pa pn pc] 24) := ⟨heap_alloc_new wr _, blk_alloc hah.out, balloc hbr.out, by have := lt_heap hah.out; omega, hwa⟩
              have k0 := fun i => D0.out.cd i
              go_wp2_with fail
              clear k0
              generalize wr.alloc (.cells #[.int .i64 s, .int .i64 q, .int .i64 st, .slice da dn dc] 24) = W at *
              generalize wr.heap.size = db at *
              refine (dataFits_any s q st da dn dc W).mono ?_
              rintro e w2 ⟨rfl, hb2⟩
              have D2 : Hid (Two w w2 db #[.int .i64 s, .int .i64 q, .int .i64 st, .slice da dn dc] ah #[.int .i64 ps, .int .i64 pq, .int .i64 pt, .slice pa pn pc] 24) := D0.out.still hb2
              clear hb2 D0
              go_wp2_with fail
              go_ret
              exact ⟨by rw [HF.out]; rfl, D2.out.b⟩
          | true =>
            cases hri : risB ps pq s q with
            | false =>
              have HF : Hid (r = false) := by
                show _ = _
                rw [← HRR.out]
                exact fwdTo_false (HSj.out.trans (by rw [hok, hri]; rfl)) (by omega)
              have D0 : Hid (Two w (wr.alloc (.cells #[.int .i64 s, .int .i64 q, .int .i64 st, .slice da dn dc] 24)) wr.heap.size #[.int .i64 s, .int .i64 q, .int .i64 st, .slice da dn dc] ah #[.int .i64 ps, .int .i64 pq, .int .i64 pt, .slice pa pn pc] 24) := ⟨heap_alloc_new wr _, blk_alloc hah.out, balloc hbr.out, by have := lt_heap hah.out; omega, hwa⟩
              have k0 := fun i => D0.out.cd i
              go_wp2_with fail
              clear k0
              generalize wr.alloc (.cells #[.int .i64 s, .int .i64 q, .int .i64 st, .slice da dn dc] 24) = W at *
              generalize wr.heap.size = db at *
              refine (dataFits_any s q st da dn dc W).mono ?_
              rintro e w2 ⟨rfl, hb2⟩
              have D2 : Hid (Two w w2 db #[.int .i64 s, .int .i64 q, .int .i64 st, .slice da dn dc] ah #[.int .i64 ps, .int .i64 pq, .int .i64 pt, .slice pa pn pc] 24) := D0.out.still hb2
              clear hb2 D0
              have k2 := fun i => D2.out.cd i
              have k3 := fun i => D2.out.co i
              go_wp2_with fail
              clear k2 k3
              refine (rises_any ps pq pt pa pn pc s q st da dn dc w2).mono ?_
              rintro e w3 ⟨rfl, hb3⟩
              have D3 : Hid (Two w w3 db #[.int .i64 s, .int .i64 q, .int .i64 st, .slice da dn dc] ah #[.int .i64 ps, .int .i64 pq, .int .i64 pt, .slice pa pn pc] 24) := D2.out.still hb3
              clear hb3 D2
              go_wp2_with fail
              go_ret
              exact ⟨by rw [HF.out]; rfl, D3.out.b⟩
            | true =>
              have HT : Hid (fwdTo ds (j + 1) = true) := HSj.out.trans (by rw [hok, hri]; rfl)
              have D0 : Hid (Two w (wr.alloc (.cells #[.int .i64 s, .int .i64 q, .int .i64 st, .slice da dn dc] 24)) wr.heap.size #[.int .i64 s, .int .i64 q, .int .i64 st, .slice da dn dc] ah #[.int .i64 ps, .int .i64 pq, .int .i64 pt, .slice pa pn pc] 24) := ⟨heap_alloc_new wr _, blk_alloc hah.out, balloc hbr.out, by have := lt_heap hah.out; omega, hwa⟩
              have k0 := fun i => D0.out.cd i
              go_wp2_with fail
              clear k0
              generalize wr.alloc (.cells #[.int .i64 s, .int .i64 q, .int .i64 st, .slice da dn dc] 24) = W at *
              generalize wr.heap.size = db at *
              refine (dataFits_any s q st da dn dc W).mono ?_
              rintro e w2 ⟨rfl, hb2⟩
              have D2 : Hid (Two w w2 db #[.int .i64 s, .int .i64 q, .int .i64 st, .slice da dn dc] ah #[.int .i64 ps, .int .i64 pq, .int .i64 pt, .slice pa pn pc] 24) := D0.out.still hb2
              clear hb2 D0
              have k2 := fun i => D2.out.cd i
              have k3 := fun i => D2.out.co i
              go_wp2_with fail
              clear k2 k3
              refine (rises_any ps pq pt pa pn pc s q st da dn dc w2).mono ?_
              rintro e w3 ⟨rfl, hb3⟩
              have D3 : Hid (Two w w3 db #[.int .i64 s, .int .i64 q, .int .i64 st, .slice da dn dc] ah #[.int .i64 ps, .int .i64 pq, .int .i64 pt, .slice pa pn pc] 24) := D2.out.still hb3
              clear hb3 D2
              have k4 := fun i => D3.out.cd i
              have k5 := fun i => D3.out.co i
              have f0 := D3.out.fz 0
              obtain ⟨X0, hX0⟩ : ∃ X, w3.setCell ⟨ah, 0, none⟩ (.int .i64 s) = X := ⟨_, rfl⟩
              have B0 : Hid (Two w X0 db #[.int .i64 s, .int .i64 q, .int .i64 st, .slice da dn dc] ah #[.int .i64 s, .int .i64 pq, .int .i64 pt, .slice pa pn pc] 24) := by rw [← hX0]; exact D3.out.set 0 _
              have f1 := B0.out.fz 1
              have o1 := fun i => B0.out.co i
              obtain ⟨X1, hX1⟩ : ∃ X, X0.setCell ⟨ah, 1, none⟩ (.int .i64 q) = X := ⟨_, rfl⟩
              have B1 : Hid (Two w X1 db #[.int .i64 s, .int .i64 q, .int .i64 st, .slice da dn dc] ah #[.int .i64 s, .int .i64 q, .int .i64 pt, .slice pa pn pc] 24) := by rw [← hX1]; exact B0.out.set 1 _
              have f2 := B1.out.fz 2
              have o2 := fun i => B1.out.co i
              obtain ⟨X2, hX2⟩ : ∃ X, X1.setCell ⟨ah, 2, none⟩ (.int .i64 st) = X := ⟨_, rfl⟩
              have B2 : Hid (Two w X2 db #[.int .i64 s, .int .i64 q, .int .i64 st, .slice da dn dc] ah #[.int .i64 s, .int .i64 q, .int .i64 st, .slice pa pn pc] 24) := by rw [← hX2]; exact B1.out.set 2 _
              have f3 := B2.out.fz 3
              have o3 := fun i => B2.out.co i
              obtain ⟨X3, hX3⟩ : ∃ X, X2.setCell ⟨ah, 3, none⟩ (.slice da dn dc) = X := ⟨_, rfl⟩
              have B3 : Hid (Two w X3 db #[.int .i64 s, .int .i64 q, .int .i64 st, .slice da dn dc] ah #[.int .i64 s, .int .i64 q, .int .i64 st, .slice da dn dc] 24) := by rw [← hX3]; exact B2.out.set 3 _
              go_wp2_with fail
              go_roundw
              case rel => exact ⟨j + 1, s, q, st, da, dn, dc, by omega, by go_num, HT, HPV, B3.out.o, B3.out.b⟩
              case measure => simp [intOf]; omega
        · have HF : Hid (r = true) := by
            show _ = _
            rw [← HRR.out]
            have e : j = n := by omega
            rw [← e]; exact hall.out
          go_wp2_with fail
          go_ret
          exact ⟨by rw [HF.out]; rfl, hbr.out⟩

theorem rcounts_eq (ao : Option Addr) (n c : Nat) (xs : List Int) (r : Bool) (w : World) (hr : Ri w ao n xs) (hlen : n ≤ 140737488355328) (h : xs.all okC = r) :
    Calls Try.prog 111 #[.slice ao n c] w fun e w' => e = .returned (.bool r) ∧ w = w' := by
  subst h
  exact rcounts_any ao n c xs w hr hlen

set_option maxRecDepth 100000 in
set_option maxHeartbeats 2000000 in
theorem gflush_any (e l i c b : Int) (a1 : Option Addr) (n c1 : Nat) (sl : List (Int × Int)) (a2 : Option Addr) (m c2 : Nat) (hs : List Int) (w : World) (h1 : Rs w a1 n sl) (h2 : Ri w a2 m hs) (hl1 : n ≤ 140737488355328) (hl2 : m ≤ 140737488355328) :
    Calls Try.prog 93 #[.agg #[.int .i64 e, .int .i64 l, .int .i64 i, .int .i64 c, .int .i64 b, .slice a1 n c1, .slice a2 m c2]] w fun x w' => x = .returned (.bool (flushB e l i c b n sl m hs)) ∧ Below w.heap.size w w' := by
  have HS : Hid (Rs w a1 n sl) := h1
  have HV : Hid (Ri w a2 m hs) := h2
  obtain ⟨r, hr⟩ : ∃ r, hs.all okC = r := ⟨_, rfl⟩
  have HRR : Hid (hs.all okC = r) := hr
  clear h1 h2 hr
  cases hw : wholeB e l i c with
  | false =>
    have HFB : Hid (flushB e l i c b n sl m hs = false) := by
      show _ = _
      have hR := HRR.out
      unfold flushB okC at *
      rw [hR]
      simp_all
    go_enter Try.func93, Try.ntmps93
    go_wp2_with (first
      | (go_at_call 112; refine (rwhole_any _ _ _ _ _).mono ?_; rintro e w1 ⟨rfl, hb1⟩; have hp := fun i => blk_cell (blk_spill hb1) i)
      | (go_at_call 72; refine (rwithin_any _ _ _ _).mono ?_; rintro e w' ⟨rfl, rfl⟩)
      | (go_at_call 111; refine (rcounts_eq _ _ _ hs r _ (by exact HV.out.below (bstepA (Below.refl _ _) hb1)) hl2 HRR.out).mono ?_; rintro e w' ⟨rfl, rfl⟩)
      | fail)
    go_ret
    exact ⟨by rw [HFB.out]; rfl, bstepA (Below.refl _ _) hb1⟩
  | true =>
    cases hb : inR b 0 4611686018427387904 with
    | false =>
      have HFB : Hid (flushB e l i c b n sl m hs = false) := by
        show _ = _
        have hR := HRR.out
        unfold flushB okC at *
        rw [hR]
        simp_all
      go_enter Try.func93, Try.ntmps93
      go_wp2_with (first
        | (go_at_call 112; refine (rwhole_any _ _ _ _ _).mono ?_; rintro e w1 ⟨rfl, hb1⟩; have hp := fun i => blk_cell (blk_spill hb1) i)
        | (go_at_call 72; refine (rwithin_any _ _ _ _).mono ?_; rintro e w' ⟨rfl, rfl⟩)
        | (go_at_call 111; refine (rcounts_eq _ _ _ hs r _ (by exact HV.out.below (bstepA (Below.refl _ _) hb1)) hl2 HRR.out).mono ?_; rintro e w' ⟨rfl, rfl⟩)
        | fail)
      go_ret
      exact ⟨by rw [HFB.out]; rfl, bstepA (Below.refl _ _) hb1⟩
    | true =>
      by_cases hn : n ≤ 128
      · have hn' : ¬ ((128 : Int) < (n : Int)) := by omega
        cases hm : inR m 1 16 with
        | false =>
          have HFB : Hid (flushB e l i c b n sl m hs = false) := by
            show _ = _
            have hR := HRR.out
            unfold flushB okC at *
            rw [hR]
            simp_all
          go_enter Try.func93, Try.ntmps93
          go_wp2_with (first
            | (go_at_call 112; refine (rwhole_any _ _ _ _ _).mono ?_; rintro e w1 ⟨rfl, hb1⟩; have hp := fun i => blk_cell (blk_spill hb1) i)
            | (go_at_call 72; refine (rwithin_any _ _ _ _).mono ?_; rintro e w' ⟨rfl, rfl⟩)
            | (go_at_call 111; refine (rcounts_eq _ _ _ hs r _ (by exact HV.out.below (bstepA (Below.refl _ _) hb1)) hl2 HRR.out).mono ?_; rintro e w' ⟨rfl, rfl⟩)
            | fail)
          go_ret
          exact ⟨by rw [HFB.out]; rfl, bstepA (Below.refl _ _) hb1⟩
        | true =>
          cases r with
          | false =>
            have HFB : Hid (flushB e l i c b n sl m hs = false) := by
              show _ = _
              have hR := HRR.out
              unfold flushB okC at *
              rw [hR]
              simp_all
            go_enter Try.func93, Try.ntmps93
            go_wp2_with (first
              | (go_at_call 112; refine (rwhole_any _ _ _ _ _).mono ?_; rintro e w1 ⟨rfl, hb1⟩; have hp := fun i => blk_cell (blk_spill hb1) i)
              | (go_at_call 72; refine (rwithin_any _ _ _ _).mono ?_; rintro e w' ⟨rfl, rfl⟩)
              | (go_at_call 111; refine (rcounts_eq _ _ _ hs false _ (by exact HV.out.below (bstepA (Below.refl _ _) hb1)) hl2 HRR.out).mono ?_; rintro e w' ⟨rfl, rfl⟩)
              | fail)
            go_ret
            exact ⟨by rw [HFB.out]; rfl, bstepA (Below.refl _ _) hb1⟩
          | true =>
            have HFB : Hid (flushB e l i c b n sl m hs = sl.all okS) := by
              show _ = _
              have hR := HRR.out
              unfold flushB okC at *
              rw [hR, hw, hb, hm]
              simp [hn]
            go_enter Try.func93, Try.ntmps93
            go_wp2_with (first
              | (go_at_call 112; refine (rwhole_any _ _ _ _ _).mono ?_; rintro e w1 ⟨rfl, hb1⟩; have hp := fun i => blk_cell (blk_spill hb1) i)
              | (go_at_call 72; refine (rwithin_any _ _ _ _).mono ?_; rintro e w' ⟨rfl, rfl⟩)
              | (go_at_call 111; refine (rcounts_eq _ _ _ hs true _ (by exact HV.out.below (bstepA (Below.refl _ _) hb1)) hl2 HRR.out).mono ?_; rintro e w' ⟨rfl, rfl⟩)
              | fail)
            have HB1 : Hid (Below w.heap.size w w1) := bstepA (Below.refl _ _) hb1
            have HP : Hid (w1.heap[w.heap.size]? = some (.cells #[.int .i64 e, .int .i64 l, .int .i64 i, .int .i64 c, .int .i64 b, .slice a1 n c1, .slice a2 m c2] 61 (0, 0))) := blk_spill hb1
            clear hb1 hp
            go_loopw [3] (fun x wr => ∃ j : Nat, j ≤ n ∧ x = .int .i64 j ∧ Hid ((sl.take j).all okS = true) ∧ Hid (Below w1.heap.size w1 wr)) (fun x _ => n - (intOf x).toNat)
            case atStart => exact ⟨0, Nat.zero_le _, rfl, (by simp : (sl.take 0).all okS = true), Below.refl _ _⟩
            case round =>
              obtain ⟨j, hj, rfl, hall, hbr⟩ := hrel
              have hp := fun i => blk_cell ((hbr.out.block w.heap.size (lt_heapL HP.out)).trans HP.out) i
              by_cases hjn : j < n
              · obtain ⟨bb, off, rfl, hc1, hc2⟩ : ∃ bb off, a1 = some ⟨bb, off, none⟩ ∧ wr.cell? ⟨bb, off + j * 2, none⟩ = some (.int .i64 (sl.getD j (0, 0)).1) ∧ wr.cell? ⟨bb, off + j * 2 + 1, none⟩ = some (.int .i64 (sl.getD j (0, 0)).2) := by
                  rcases (HS.out.below (bstep HB1.out hbr.out)).2 with h | ⟨bb, off, rfl, hc⟩
                  · omega
                  · exact ⟨bb, off, rfl, (hc j hjn).1, (hc j hjn).2⟩
                obtain ⟨x, hx⟩ : ∃ x, (sl.getD j (0, 0)).1 = x := ⟨_, rfl⟩
                obtain ⟨y, hy⟩ : ∃ y, (sl.getD j (0, 0)).2 = y := ⟨_, rfl⟩
                rw [hx] at hc1
                rw [hy] at hc2
                have HSj : Hid ((sl.take (j + 1)).all okS = slotOK x y) := by
                  show _ = _
                  rw [all_take_succ' (by have := HS.out.1; omega), hall.out, Bool.true_and]
                  unfold okS
                  rw [hx, hy]
                clear hx hy
                cases hok : slotOK x y with
                | true =>
                  have HS' : Hid ((sl.take (j + 1)).all okS = true) := HSj.out.trans hok
                  go_wp2_with fail
                  refine (goodSlot_any x y _).mono ?_
                  rintro e w2 ⟨rfl, hb2⟩
                  have HB2 : Hid (Below w1.heap.size w1 w2) := bstep hbr.out hb2
                  clear hb2 hp
                  go_wp2_with fail
                  go_roundw
                  case rel => exact ⟨j + 1, by omega, by go_num, HS', HB2⟩
                  case measure => simp [intOf]; omega
                | false =>
                  have HS' : Hid ((sl.take (j + 1)).all okS = false) := HSj.out.trans hok
                  go_wp2_with fail
                  refine (goodSlot_any x y _).mono ?_
                  rintro e w2 ⟨rfl, hb2⟩
                  have HB2 : Hid (Below w1.heap.size w1 w2) := bstep hbr.out hb2
                  clear hb2 hp
                  go_wp2_with fail
                  go_ret
                  exact ⟨by rw [HFB.out, all_false' HS'.out]; rfl, bstep HB1.out HB2.out⟩
              · have HT : Hid (sl.all okS = true) := by
                  show _ = _
                  have e : sl.take j = sl := List.take_of_length_le (by have := HS.out.1; omega)
                  rw [← e]; exact hall.out
                go_wp2_with fail
                go_ret
                exact ⟨by rw [HFB.out, HT.out]; rfl, bstep HB1.out hbr.out⟩
      · have hn' : ((128 : Int) < (n : Int)) := by omega
        have HFB : Hid (flushB e l i c b n sl m hs = false) := by
          show _ = _
          have hR := HRR.out
          unfold flushB okC at *
          rw [hR]
          simp_all
          intro h
          omega
        go_enter Try.func93, Try.ntmps93
        go_wp2_with (first
          | (go_at_call 112; refine (rwhole_any _ _ _ _ _).mono ?_; rintro e w1 ⟨rfl, hb1⟩; have hp := fun i => blk_cell (blk_spill hb1) i)
          | (go_at_call 72; refine (rwithin_any _ _ _ _).mono ?_; rintro e w' ⟨rfl, rfl⟩)
          | (go_at_call 111; refine (rcounts_eq _ _ _ hs r _ (by exact HV.out.below (bstepA (Below.refl _ _) hb1)) hl2 HRR.out).mono ?_; rintro e w' ⟨rfl, rfl⟩)
          | fail)
        go_ret
        exact ⟨by rw [HFB.out]; rfl, bstepA (Below.refl _ _) hb1⟩

def okG (ds : List Dt) (j : Nat) : Bool := dataOK (ds.getD j dt0).s (ds.getD j dt0).q (ds.getD j dt0).st (ds.getD j dt0).n && (j == 0 || risB (ds.getD (j - 1) dt0).s (ds.getD (j - 1) dt0).q (ds.getD j dt0).s (ds.getD j dt0).q)

theorem okF_G (ds : List Dt) (j : Nat) : okF ds j = okG ds j := by
  unfold okF okG prevD
  by_cases h : j = 0
  · subst h
    simp only [if_true, beq_self_eq_true, Bool.true_or, Bool.and_true]
    generalize ds.getD 0 dt0 = d
    cases h : dataOK d.s d.q d.st d.n with
    | false => rfl
    | true =>
      unfold dataOK inR at h
      simp only [Bool.and_eq_true, decide_eq_true_eq] at h
      unfold risB dt0
      simp
      omega
  · rw [if_neg h]
    have : (j == 0) = false := by simpa using h
    rw [this, Bool.false_or]

set_option maxRecDepth 100000 in
set_option maxHeartbeats 2000000 in
theorem rising_any (a1 : Option Addr) (n c1 : Nat) (ds : List Dt) (w : World) (h1 : Rm w a1 n ds) (hl1 : n ≤ 140737488355328) :
    Calls Try.prog 113 #[.slice a1 n c1] w fun x w' => x = .returned (.bool (fwdTo ds n)) ∧ Below w.heap.size w w' := by
  have HS : Hid (Rm w a1 n ds) := h1
  obtain ⟨r, hr⟩ : ∃ r, fwdTo ds n = r := ⟨_, rfl⟩
  have HRR : Hid (fwdTo ds n = r) := hr
  rw [hr]
  clear h1 hr
  go_enter Try.func113, Try.ntmps113
  go_wp2_with fail
  go_loopw [3] (fun x wr => ∃ j : Nat, j ≤ n ∧ x = .int .i64 j ∧ Hid (fwdTo ds j = true) ∧ Hid (Below w.heap.size w wr)) (fun x _ => n - (intOf x).toNat)
  case atStart => exact ⟨0, Nat.zero_le _, rfl, (rfl : fwdTo ds 0 = true), Below.refl _ _⟩
  case round =>
    obtain ⟨j, hj, rfl, hall, hbr⟩ := hrel
    by_cases hjn : j < n
    · obtain ⟨s, q, st, da, dn, dc, hdt⟩ : ∃ s q st da dn dc, ds.getD j dt0 = ⟨s, q, st, da, dn, dc⟩ := ⟨_, _, _, _, _, _, rfl⟩
      obtain ⟨bb, off, rfl, hc⟩ : ∃ bb off, a1 = some ⟨bb, off, none⟩ ∧ ∀ i, i < n → wr.cell? ⟨bb, off + i * 4, none⟩ = some (.int .i64 (ds.getD i dt0).s) ∧ wr.cell? ⟨bb, off + i * 4 + 1, none⟩ = some (.int .i64 (ds.getD i dt0).q) ∧ wr.cell? ⟨bb, off + i * 4 + 2, none⟩ = some (.int .i64 (ds.getD i dt0).st) ∧ wr.cell? ⟨bb, off + i * 4 + 3, none⟩ = some (.slice (ds.getD i dt0).a (ds.getD i dt0).n (ds.getD i dt0).c) := by
        rcases (HS.out.below hbr.out).2 with h | h
        · omega
        · exact h
      obtain ⟨hc0, hc1, hc2, hc3⟩ := hc j hjn
      rw [hdt] at hc0 hc1 hc2 hc3
      simp only at hc0 hc1 hc2 hc3
      cases hok : dataOK s q st dn with
      | false =>
              have HF : Hid (r = false) := by
                show _ = _
                rw [← HRR.out]
                refine fwdTo_false (j := j + 1) ?_ (by omega)
                rw [fwdTo_succ, okF_G]
                unfold okG
                rw [hdt, hok]
                simp
              clear hdt hc
              go_wp2_with fail
              refine (goodData_any s q st da dn dc wr).mono ?_
              rintro e w2 ⟨rfl, hb2⟩
              have HB2 : Hid (Below w.heap.size w w2) := bstep hbr.out hb2
              clear hb2
              go_wp2_with fail
              go_ret
              exact ⟨by rw [HF.out]; rfl, HB2.out⟩
      | true =>
        rcases Nat.eq_zero_or_pos j with hj0 | hj0
        · have HT : Hid (fwdTo ds (j + 1) = true) := by
                show _ = _
                rw [fwdTo_succ, okF_G, hall.out]
                unfold okG
                rw [hdt, hok, hj0]
                rfl
          have hg : decide ((0 : Int) < (j : Int)) = false := by simp; omega
          have hgN : decide (0 < j) = false := by simp; omega
          clear hdt hc hj0
          go_wp2_with fail
          refine (goodData_any s q st da dn dc wr).mono ?_
          rintro e w2 ⟨rfl, hb2⟩
          have HB2 : Hid (Below w.heap.size w w2) := bstep hbr.out hb2
          clear hb2
          go_wp2_with fail
          go_quiet (fail)
          go_wp2_with fail
          go_roundw
          case rel => exact ⟨j + 1, by omega, by go_num, HT, (below_drewN HB2.out _)⟩
          case measure => simp [intOf]; omega
        · obtain ⟨k, hk⟩ : ∃ k, j = k + 1 := ⟨j - 1, by omega⟩
          obtain ⟨ps, pq, pt, pa, pn, pc, hpv⟩ : ∃ s q st da dn dc, ds.getD k dt0 = ⟨s, q, st, da, dn, dc⟩ := ⟨_, _, _, _, _, _, rfl⟩
          obtain ⟨hp0, hp1, -, -⟩ := hc k (by omega)
          rw [hpv] at hp0 hp1
          simp only at hp0 hp1
          have HSj : Hid (fwdTo ds (j + 1) = risB ps pq s q) := by
            show _ = _
            rw [fwdTo_succ, okF_G, hall.out]
            unfold okG
            have e : j - 1 = k := by omega
            have e2 : (j == 0) = false := by simp; omega
            rw [hdt, hok, e, hpv, e2]
            simp
          have ik : IntKind.i64.wrap ((j : Int) - 1) = (k : Int) := by rw [IntKind.wrap_i64]; omega
          have hg : (0 : Int) < (j : Int) := by omega
          have hgN : 0 < j := by omega
          have hgT : decide (0 < j) = true := by simp; omega
          have hkn : k < n := by omega
          have hki : (k : Int) < (n : Int) := by omega
          have hk0 : (0 : Int) ≤ (k : Int) := by omega
          clear hdt hpv hc hk hj0
          by_cases hA : s < ps
          ·   have HF : Hid (r = false) := by
                show _ = _
                rw [← HRR.out]
                exact fwdTo_false (HSj.out.trans (by unfold risB; simp; omega)) (by omega)
              go_wp2_with fail
              refine (goodData_any s q st da dn dc wr).mono ?_
              rintro e w2 ⟨rfl, hb2⟩
              have HB2 : Hid (Below w.heap.size w w2) := bstep hbr.out hb2
              have g0 := (hb2.cell (World.block_lt_of_cell? wr _ hc0)).trans hc0
              have g1 := (hb2.cell (World.block_lt_of_cell? wr _ hc1)).trans hc1
              have x0 := (hb2.cell (World.block_lt_of_cell? wr _ hp0)).trans hp0
              have x1 := (hb2.cell (World.block_lt_of_cell? wr _ hp1)).trans hp1
              clear hb2
              go_wp2_with fail
              go_quiet (fail)
              go_wp2_with fail
              go_ret
              exact ⟨by rw [HF.out]; rfl, below_drewN HB2.out _⟩
          · have hA' : decide (s < ps) = false := by simp; omega
            by_cases hE : s = ps
            · subst hE
              by_cases hQ : q ≤ pq
              · have HF : Hid (r = false) := by
                  show _ = _
                  rw [← HRR.out]
                  exact fwdTo_false (HSj.out.trans (by unfold risB; simp; omega)) (by omega)
                go_wp2_with fail
                refine (goodData_any s q st da dn dc wr).mono ?_
                rintro e w2 ⟨rfl, hb2⟩
                have HB2 : Hid (Below w.heap.size w w2) := bstep hbr.out hb2
                have g0 := (hb2.cell (World.block_lt_of_cell? wr _ hc0)).trans hc0
                have g1 := (hb2.cell (World.block_lt_of_cell? wr _ hc1)).trans hc1
                have x0 := (hb2.cell (World.block_lt_of_cell? wr _ hp0)).trans hp0
                have x1 := (hb2.cell (World.block_lt_of_cell? wr _ hp1)).trans hp1
                clear hb2
                go_wp2_with fail
                go_quiet (fail)
                go_wp2_with fail
                go_ret
                exact ⟨by rw [HF.out]; rfl, below_drewN HB2.out _⟩
              · have hQ' : decide (q ≤ pq) = false := by simp; omega
                have HT : Hid (fwdTo ds (j + 1) = true) := HSj.out.trans (by unfold risB; simp; omega)
                go_wp2_with fail
                refine (goodData_any s q st da dn dc wr).mono ?_
                rintro e w2 ⟨rfl, hb2⟩
                have HB2 : Hid (Below w.heap.size w w2) := bstep hbr.out hb2
                have g0 := (hb2.cell (World.block_lt_of_cell? wr _ hc0)).trans hc0
                have g1 := (hb2.cell (World.block_lt_of_cell? wr _ hc1)).trans hc1
                have x0 := (hb2.cell (World.block_lt_of_cell? wr _ hp0)).trans hp0
                have x1 := (hb2.cell (World.block_lt_of_cell? wr _ hp1)).trans hp1
                clear hb2
                go_wp2_with fail
                go_quiet (fail)
                go_wp2_with fail
                go_roundw
                case rel => exact ⟨j + 1, by omega, by go_num, HT, (below_drewN HB2.out _)⟩
                case measure => simp [intOf]; omega
            · have hE' : (s == ps) = false := by simpa using hE
              have HT : Hid (fwdTo ds (j + 1) = true) := HSj.out.trans (by unfold risB; simp; omega)
              go_wp2_with fail
              refine (goodData_any s q st da dn dc wr).mono ?_
              rintro e w2 ⟨rfl, hb2⟩
              have HB2 : Hid (Below w.heap.size w w2) := bstep hbr.out hb2
              have g0 := (hb2.cell (World.block_lt_of_cell? wr _ hc0)).trans hc0
              have g1 := (hb2.cell (World.block_lt_of_cell? wr _ hc1)).trans hc1
              have x0 := (hb2.cell (World.block_lt_of_cell? wr _ hp0)).trans hp0
              have x1 := (hb2.cell (World.block_lt_of_cell? wr _ hp1)).trans hp1
              clear hb2
              go_wp2_with fail
              go_quiet (fail)
              go_wp2_with fail
              go_roundw
              case rel => exact ⟨j + 1, by omega, by go_num, HT, (below_drewN HB2.out _)⟩
              case measure => simp [intOf]; omega
    · have HF : Hid (r = true) := by
        show _ = _
        rw [← HRR.out]
        have e : j = n := by omega
        rw [← e]; exact hall.out
      go_wp2_with fail
      go_ret
      exact ⟨by rw [HF.out]; rfl, hbr.out⟩

theorem rising_eq (a1 : Option Addr) (n c1 : Nat) (ds : List Dt) (r : Bool) (w : World) (h1 : Rm w a1 n ds) (hl1 : n ≤ 140737488355328) (h : fwdTo ds n = r) :
    Calls Try.prog 113 #[.slice a1 n c1] w fun x w' => x = .returned (.bool r) ∧ Below w.heap.size w w' := by
  subst h
  exact rising_any a1 n c1 ds w h1 hl1

set_option maxRecDepth 100000 in
set_option maxHeartbeats 1000000 in
theorem gforward_any (e l i c : Int) (a1 : Option Addr) (n c1 : Nat) (ds : List Dt) (w : World) (h1 : Rm w a1 n ds) (hl1 : n ≤ 140737488355328) :
    Calls Try.prog 97 #[.agg #[.int .i64 e, .int .i64 l, .int .i64 i, .int .i64 c, .slice a1 n c1]] w fun x w' => x = .returned (.bool (forwardB e l i c n ds)) ∧ Below w.heap.size w w' := by
  have HS : Hid (Rm w a1 n ds) := h1
  obtain ⟨r, hr⟩ : ∃ r, fwdTo ds n = r := ⟨_, rfl⟩
  have HRR : Hid (fwdTo ds n = r) := hr
  have e0 : forwardB e l i c n ds = (wholeB e l i c && inR n 1 128 && r) := by unfold forwardB; rw [hr]
  rw [e0]
  clear h1 hr e0
  go_enter Try.func97, Try.ntmps97
  go_wp2_with (first
    | (go_at_call 112; refine (rwhole_any _ _ _ _ _).mono ?_; rintro e w1 ⟨rfl, hb1⟩; have hp := fun i => blk_cell (blk_spill hb1) i)
    | (go_at_call 72; refine (rwithin_any _ _ _ _).mono ?_; rintro e w' ⟨rfl, rfl⟩)
    | (go_at_call 113; refine (rising_eq _ _ _ ds r _ (by exact HS.out.below (bstepA (Below.refl _ _) hb1)) hl1 HRR.out).mono ?_; rintro e w2 ⟨rfl, hb2⟩; have hb3 := bstep hb1 hb2; clear hb1)
    | fail)
  all_goals go_ret
  all_goals refine ⟨?_, ?_⟩
  all_goals first
    | exact bstepA (Below.refl _ _) (by assumption)
    | simp_all

def zAt (vs ss : List Int) (i : Nat) : Bool := !(ss.getD i 0 == 0 && vs.getD i 0 != 0)

def zTo (vs ss : List Int) (j : Nat) : Bool := (List.range j).all (zAt vs ss)

theorem zTo_succ (vs ss : List Int) (j : Nat) : zTo vs ss (j + 1) = (zTo vs ss j && zAt vs ss j) := by simp [zTo, List.range_succ]

theorem zTo_false {vs ss : List Int} {j n : Nat} (h : zTo vs ss j = false) (hj : j ≤ n) : zTo vs ss n = false := by
  obtain ⟨k, rfl⟩ := Nat.exists_eq_add_of_le hj
  clear hj
  induction k with
  | zero => exact h
  | succ k ih => rw [← Nat.add_assoc, zTo_succ, ih]; rfl

theorem vecTo_z (vs ss : List Int) (j : Nat) (h : j ≤ vs.length) : vecTo vs ss j = ((vs.take j).all okC && zTo vs ss j) := by
  induction j with
  | zero => rfl
  | succ j ih =>
    rw [vecTo_succ, zTo_succ, ih (by omega), all_take_succ (by omega)]
    have e : okV vs ss j = (okC (vs.getD j 0) && zAt vs ss j) := by
      unfold okV okC zAt inR
      by_cases hs : ss.getD j 0 = 0
      · rw [if_pos hs, hs]
        simp
        rw [Bool.eq_iff_iff]
        simp
        omega
      · rw [if_neg hs]
        have : (ss.getD j 0 == 0) = false := by simpa using hs
        rw [this]
        simp
    rw [e]
    cases (vs.take j).all okC <;> cases zTo vs ss j <;> cases okC (vs.getD j 0) <;> cases zAt vs ss j <;> rfl

theorem prop_ac (a b c d e f g h i : Bool) : (a && b && e && f && g && (h || i) && (true && (c && d))) = (a && b && c && d && (e && f && g && (i || h))) := by
  simp only [Bool.true_and, Bool.or_comm h i]
  simp only [Bool.and_assoc]
  cases a
  · rfl
  · cases b
    · rfl
    · cases c
      · simp
      · cases d
        · simp
        · simp

theorem vecTo_all (vs ss : List Int) (n : Nat) (h : vs.length = n) : vecTo vs ss n = (vs.all okC && zTo vs ss n) := by
  rw [vecTo_z vs ss n (by omega), List.take_of_length_le (by omega)]

set_option maxRecDepth 100000 in
set_option maxHeartbeats 2000000 in
theorem gpropose_any (a1 : Option Addr) (n c1 : Nat) (ss : List Int) (d r t e l i c : Int) (a2 : Option Addr) (m c2 : Nat) (vs : List Int) (w : World) (h1 : Ri w a1 n ss) (h2 : Ri w a2 m vs) (hl1 : n ≤ 140737488355328) (hl2 : m ≤ 140737488355328) :
    Calls Try.prog 92 #[.agg #[.slice a1 n c1, .int .i64 d, .int .i64 r, .int .i64 t, .int .i64 e, .int .i64 l, .int .i64 i, .int .i64 c, .slice a2 m c2]] w fun x w' => x = .returned (.bool (proposeB n ss d r t e l i c m vs)) ∧ Below w.heap.size w w' := by
  have HS : Hid (Ri w a1 n ss) := h1
  have HV : Hid (Ri w a2 m vs) := h2
  obtain ⟨r1, hr1⟩ : ∃ r1, ss.all okC = r1 := ⟨_, rfl⟩
  obtain ⟨r2, hr2⟩ : ∃ r2, vs.all okC = r2 := ⟨_, rfl⟩
  obtain ⟨r3, hr3⟩ : ∃ r3, zTo vs ss n = r3 := ⟨_, rfl⟩
  have HR1 : Hid (ss.all okC = r1) := hr1
  have HR2 : Hid (vs.all okC = r2) := hr2
  have HR3 : Hid (zTo vs ss n = r3) := hr3
  have HE : Hid (m = n → proposeB n ss d r t e l i c m vs = (inR n 1 16 && r1 && r2 && r3 && (inR d 1 4611686018427387904 && inR r 1 4611686018427387904 && inR t 0 4611686018427387904 && (wholeB e l i c || noneB e l i c)))) := by
    intro hmn
    subst hmn
    unfold proposeB
    rw [vecTo_all vs ss m h2.1, hr1, hr2, hr3]
    unfold okC
    have ed : decide (m = m) = true := by simp
    rw [ed]
    exact prop_ac _ _ _ _ _ _ _ _ _
  clear h1 h2 hr1 hr2 hr3
  cases hn : inR n 1 16 with
  | false =>
    have HFB : Hid (proposeB n ss d r t e l i c m vs = false) := by show _ = _; unfold proposeB; rw [hn]; rfl
    go_enter Try.func92, Try.ntmps92
    go_wp2_with (first
      | (go_at_call 72; refine (rwithin_any _ _ _ _).mono ?_; rintro e w' ⟨rfl, rfl⟩)
      | fail)
    go_ret
    exact ⟨by rw [HFB.out]; rfl, balloc (Below.refl _ _)⟩
  | true =>
    by_cases hmn : m = n
    · subst hmn
      have HE2 := HE.out rfl
      cases r1 with
      | false =>
        have HFB : Hid (proposeB m ss d r t e l i c m vs = false) := by show _ = _; rw [HE2]; simp
        go_enter Try.func92, Try.ntmps92
        go_wp2_with (first
          | (go_at_call 72; refine (rwithin_any _ _ _ _).mono ?_; rintro e w' ⟨rfl, rfl⟩)
          | fail)
        refine (rcounts_eq a1 _ _ ss false _ (HS.out.below (balloc (Below.refl _ _))) hl1 HR1.out).mono ?_
        rintro e w' ⟨rfl, rfl⟩
        go_wp2_with fail
        go_ret
        exact ⟨by rw [HFB.out]; rfl, balloc (Below.refl _ _)⟩
      | true =>
        cases r2 with
        | false =>
          have HFB : Hid (proposeB m ss d r t e l i c m vs = false) := by show _ = _; rw [HE2]; simp
          go_enter Try.func92, Try.ntmps92
          go_wp2_with (first
            | (go_at_call 72; refine (rwithin_any _ _ _ _).mono ?_; rintro e w' ⟨rfl, rfl⟩)
            | fail)
          refine (rcounts_eq a1 _ _ ss true _ (HS.out.below (balloc (Below.refl _ _))) hl1 HR1.out).mono ?_
          rintro e w' ⟨rfl, rfl⟩
          go_wp2_with fail
          refine (rcounts_eq a2 _ _ vs false _ (HV.out.below (balloc (Below.refl _ _))) hl2 HR2.out).mono ?_
          rintro e w' ⟨rfl, rfl⟩
          go_wp2_with fail
          go_ret
          exact ⟨by rw [HFB.out]; rfl, balloc (Below.refl _ _)⟩
        | true =>
          have HFB : Hid (proposeB m ss d r t e l i c m vs = (r3 && (inR d 1 4611686018427387904 && inR r 1 4611686018427387904 && inR t 0 4611686018427387904 && (wholeB e l i c || noneB e l i c)))) := by show _ = _; rw [HE2, hn]; simp
          rw [HFB.out]
          clear HE HE2 HFB
          go_enter Try.func92, Try.ntmps92
          go_wp2_with (first
            | (go_at_call 72; refine (rwithin_any _ _ _ _).mono ?_; rintro e w' ⟨rfl, rfl⟩)
            | fail)
          refine (rcounts_eq a1 _ _ ss true _ (HS.out.below (balloc (Below.refl _ _))) hl1 HR1.out).mono ?_
          rintro e w' ⟨rfl, rfl⟩
          go_wp2_with fail
          refine (rcounts_eq a2 _ _ vs true _ (HV.out.below (balloc (Below.refl _ _))) hl2 HR2.out).mono ?_
          rintro e w' ⟨rfl, rfl⟩
          go_wp2_with fail
          have HB0 : Hid (Below w.heap.size w (w.alloc (.cells #[.slice a1 m c1, .int .i64 d, .int .i64 r, .int .i64 t, .int .i64 e, .int .i64 l, .int .i64 i, .int .i64 c, .slice a2 m c2] 58))) := balloc (Below.refl _ _)
          have HP0 : Hid ((w.alloc (.cells #[.slice a1 m c1, .int .i64 d, .int .i64 r, .int .i64 t, .int .i64 e, .int .i64 l, .int .i64 i, .int .i64 c, .slice a2 m c2] 58)).heap[w.heap.size]? = some (.cells #[.slice a1 m c1, .int .i64 d, .int .i64 r, .int .i64 t, .int .i64 e, .int .i64 l, .int .i64 i, .int .i64 c, .slice a2 m c2] 58 (0, 0))) := heap_alloc_new w _
          generalize w.alloc (.cells #[.slice a1 m c1, .int .i64 d, .int .i64 r, .int .i64 t, .int .i64 e, .int .i64 l, .int .i64 i, .int .i64 c, .slice a2 m c2] 58) = WA at *
          go_loopw [3] (fun x wr => ∃ j : Nat, j ≤ m ∧ x = .int .i64 j ∧ Hid (zTo vs ss j = true) ∧ Hid (Below w.heap.size w wr) ∧ Hid (wr.heap[w.heap.size]? = some (.cells #[.slice a1 m c1, .int .i64 d, .int .i64 r, .int .i64 t, .int .i64 e, .int .i64 l, .int .i64 i, .int .i64 c, .slice a2 m c2] 58 (0, 0)))) (fun x _ => m - (intOf x).toNat)
          case atStart => exact ⟨0, Nat.zero_le _, rfl, (rfl : zTo vs ss 0 = true), HB0, HP0⟩
          case round =>
            obtain ⟨j, hj, rfl, hall, hbr, hpr⟩ := hrel
            have hp := fun i => blk_cell hpr.out i
            by_cases hjn : j < m
            · obtain ⟨b1, o1, rfl, hx⟩ : ∃ b off, a1 = some ⟨b, off, none⟩ ∧ wr.cell? ⟨b, off + j, none⟩ = some (.int .i64 (ss.getD j 0)) := by
                rcases (HS.out.below hbr.out).2 with h | ⟨b, off, rfl, hc⟩
                · omega
                · exact ⟨b, off, rfl, hc j hjn⟩
              obtain ⟨b2, o2, rfl, hy⟩ : ∃ b off, a2 = some ⟨b, off, none⟩ ∧ wr.cell? ⟨b, off + j, none⟩ = some (.int .i64 (vs.getD j 0)) := by
                rcases (HV.out.below hbr.out).2 with h | ⟨b, off, rfl, hc⟩
                · omega
                · exact ⟨b, off, rfl, hc j hjn⟩
              obtain ⟨x, hx0⟩ : ∃ x, ss.getD j 0 = x := ⟨_, rfl⟩
              obtain ⟨y, hy0⟩ : ∃ y, vs.getD j 0 = y := ⟨_, rfl⟩
              rw [hx0] at hx
              rw [hy0] at hy
              have HZ : Hid (zTo vs ss (j + 1) = !(x == 0 && y != 0)) := by
                show _ = _
                rw [zTo_succ, hall.out, Bool.true_and]
                unfold zAt
                rw [hx0, hy0]
              clear hx0 hy0
              by_cases h0 : x = 0
              · subst h0
                by_cases h1 : y = 0
                · subst h1
                  have HT : Hid (zTo vs ss (j + 1) = true) := HZ.out
                  go_wp2_with fail
                  go_roundw
                  case rel => exact ⟨j + 1, by omega, by go_num, HT, hbr.out, hpr.out⟩
                  case measure => simp [intOf]; omega
                · have h1' : (y != 0) = true := by simpa using h1
                  have HF : Hid (r3 = false) := by
                    show _ = _
                    rw [← HR3.out]
                    exact zTo_false (HZ.out.trans (by rw [h1']; rfl)) (by omega)
                  clear h1
                  go_wp2_with fail
                  go_ret
                  exact ⟨by rw [HF.out]; rfl, hbr.out⟩
              · have h0' : (x == 0) = false := by simpa using h0
                have HT : Hid (zTo vs ss (j + 1) = true) := HZ.out.trans (by rw [h0']; rfl)
                clear h0
                go_wp2_with fail
                go_roundw
                case rel => exact ⟨j + 1, by omega, by go_num, HT, hbr.out, hpr.out⟩
                case measure => simp [intOf]; omega
            · have HF : Hid (r3 = true) := by
                show _ = _
                rw [← HR3.out]
                have e : j = m := by omega
                rw [← e]; exact hall.out
              obtain rfl : r3 = true := HF.out
              go_wp2_with (first
                | (go_at_call 72; refine (rwithin_any _ _ _ _).mono ?_; rintro e w' ⟨rfl, rfl⟩)
                | (go_at_call 112; refine (rwhole_any _ _ _ _ _).mono ?_; rintro e w1 ⟨rfl, hb1⟩; have hp1 := fun i => blk_cell ((hb1.block _ (lt_heapL hpr.out)).trans hpr.out) i)
                | (go_at_call 110; refine (rnone_any _ _ _ _ _).mono ?_; rintro e w2 ⟨rfl, hb2⟩)
                | fail)
              all_goals go_ret
              all_goals refine ⟨?_, ?_⟩
              all_goals first
                | exact hbr.out
                | exact bstep hbr.out (by assumption)
                | exact bstep (bstep hbr.out hb1) hb2
                | simp_all [Bool.and_assoc]
    · have h' : ((m : Int) != (n : Int)) = true := by simp; omega
      have HFB : Hid (proposeB n ss d r t e l i c m vs = false) := by show _ = _; unfold proposeB; simp [hmn]
      go_enter Try.func92, Try.ntmps92
      go_wp2_with (first
        | (go_at_call 72; refine (rwithin_any _ _ _ _).mono ?_; rintro e w' ⟨rfl, rfl⟩)
        | fail)
      go_ret
      exact ⟨by rw [HFB.out]; rfl, balloc (Below.refl _ _)⟩

end Go.Proofs.Ytbjpbcanmpimnab.Lo
