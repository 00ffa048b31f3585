import Derived.Test.YtbjpbcanmpimnabPutB
namespace Go.Proofs.Ytbjpbcanmpimnab.Lo
open Go.RowKit
set_option linter.unusedVariables false

def inR (v lo hi : Int) : Bool := decide (lo ≤ v) && decide (v ≤ hi)
theorem inR_true {v lo hi : Int} (h : inR v lo hi = true) : lo ≤ v ∧ v ≤ hi := by simpa [inR] using h

theorem within_any (v lo hi : Int) (w : World) : Calls Try.prog 64 #[.int .i64 v, .int .i64 lo, .int .i64 hi] w fun e w' => e = .returned (.bool (inR v lo hi)) ∧ w = w' := by
  go_enter Try.func64, Try.ntmps64
  go_wp2
  · go_ret
    exact ⟨by simp_all [inR], rfl⟩
  · go_ret
    exact ⟨by simp_all [inR]; omega, rfl⟩

theorem rwithin_any (v lo hi : Int) (w : World) : Calls Try.prog 72 #[.int .i64 v, .int .i64 lo, .int .i64 hi] w fun e w' => e = .returned (.bool (inR v lo hi)) ∧ w = w' := by
  go_enter Try.func72, Try.ntmps72
  go_wp2
  · go_ret
    exact ⟨by simp_all [inR], rfl⟩
  · go_ret
    exact ⟨by simp_all [inR]; omega, rfl⟩

theorem nodeFits_any (v : Int) (w : World) : Calls Try.prog 76 #[.int .i64 v] w fun e w' => e = .returned (.bool (inR v 0 15)) ∧ w = w' := by
  go_enter Try.func76, Try.ntmps76
  go_wp2_with (first | (go_at_call 64; refine (within_any _ _ _ _).mono ?_; rintro e w' ⟨rfl, rfl⟩) | fail)
  go_ret
  exact ⟨rfl, rfl⟩

theorem countFits_any (v : Int) (w : World) : Calls Try.prog 101 #[.int .i64 v] w fun e w' => e = .returned (.bool (inR v 0 4611686018427387904)) ∧ w = w' := by
  go_enter Try.func101, Try.ntmps101
  go_wp2_with (first | (go_at_call 64; refine (within_any _ _ _ _).mono ?_; rintro e w' ⟨rfl, rfl⟩) | fail)
  go_ret
  exact ⟨rfl, rfl⟩

def dataOK (s q st : Int) (n : Nat) : Bool := inR s 0 15 && inR q 1 4611686018427387904 && inR st 0 4611686018427387904 && decide (n ≤ 256)
def slotOK (s q : Int) : Bool := inR s 0 15 && inR q 1 4611686018427387904

theorem dataFits_any (s q st : Int) (ao : Option Addr) (n c : Nat) (w : World) : Calls Try.prog 63 #[.agg #[.int .i64 s, .int .i64 q, .int .i64 st, .slice ao n c]] w fun e w' => e = .returned (.bool (dataOK s q st n)) ∧ Below w.heap.size w w' := by
  go_enter Try.func63, Try.ntmps63
  go_wp2_with (first
    | (go_at_call 64; refine (within_any _ _ _ _).mono ?_; rintro e w' ⟨rfl, rfl⟩)
    | (go_at_call 76; refine (nodeFits_any _ _).mono ?_; rintro e w' ⟨rfl, rfl⟩)
    | (go_at_call 101; refine (countFits_any _ _).mono ?_; rintro e w' ⟨rfl, rfl⟩)
    | fail)
  all_goals go_ret
  all_goals refine ⟨?_, (Below.refl _ _).alloc (Nat.le_refl _) _⟩
  all_goals simp_all [dataOK]
  all_goals omega

theorem goodData_any (s q st : Int) (ao : Option Addr) (n c : Nat) (w : World) : Calls Try.prog 71 #[.agg #[.int .i64 s, .int .i64 q, .int .i64 st, .slice ao n c]] w fun e w' => e = .returned (.bool (dataOK s q st n)) ∧ Below w.heap.size w w' := by
  go_enter Try.func71, Try.ntmps71
  go_wp2_with (first
    | (go_at_call 72; refine (rwithin_any _ _ _ _).mono ?_; rintro e w' ⟨rfl, rfl⟩)
    | fail)
  all_goals go_ret
  all_goals refine ⟨?_, (Below.refl _ _).alloc (Nat.le_refl _) _⟩
  all_goals simp_all [dataOK]
  all_goals omega

theorem slotFits_any (s q : Int) (w : World) : Calls Try.prog 65 #[.agg #[.int .i64 s, .int .i64 q]] w fun e w' => e = .returned (.bool (slotOK s q)) ∧ Below w.heap.size w w' := by
  go_enter Try.func65, Try.ntmps65
  go_wp2_with (first
    | (go_at_call 64; refine (within_any _ _ _ _).mono ?_; rintro e w' ⟨rfl, rfl⟩)
    | (go_at_call 76; refine (nodeFits_any _ _).mono ?_; rintro e w' ⟨rfl, rfl⟩)
    | fail)
  all_goals go_ret
  all_goals refine ⟨?_, (Below.refl _ _).alloc (Nat.le_refl _) _⟩
  all_goals simp_all [slotOK]

theorem goodSlot_any (s q : Int) (w : World) : Calls Try.prog 73 #[.agg #[.int .i64 s, .int .i64 q]] w fun e w' => e = .returned (.bool (slotOK s q)) ∧ Below w.heap.size w w' := by
  go_enter Try.func73, Try.ntmps73
  go_wp2_with (first
    | (go_at_call 72; refine (rwithin_any _ _ _ _).mono ?_; rintro e w' ⟨rfl, rfl⟩)
    | fail)
  all_goals go_ret
  all_goals refine ⟨?_, (Below.refl _ _).alloc (Nat.le_refl _) _⟩
  all_goals simp_all [slotOK]

def dataZ (s q st : Int) (n : Nat) : Bool := s == 0 && q == 0 && st == 0 && n == 0

theorem dataZero_any (s q st : Int) (ao : Option Addr) (n c : Nat) (w : World) : Calls Try.prog 66 #[.agg #[.int .i64 s, .int .i64 q, .int .i64 st, .slice ao n c]] w fun e w' => e = .returned (.bool (dataZ s q st n)) ∧ Below w.heap.size w w' := by
  go_enter Try.func66, Try.ntmps66
  go_wp2
  all_goals go_ret
  all_goals refine ⟨?_, (Below.refl _ _).alloc (Nat.le_refl _) _⟩
  all_goals simp_all [dataZ]
  all_goals (rw [Bool.eq_iff_iff]; simp; try omega)

theorem bstep {w0 w w' : World} (h : Below w0.heap.size w0 w) (hb : Below w.heap.size w w') : Below w0.heap.size w0 w' := h.trans (hb.mono h.size)
theorem balloc {w0 w : World} {o : Obj} (h : Below w0.heap.size w0 w) : Below w0.heap.size w0 (w.alloc o) := h.alloc h.size o
theorem bstepA {w0 w w' : World} {o : Obj} (h : Below w0.heap.size w0 w) (hb : Below (w.alloc o).heap.size (w.alloc o) w') : Below w0.heap.size w0 w' := bstep (balloc h) hb

def itemOK (k s q st : Int) (n : Nat) (p st2 ss sq : Int) : Bool :=
  if k = 1 then dataOK s q st n && p == 0 && st2 == 0 && (ss == 0 && sq == 0)
  else if k = 2 then inR p 1 4611686018427387904 && inR st2 0 (p - 1) && slotOK ss sq && dataZ s q st n
  else false

theorem spill {w w' : World} {cs : Array Value} {t : TypeId} (hb : Below (w.alloc (.cells cs t)).heap.size (w.alloc (.cells cs t)) w') (i : Nat) : w'.cell? ⟨w.heap.size, i, none⟩ = cs[i]? := by
  exact cell_of_row w' w.heap.size i cs t (0, 0) ((hb.block w.heap.size (by simp)).trans (heap_alloc_new w _))

theorem w64 (x : Int) (h : -9223372036854775808 ≤ x ∧ x ≤ 9223372036854775807) : wrap64 x = x := by
  unfold wrap64; omega

theorem inR_pm (st2 p : Int) (h : inR p 1 4611686018427387904 = true) : inR st2 0 (wrap64 (p - 1)) = inR st2 0 (p - 1) := by
  have := inR_true h
  rw [w64 (p - 1) (by omega)]

set_option maxHeartbeats 1000000 in
theorem itemFits_any (k s q st : Int) (ao : Option Addr) (n c : Nat) (p st2 ss sq : Int) (w : World) (hp : p ≥ -9223372036854775808) : Calls Try.prog 30 #[.agg #[.int .i64 k, .int .i64 s, .int .i64 q, .int .i64 st, .slice ao n c, .int .i64 p, .int .i64 st2, .int .i64 ss, .int .i64 sq]] w fun e w' => e = .returned (.bool (itemOK k s q st n p st2 ss sq)) ∧ Below w.heap.size w w' := by
  have HB : Hid (Below w.heap.size w w) := Below.refl _ _
  go_enter Try.func30, Try.ntmps30
  go_wp2_with (first
    | (go_at_call 64; refine (within_any _ _ _ _).mono ?_; rintro e w' ⟨rfl, rfl⟩)
    | (go_at_call 63; refine (dataFits_any _ _ _ _ _ _ _).mono ?_; rintro e w' ⟨rfl, hb⟩; have hpc : ∀ i, w'.cell? ⟨w.heap.size, i, none⟩ = (#[.int .i64 k, .int .i64 s, .int .i64 q, .int .i64 st, .slice ao n c, .int .i64 p, .int .i64 st2, .int .i64 ss, .int .i64 sq] : Array Value)[i]? := spill hb; replace HB : Hid (Below w.heap.size w w') := bstepA HB.out hb; clear hb)
    | (go_at_call 65; refine (slotFits_any _ _ _).mono ?_; rintro e w' ⟨rfl, hb⟩; have hpc : ∀ i, w'.cell? ⟨w.heap.size, i, none⟩ = (#[.int .i64 k, .int .i64 s, .int .i64 q, .int .i64 st, .slice ao n c, .int .i64 p, .int .i64 st2, .int .i64 ss, .int .i64 sq] : Array Value)[i]? := spill hb; replace HB : Hid (Below w.heap.size w w') := bstepA HB.out hb; clear hb)
    | (go_at_call 66; refine (dataZero_any _ _ _ _ _ _ _).mono ?_; rintro e w' ⟨rfl, hb⟩; replace HB : Hid (Below w.heap.size w w') := bstep HB.out hb; clear hb)
    | fail)
  all_goals go_ret
  all_goals refine ⟨?_, by first | exact HB.out | exact balloc HB.out⟩
  all_goals congr 1
  all_goals simp_all [itemOK, dataZ, inR_pm]

end Go.Proofs.Ytbjpbcanmpimnab.Lo
