import Derived.Test.YtjgjpepmfiklfaaGreatDoorMhb
import Derived.Test.YtjgjpepmfiklfaaGreatDoorMxl
namespace Go.Proofs.YtjgjpepmfiklfaaGreatDoor.Mx
open Go.RowKit Mb Mh
set_option linter.unusedVariables false
set_option maxRecDepth 100000
set_option linter.unusedSimpArgs false
theorem atoi_bound {l : List UInt8} {n : Int} (h : Lib.atoi l = some n) (hl : l.length ≤ 8) : -1000000000 ≤ n ∧ n ≤ 1000000000 := by
  have key : ∀ {r : List UInt8} {m : Nat}, Lib.decNat r = some m → r.length ≤ 8 → m < 1000000000 := fun {r m} h1 h2 => by
    have h3 := Lib.decFrom_lt _ _ _ (Lib.decNat_some h1).2
    have h4 : (10 : Nat) ^ r.length ≤ 10 ^ 8 := Nat.pow_le_pow_right (by decide) h2
    have h5 : (10 : Nat) ^ 8 = 100000000 := by decide
    omega
  unfold Lib.atoi at h
  split at h
  · cases h
  · rename_i b r
    simp only [List.length_cons] at hl
    split at h
    · cases hm : Lib.decNat r with
      | none => rw [hm] at h; cases h
      | some m =>
        rw [hm] at h
        have := key hm (by omega)
        simp only [Option.map_some, Option.some.injEq] at h
        omega
    · split at h
      · cases hm : Lib.decNat r with
        | none => rw [hm] at h; cases h
        | some m =>
          rw [hm] at h
          have := key hm (by omega)
          simp only [Option.map_some, Option.some.injEq] at h
          omega
      · cases hm : Lib.decNat (b :: r) with
        | none => rw [hm] at h; cases h
        | some m =>
          rw [hm] at h
          have := key hm (by simp only [List.length_cons]; omega)
          simp only [Option.map_some, Option.some.injEq] at h
          omega
def numF (s : ByteArray) : Option Int := if s.size ≤ 8 then (Lib.atoi s.data.toList).bind (fun n => if Lib.itoa n = s.data.toList then some n else none) else none
section
variable {w w' W : World} {B : Nat}
structure Gl (w : World) : Prop where
  e : ∃ te pe, w.cell? ⟨0, 0, none⟩ = some (.iface te pe)
  t : Lib.TabIs Tryz.prog w "internal/strconv.uint64pow10" .u64 Lib.pow10Tab
theorem gPow : Tryz.prog.globalNamed "internal/strconv.uint64pow10" = some 2 := by kernel_rfl
theorem Gl.still (h : Gl w) (hb : Below w.heap.size w w') : Gl w' := by
  obtain ⟨te, pe, h1⟩ := h.e
  refine ⟨⟨te, pe, below_at hb h1⟩, ?_⟩
  have h2 := h.t
  unfold Lib.TabIs World.var? at h2 ⊢
  rw [gPow] at h2 ⊢
  simp only [Option.bind_some] at h2 ⊢
  cases h3 : w.heap[2]? with
  | none => rw [h3] at h2; cases h2
  | some o =>
    rw [h3] at h2
    rw [hb.block 2 (lt_heap h3), h3]
    exact h2
theorem within_any (v lo hi : Int) : Calls Tryz.prog 28 #[.int .i64 v, .int .i64 lo, .int .i64 hi] w fun e w' => e = .returned (.bool (decide (lo ≤ v ∧ v ≤ hi))) ∧ w = w' := by
  by_cases h1 : lo ≤ v
  · by_cases h2 : v ≤ hi
    · go_enter Tryz.func28, Tryz.ntmps28
      go_wp2
      go_ret
      exact ⟨by simp [h1, h2], rfl⟩
    · go_enter Tryz.func28, Tryz.ntmps28
      go_wp2
      go_ret
      exact ⟨by simp [h1, h2], rfl⟩
  · go_enter Tryz.func28, Tryz.ntmps28
    go_wp2
    go_ret
    exact ⟨by simp [show ¬ lo ≤ v by omega], rfl⟩
def cliB (v : Int) : Bool := decide (0 ≤ v ∧ v ≤ 15)
theorem isClient_any (v : Int) : Calls Tryz.prog 27 #[.int .i64 v] w fun e w' => e = .returned (.bool (cliB v)) ∧ w = w' := by
  have H : Hid (∀ X : World, Calls Tryz.prog 28 #[.int .i64 v, .int .i64 0, .int .i64 15] X fun e w' => e = .returned (.bool (cliB v)) ∧ X = w') := fun X => within_any v 0 15
  generalize cliB v = b at *
  go_enter Tryz.func27, Tryz.ntmps27
  go_wp2_with (first | (go_at_call 28; refine (H.out _).mono ?_; rintro e w' ⟨rfl, rfl⟩) | fail)
  go_ret
  exact ⟨rfl, rfl⟩
def keyB (s : ByteArray) : Bool := decide ((1 : Int) ≤ (s.size : Int) ∧ (s.size : Int) ≤ 8)
def valB (s : ByteArray) : Bool := decide ((s.size : Int) ≤ 8)
def empB (s : ByteArray) : Bool := s.toList == ([] : List UInt8)
theorem isKey_any (s : ByteArray) : Calls Tryz.prog 46 #[.string s] w fun e w' => e = .returned (.bool (keyB s)) ∧ w = w' := by
  have H : Hid (∀ X : World, Calls Tryz.prog 28 #[.int .i64 (s.size : Int), .int .i64 1, .int .i64 8] X fun e w' => e = .returned (.bool (keyB s)) ∧ X = w') := fun X => within_any _ 1 8
  generalize keyB s = b at *
  go_enter Tryz.func46, Tryz.ntmps46
  go_wp2_with (first | (go_at_call 28; refine (H.out _).mono ?_; rintro e w' ⟨rfl, rfl⟩) | fail)
  go_ret
  exact ⟨rfl, rfl⟩
theorem isValue_any (s : ByteArray) : Calls Tryz.prog 47 #[.string s] w fun e w' => e = .returned (.bool (valB s)) ∧ w = w' := by
  by_cases h : (s.size : Int) ≤ 8
  · go_enter Tryz.func47, Tryz.ntmps47
    go_wp2
    go_ret
    exact ⟨by simp [valB, h], rfl⟩
  · go_enter Tryz.func47, Tryz.ntmps47
    go_wp2
    go_ret
    exact ⟨by simp [valB, h], rfl⟩
theorem isEmpty_any (s : ByteArray) : Calls Tryz.prog 48 #[.string s] w fun e w' => e = .returned (.bool (empB s)) ∧ w = w' := by
  go_enter Tryz.func48, Tryz.ntmps48
  go_wp2
  go_ret
  exact ⟨by simp [empB], rfl⟩
end
end Go.Proofs.YtjgjpepmfiklfaaGreatDoor.Mx
