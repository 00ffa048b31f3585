import Derived.Test.YtbdefhagpgpoiaaBl
namespace Go.Proofs.Ytbdefhagpgpoiaa.Mb
open Go.RowKit
set_option linter.unusedVariables false
set_option maxRecDepth 100000
set_option linter.unusedSimpArgs false
section
variable {A A' : Ag} {w w' W : World} {B : Nat} {T : Int}
def hitB (ms : List Int) (pid inc : Int) (i : Nat) : Bool := (ms.getD (i * 3) 0 == pid) && (ms.getD (i * 3 + 1) 0 == inc)
def hld (ms : List Int) (pid inc : Int) (k : Nat) : Int := match (List.range k).find? (hitB ms pid inc) with | some i => ms.getD (i * 3 + 2) 0 | none => 0
theorem find_hit {f : Nat → Bool} {k j : Nat} (hj : j < k) (hno : ∀ i, i < j → f i = false) (h : f j = true) : (List.range k).find? f = some j := by
  rw [List.find?_range_eq_some]
  exact ⟨h, List.mem_range.2 hj, fun i hi => by rw [hno i hi]; rfl⟩
theorem find_none {f : Nat → Bool} {k : Nat} (hno : ∀ i, i < k → f i = false) : (List.range k).find? f = none := by
  rw [List.find?_eq_none]
  intro i hi
  rw [hno i (List.mem_range.1 hi)]
  simp
set_option maxHeartbeats 2000000 in
theorem holds_any (x0 x1 x2 x3 pid inc : Int) {a1 : Option Addr} {n c1 : Nat} {ms : List Int} (h1 : RdM w a1 n ms) (hn : n ≤ 16) : Calls Try.prog 12 #[.agg #[.int .i64 x0, .int .i64 x1, .int .i64 x2, .int .i64 x3, .slice a1 n c1], .int .i64 pid, .int .i64 inc] w fun e w' => e = .returned (.int .i64 (hld ms pid inc n)) ∧ Below w.heap.size w w' := by
  generalize hW1 : w.alloc (.cells #[.int .i64 x0, .int .i64 x1, .int .i64 x2, .int .i64 x3, .slice a1 n c1] 32) = W1
  have b1 : Below w.heap.size w W1 := hW1 ▸ balloc (Below.refl _ _)
  have k1 : W1.heap[w.heap.size]? = some (.cells #[.int .i64 x0, .int .i64 x1, .int .i64 x2, .int .i64 x3, .slice a1 n c1] 32 (0, 0)) := by rw [← hW1]; exact heap_alloc_new w _
  have c4 : W1.cell? ⟨w.heap.size, 4, none⟩ = some (.slice a1 n c1) := blk_cell k1 4
  have HB1 : Hid (Below w.heap.size w W1) := b1
  have H1 : Hid (RdM W1 a1 n ms) := h1.still b1
  obtain ⟨r, hr⟩ : ∃ r, hld ms pid inc n = r := ⟨_, rfl⟩
  have Hr : Hid (hld ms pid inc n = r) := hr
  rw [hr]
  clear h1 b1 k1 hr
  go_enter Try.func12, Try.ntmps12
  go_wp2
  go_loopw [7] (fun i wr => ∃ k : Nat, k ≤ n ∧ i = .int .i64 k ∧ (∀ j, j < k → hitB ms pid inc j = false) ∧ wr = W1) (fun i _ => n - (intOf i).toNat)
  case atStart => exact ⟨0, Nat.zero_le _, rfl, fun j hj => by omega, rfl⟩
  case round =>
    obtain ⟨k, hk, rfl, hno, rfl⟩ := hrel
    by_cases hlt : k < n
    · obtain ⟨g1, e1, r1⟩ := H1.out.at hlt
      have d0 : wr.cell? ⟨g1, k * 3, none⟩ = some (.int .i64 (ms.getD (k * 3) 0)) := r1 0 _ rfl
      have d1 : wr.cell? ⟨g1, k * 3 + 1, none⟩ = some (.int .i64 (ms.getD (k * 3 + 1) 0)) := r1 1 _ rfl
      have d2 : wr.cell? ⟨g1, k * 3 + 2, none⟩ = some (.int .i64 (ms.getD (k * 3 + 2) 0)) := r1 2 _ rfl
      have i1 : (0 : Int) ≤ (k : Int) := Int.natCast_nonneg _
      have i2 : (k : Int) < (n : Int) := by omega
      have Hhit : Hid (hitB ms pid inc k = true → r = ms.getD (k * 3 + 2) 0) := fun hh => by
        rw [← Hr.out]
        unfold hld
        rw [find_hit hlt hno hh]
      have Hno : Hid (hitB ms pid inc k = false → ∀ j, j < k + 1 → hitB ms pid inc j = false) := fun hh j hj => by
        by_cases e : j = k
        · rw [e]; exact hh
        · exact hno j (by omega)
      have Hd : Hid (hitB ms pid inc k = ((ms.getD (k * 3) 0 == pid) && (ms.getD (k * 3 + 1) 0 == inc))) := rfl
      generalize ms.getD (k * 3) 0 = u0' at *
      generalize ms.getD (k * 3 + 1) 0 = u1' at *
      generalize ms.getD (k * 3 + 2) 0 = u2' at *
      generalize hitB ms pid inc k = hb at *
      subst e1
      clear r1 hno
      by_cases f0 : u0' = pid
      · have g0 : (u0' == pid) = true := by simpa using f0
        rw [g0, Bool.true_and] at Hd
        by_cases f1 : u1' = inc
        · have g1' : (u1' == inc) = true := by simpa using f1
          rw [g1'] at Hd
          have Hres : Hid (r = u2') := Hhit.out Hd.out
          subst f0 f1
          go_wp2
          go_ret
          exact ⟨by rw [Hres.out]; rfl, HB1.out⟩
        · have g1' : (u1' == inc) = false := by simpa using f1
          rw [g1'] at Hd
          subst f0
          go_wp2
          exact ⟨⟨k + 1, by omega, by go_num, Hno.out Hd.out, by first | rfl | trivial⟩, by simp [intOf]; omega⟩
      · have g0 : (u0' == pid) = false := by simpa using f0
        rw [g0, Bool.false_and] at Hd
        go_wp2
        exact ⟨⟨k + 1, by omega, by go_num, Hno.out Hd.out, by first | rfl | trivial⟩, by simp [intOf]; omega⟩
    · obtain rfl : k = n := by omega
      have Hr0 : Hid (r = 0) := by
        show r = 0
        rw [← Hr.out]
        unfold hld
        rw [find_none hno]
      clear hno
      go_wp2
      go_ret
      exact ⟨by rw [Hr0.out]; rfl, HB1.out⟩
end
end Go.Proofs.Ytbdefhagpgpoiaa.Mb
