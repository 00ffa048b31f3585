import Derived.Test.YtapenemfnngniaaPp
namespace Go.Proofs.Ytapenemfnngniaa.Qm
open Go.RowKit Mb
set_option linter.unusedVariables false
set_option maxRecDepth 100000
set_option linter.unusedSimpArgs false
structure St where
  p : Int
  e : Int
  l : Int
def z3 : St := ⟨0, 0, 0⟩
def St.li (a : St) : List Int := [a.p, a.e, a.l]
theorem St.li_len (a : St) : a.li.length = 3 := rfl
section
variable {w w' : World} {B : Nat}
structure Rd3 (w : World) (ao : Option Addr) (n c : Nat) (ts : List St) : Prop where
  len : ts.length = n
  cap : n ≤ c
  nil : ao = none → c = 0
  at_ : n = 0 ∨ ∃ b off, ao = some ⟨b, off, none⟩ ∧ ∀ i, i < n → w.rangeAt b (off + i * 3) (ints (ts.getD i z3).li)
theorem below_range {b o : Nat} {cs : List Value} (hb : Below w.heap.size w w') (hc : w.rangeAt b o cs) : w'.rangeAt b o cs := fun j v hv => below_at hb (hc j v hv)
theorem Rd3.still {ao : Option Addr} {n c : Nat} {ts : List St} (h : Rd3 w ao n c ts) (hb : Below w.heap.size w w') : Rd3 w' ao n c ts :=
  ⟨h.len, h.cap, h.nil, h.at_.elim (fun hh => .inl hh) (fun ⟨b, off, e, hc⟩ => .inr ⟨b, off, e, fun i hi => below_range hb (hc i hi)⟩)⟩
theorem Rd3.at {ao : Option Addr} {n c : Nat} {ts : List St} (h : Rd3 w ao n c ts) {i : Nat} (hi : i < n) : ∃ b off, ao = some ⟨b, off, none⟩ ∧ w.rangeAt b (off + i * 3) (ints (ts.getD i z3).li) := by
  rcases h.at_ with h3 | ⟨b, off, h4, h5⟩
  · omega
  · exact ⟨b, off, h4, h5 i hi⟩
theorem nan_any (x : Int) : Calls Try.prog 74 #[.int .i64 x] w fun e w' => e = .returned (.bool false) ∧ w = w' := by
  go_enter Try.func74, Try.ntmps74
  go_wp2
  go_ret
  exact ⟨by simp, rfl⟩
def cmpI (x y : Int) : Int := if x < y then -1 else if y < x then 1 else 0
set_option maxHeartbeats 1000000 in
theorem cmp_any (x y : Int) : Calls Try.prog 54 #[.int .i64 x, .int .i64 y] w fun e w' => e = .returned (.int .i64 (cmpI x y)) ∧ w = w' := by
  unfold cmpI
  by_cases h1 : x < y
  · rw [if_pos h1]
    go_enter Try.func54, Try.ntmps54
    go_wp2_with (first
      | (go_at_call 74; refine (nan_any _).mono ?_; rintro e w' ⟨rfl, rfl⟩)
      | fail)
    go_ret
    exact ⟨rfl, rfl⟩
  · rw [if_neg h1]
    by_cases h2 : y < x
    · rw [if_pos h2]
      go_enter Try.func54, Try.ntmps54
      go_wp2_with (first
        | (go_at_call 74; refine (nan_any _).mono ?_; rintro e w' ⟨rfl, rfl⟩)
        | fail)
      go_ret
      exact ⟨rfl, rfl⟩
    · rw [if_neg h2]
      go_enter Try.func54, Try.ntmps54
      go_wp2_with (first
        | (go_at_call 74; refine (nan_any _).mono ?_; rintro e w' ⟨rfl, rfl⟩)
        | fail)
      go_ret
      exact ⟨rfl, rfl⟩
def orI (x y z : Int) : Int := if x ≠ 0 then x else if y ≠ 0 then y else z
theorem blk_three {W : World} (x y z : Int) : Rw (W.alloc (.cells #[.int .i64 x, .int .i64 y, .int .i64 z] 3)) W.heap.size 3 [x, y, z] := heap_alloc_new W _
def gofar (a b : St) : Bool := decide (0 < orI (cmpI a.e b.e) (cmpI a.l b.l) (cmpI b.p a.p))
def furt (a b : St) : Bool := if a.e ≠ b.e then decide (b.e < a.e) else if a.l ≠ b.l then decide (b.l < a.l) else decide (a.p < b.p)
theorem gofar_eq (a b : St) : gofar a b = furt a b := by
  unfold gofar furt orI cmpI
  rw [Bool.eq_iff_iff]
  by_cases h1 : a.e < b.e
  · simp [h1, show a.e ≠ b.e by omega]; omega
  · by_cases h2 : b.e < a.e
    · simp [h1, h2, show a.e ≠ b.e by omega]
    · have h3 : a.e = b.e := by omega
      by_cases h4 : a.l < b.l
      · simp [h3, h4, show a.l ≠ b.l by omega]; omega
      · by_cases h5 : b.l < a.l
        · simp [h3, h4, h5, show a.l ≠ b.l by omega]
        · have h6 : a.l = b.l := by omega
          simp [h3, h6]
          by_cases h7 : b.p < a.p
          · simp [h7]; omega
          · by_cases h8 : a.p < b.p
            · simp [h7, h8]
            · simp [h7, h8]
end
end Go.Proofs.Ytapenemfnngniaa.Qm
