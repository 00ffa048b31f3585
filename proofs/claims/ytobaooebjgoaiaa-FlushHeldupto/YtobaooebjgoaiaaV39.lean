import Derived.Test.YtobaooebjgoaiaaV15
import Derived.Test.YtobaooebjgoaiaaV20
import Derived.Test.YtobaooebjgoaiaaV30
import Derived.Laws.EntriesVeiled
namespace Go.Proofs.Ytobaooebjgoaiaa.Fm
open Go.RowKit Go.Maps Mb
set_option linter.unusedVariables false
set_option maxRecDepth 100000
set_option linter.unusedSimpArgs false
section
variable {w w' W : World} {B : Nat}
def NodT (l : List Int) (k : Nat) : Prop := ∀ i, i < k → (0 ≤ l.getD i 0 ∧ l.getD i 0 < 16) ∧ ∀ j, j < i → l.getD j 0 ≠ l.getD i 0
def PlK (l : List Int) (q : Int) (k : Nat) (r : Int) : Prop := (r = -1 ∧ ∀ m, m < k → l.getD m 0 ≠ q) ∨ ∃ m : Nat, m < k ∧ r = m ∧ l.getD m 0 = q
def PlaceS (l : List Int) (q r : Int) : Prop := (¬ NodT l l.length ∧ r = -1) ∨ (NodT l l.length ∧ PlK l q l.length r)
theorem PlaceS.eq {l : List Int} {q r r' : Int} (h : PlaceS l q r) (k : PlaceS l q r') : r = r' := by
 rcases h with ⟨h1, h2⟩ | ⟨h1, h2⟩ <;> rcases k with ⟨k1, k2⟩ | ⟨k1, k2⟩
 ·rw [h2, k2]
 ·exact absurd k1 h1
 ·exact absurd h1 k1
 ·rcases h2 with ⟨h3, h4⟩ | ⟨m, hm, h3, h4⟩ <;> rcases k2 with ⟨k3, k4⟩ | ⟨n, hn, k3, k4⟩
  ·rw [h3, k3]
  ·exact absurd k4 (h4 n hn)
  ·exact absurd h4 (k4 m hm)
  ·have : m = n := by
    by_cases e1 : m < n
    ·exact absurd (h4.trans k4.symm) ((h1 n hn).2 m e1)
    ·by_cases e2 : n < m
     ·exact absurd (k4.trans h4.symm) ((h1 m hm).2 n e2)
     ·omega
   rw [h3, k3, this]
set_option maxHeartbeats 4000000 in
theorem qplace_any {ao : Option Addr} {cp : Nat} {l : List Int} (hr : RdI w ao l) (hn : l.length ≤ 1000000000000000000) (q : Int) : Calls Try.prog 47 #[.slice ao l.length cp, .int .i64 q] w fun e w' => ∃ r, e = .returned (.int .i64 r) ∧ PlaceS l q r ∧ Below w.heap.size w w' := by
 have HR : Hid (RdI w ao l) := hr
 have Hno : Hid (¬ NodT l l.length → PlaceS l q (-1)) := fun h => .inl ⟨h, rfl⟩
 have Hyes : Hid (NodT l l.length → ∀ r, PlK l q l.length r → PlaceS l q r) := fun h r hp => .inr ⟨h, hp⟩
 generalize hL : l.length = L at *
 have HLe : Hid (l.length = L) := hL
 clear hr hL
 go_enter Try.func47, Try.ntmps47
 go_wp2
 go_loopw [5, 6] (fun av v wr => ∃ k : Nat, ∃ r : Int, k ≤ L ∧ v = .int .i64 k ∧ av = .int .i64 r ∧ NodT l k ∧ PlK l q k r ∧ Below w.heap.size w wr) (fun _ v _ => L - (intOf v).toNat)
 case atStart => exact ⟨0, -1, Nat.zero_le _, rfl, rfl, fun i hi => by omega, .inl ⟨rfl, fun m hm => by omega⟩, Below.refl _ _⟩
 case round =>
  obtain ⟨k, r, hk, rfl, rfl, hN, hP, hb⟩ := hrel
  have HN : Hid (NodT l k) := hN
  have HP : Hid (PlK l q k r) := hP
  have HB : Hid (Below w.heap.size w wr) := hb
  clear hN hP hb
  by_cases hlt : k < L
  ·obtain ⟨b, off, rfl, hc⟩ := (HR.out.still HB.out).at (i := k) (by rw [HLe.out]; exact hlt)
   have i1 : (0 : Int) ≤ (k : Int) := Int.natCast_nonneg _
   have i2 : (k : Int) < (L : Int) := by omega
   have Hbad : Hid (¬ (0 ≤ l.getD k 0 ∧ l.getD k 0 < 16) → PlaceS l q (-1)) := fun h => Hno.out (fun hn => h (hn k hlt).1)
   have Hdup : Hid (∀ j, j < k → l.getD j 0 = l.getD k 0 → PlaceS l q (-1)) := fun j hj e => Hno.out (fun hn => (hn k hlt).2 j hj e)
   have Hnx : Hid ((0 ≤ l.getD k 0 ∧ l.getD k 0 < 16) → (∀ j, j < k → l.getD j 0 ≠ l.getD k 0) → NodT l (k + 1)) := fun h1 h2 i hi => by
    by_cases e : i = k
    ·subst e; exact ⟨h1, h2⟩
    ·exact HN.out i (by omega)
   have Hpy : Hid (l.getD k 0 = q → PlK l q (k + 1) (k : Int)) := fun h => .inr ⟨k, by omega, rfl, h⟩
   have Hpn : Hid (l.getD k 0 ≠ q → PlK l q (k + 1) r) := fun h => by
    rcases HP.out with ⟨h1, h2⟩ | ⟨m, h1, h2⟩
    ·refine .inl ⟨h1, fun m hm => ?_⟩
     by_cases e : m = k
     ·subst e; exact h
     ·exact h2 m (by omega)
    ·exact .inr ⟨m, by omega, h2⟩
   generalize hx : l.getD k 0 = x at *
   have Hx : Hid (l.getD k 0 = x) := hx
   clear hx
   by_cases h1 : 0 ≤ x
   case neg =>
    have Hr : Hid (PlaceS l q (-1)) := Hbad.out (by omega)
    go_wp2_with (first | (refine wl_at 16 rfl ?_) | fail)
    refine wT9 ?_
    simp only [Act.put,gA9,gZ9,gC9,sA9,sZ9,sC9]
    refine wT9 ?_
    simp only [Act.put,gA9,gZ9,gC9,sA9,sZ9,sC9]
    refine wl_take (v := .bool true) (by kernel_rfl) (by first | (go_simp; done) | (go_simp; omega)) ?_
    simp only [Act.put,gA9,gZ9,gC9,sA9,sZ9,sC9]
    refine wT9 ?_
    simp only [Act.put,gA9,gZ9,gC9,sA9,sZ9,sC9]
    refine wS9' ?_
    simp only [Act.put,gA9,gZ9,gC9,sA9,sZ9,sC9]
    refine wS9' ?_
    simp only [Act.put,gA9,gZ9,gC9,sA9,sZ9,sC9]
    refine wS9' ?_
    simp only [Act.put,gA9,gZ9,gC9,sA9,sZ9,sC9]
    refine wS9' ?_
    simp only [Act.put,gA9,gZ9,gC9,sA9,sZ9,sC9]
    refine wS9' ?_
    simp only [Act.put,gA9,gZ9,gC9,sA9,sZ9,sC9]
    refine wT9 ?_
    simp only [Act.put,gA9,gZ9,gC9,sA9,sZ9,sC9]
    refine ⟨?_⟩
    go_wp2
    go_ret
    exact ⟨-1, rfl, Hr.out, HB.out⟩
   by_cases h2 : x < 16
   case neg =>
    have Hr : Hid (PlaceS l q (-1)) := Hbad.out (by omega)
    go_wp2_with (first | (refine wl_at 16 rfl ?_) | fail)
    refine wT9 ?_
    simp only [Act.put,gA9,gZ9,gC9,sA9,sZ9,sC9]
    refine wT9 ?_
    simp only [Act.put,gA9,gZ9,gC9,sA9,sZ9,sC9]
    refine wl_take (v := .bool false) (by kernel_rfl) (by first | (go_simp; done) | (go_simp; omega)) ?_
    simp only [Act.put,gA9,gZ9,gC9,sA9,sZ9,sC9]
    refine wT9 ?_
    simp only [Act.put,gA9,gZ9,gC9,sA9,sZ9,sC9]
    refine wT9 ?_
    simp only [Act.put,gA9,gZ9,gC9,sA9,sZ9,sC9]
    refine wT9 ?_
    simp only [Act.put,gA9,gZ9,gC9,sA9,sZ9,sC9]
    refine wT9 ?_
    simp only [Act.put,gA9,gZ9,gC9,sA9,sZ9,sC9]
    refine wT9 ?_
    simp only [Act.put,gA9,gZ9,gC9,sA9,sZ9,sC9]
    refine wl_take (v := .bool true) (by kernel_rfl) (by first | (go_simp; done) | (go_simp; omega)) ?_
    simp only [Act.put,gA9,gZ9,gC9,sA9,sZ9,sC9]
    refine wT9 ?_
    simp only [Act.put,gA9,gZ9,gC9,sA9,sZ9,sC9]
    refine ⟨?_⟩
    go_wp2
    go_ret
    exact ⟨-1, rfl, Hr.out, HB.out⟩
   go_wp2_with (first | (refine wl_at 16 rfl ?_) | fail)
   refine wT9 ?_
   simp only [Act.put,gA9,gZ9,gC9,sA9,sZ9,sC9]
   refine wT9 ?_
   simp only [Act.put,gA9,gZ9,gC9,sA9,sZ9,sC9]
   refine wl_take (v := .bool false) (by kernel_rfl) (by first | (go_simp; done) | (go_simp; omega)) ?_
   simp only [Act.put,gA9,gZ9,gC9,sA9,sZ9,sC9]
   refine wT9 ?_
   simp only [Act.put,gA9,gZ9,gC9,sA9,sZ9,sC9]
   refine wT9 ?_
   simp only [Act.put,gA9,gZ9,gC9,sA9,sZ9,sC9]
   refine wT9 ?_
   simp only [Act.put,gA9,gZ9,gC9,sA9,sZ9,sC9]
   refine wT9 ?_
   simp only [Act.put,gA9,gZ9,gC9,sA9,sZ9,sC9]
   refine wT9 ?_
   simp only [Act.put,gA9,gZ9,gC9,sA9,sZ9,sC9]
   refine wl_take (v := .bool false) (by kernel_rfl) (by first | (go_simp; done) | (go_simp; omega)) ?_
   simp only [Act.put,gA9,gZ9,gC9,sA9,sZ9,sC9]
   refine wT9 ?_
   simp only [Act.put,gA9,gZ9,gC9,sA9,sZ9,sC9]
   refine ⟨?_⟩
   go_wp2
   go_loopw [7] (fun v wv => ∃ j : Nat, j ≤ k ∧ v = .int .i64 j ∧ (∀ m, m < j → l.getD m 0 ≠ x) ∧ Below w.heap.size w wv) (fun v _ => k - (intOf v).toNat)
   case atStart => exact ⟨0, Nat.zero_le _, rfl, fun m hm => by omega, HB.out⟩
   case round =>
    obtain ⟨j, hj, rfl, hno, hb⟩ := hrel
    have HM : Hid (∀ m, m < j → l.getD m 0 ≠ x) := hno
    clear HB hc
    have HB : Hid (Below w.heap.size w wr) := hb
    clear hno hb
    obtain ⟨b1, off1, he1, hc⟩ := (HR.out.still HB.out).at (i := k) (by rw [HLe.out]; exact hlt)
    have e1 : b = b1 ∧ off = off1 := by simpa using he1
    obtain ⟨rfl, rfl⟩ := e1
    rw [Hx.out] at hc
    clear he1
    by_cases hjt : j < k
    ·obtain ⟨b2, off2, he2, hd⟩ := (HR.out.still HB.out).at (i := j) (by rw [HLe.out]; omega)
     have e2 : b = b2 ∧ off = off2 := by simpa using he2
     obtain ⟨rfl, rfl⟩ := e2
     have j1 : (0 : Int) ≤ (j : Int) := Int.natCast_nonneg _
     have j2 : (j : Int) < (k : Int) := by omega
     have j3 : (j : Int) < (L : Int) := by omega
     have Hd : Hid (l.getD j 0 = x → PlaceS l q (-1)) := fun e => Hdup.out j hjt e
     have Hm : Hid (l.getD j 0 ≠ x → ∀ m, m < j + 1 → l.getD m 0 ≠ x) := fun h m hm => by
      by_cases e : m = j
      ·subst e; exact h
      ·exact HM.out m (by omega)
     generalize l.getD j 0 = y at *
     clear he2
     by_cases hy : y = x
     ·have Hr : Hid (PlaceS l q (-1)) := Hd.out hy
      subst hy
      go_wp2_with (fail)
      refine wp_region_held_drew (S := (fun w' => w'.cell? ⟨b, off + j, none⟩ = some (.int .i64 y) ∧ w'.cell? ⟨b, off + k, none⟩ = some (.int .i64 y))) (by kernel_rfl) ⟨below_at (Below.refl _ _).drew hd, below_at (Below.refl _ _).drew hc⟩ (fun hHeld => ?_)
      simp only [Act.put, List.size_toArray, List.length_cons, List.length_nil, Nat.zero_add]
      refine wG9 0 (.slice (some ⟨b, off, none⟩) L cp) rfl hHeld ?_
      simp only [Act.put,gA9,gZ9,gC9,sA9,sZ9,sC9]
      refine wG9 1 (.int .i64 (j : Int)) rfl hHeld ?_
      simp only [Act.put,gA9,gZ9,gC9,sA9,sZ9,sC9]
      refine wG9 2 (.pointer (some ⟨b, off + j, none⟩)) rfl hHeld ?_
      simp only [Act.put,gA9,gZ9,gC9,sA9,sZ9,sC9]
      refine wX9 3 (.int .i64 y) rfl (Or.inl ⟨by rfl, fun w' hS => by (obtain ⟨t1, t2⟩ := hS; go_simp)⟩) hHeld ?_
      simp only [Act.put,gA9,gZ9,gC9,sA9,sZ9,sC9]
      refine wG9 4 (.slice (some ⟨b, off, none⟩) L cp) rfl hHeld ?_
      simp only [Act.put,gA9,gZ9,gC9,sA9,sZ9,sC9]
      refine wG9 5 (.int .i64 (k : Int)) rfl hHeld ?_
      simp only [Act.put,gA9,gZ9,gC9,sA9,sZ9,sC9]
      refine wG9 6 (.pointer (some ⟨b, off + k, none⟩)) rfl hHeld ?_
      simp only [Act.put,gA9,gZ9,gC9,sA9,sZ9,sC9]
      refine wX9 7 (.int .i64 y) rfl (Or.inl ⟨by rfl, fun w' hS => by (obtain ⟨t1, t2⟩ := hS; go_simp)⟩) hHeld ?_
      simp only [Act.put,gA9,gZ9,gC9,sA9,sZ9,sC9]
      refine wX9 8 (.bool true) rfl (Or.inl ⟨by rfl, fun w' hS => by first | (go_simp; done) | (go_simp; omega) | (go_simp; simp_all)⟩) hHeld ?_
      simp only [Act.put,gA9,gZ9,gC9,sA9,sZ9,sC9]
      refine wpAnyH_done (by kernel_rfl) ?_ _
      clear hHeld
      go_wp2
      go_ret
      exact ⟨-1, rfl, Hr.out, HB.out.drew⟩
     ·have Hr : Hid (∀ m, m < j + 1 → l.getD m 0 ≠ x) := Hm.out hy
      go_wp2_with (fail)
      refine wp_region_held_drew (S := (fun w' => w'.cell? ⟨b, off + j, none⟩ = some (.int .i64 y) ∧ w'.cell? ⟨b, off + k, none⟩ = some (.int .i64 x))) (by kernel_rfl) ⟨below_at (Below.refl _ _).drew hd, below_at (Below.refl _ _).drew hc⟩ (fun hHeld => ?_)
      simp only [Act.put, List.size_toArray, List.length_cons, List.length_nil, Nat.zero_add]
      refine wG9 0 (.slice (some ⟨b, off, none⟩) L cp) rfl hHeld ?_
      simp only [Act.put,gA9,gZ9,gC9,sA9,sZ9,sC9]
      refine wG9 1 (.int .i64 (j : Int)) rfl hHeld ?_
      simp only [Act.put,gA9,gZ9,gC9,sA9,sZ9,sC9]
      refine wG9 2 (.pointer (some ⟨b, off + j, none⟩)) rfl hHeld ?_
      simp only [Act.put,gA9,gZ9,gC9,sA9,sZ9,sC9]
      refine wX9 3 (.int .i64 y) rfl (Or.inl ⟨by rfl, fun w' hS => by (obtain ⟨t1, t2⟩ := hS; go_simp)⟩) hHeld ?_
      simp only [Act.put,gA9,gZ9,gC9,sA9,sZ9,sC9]
      refine wG9 4 (.slice (some ⟨b, off, none⟩) L cp) rfl hHeld ?_
      simp only [Act.put,gA9,gZ9,gC9,sA9,sZ9,sC9]
      refine wG9 5 (.int .i64 (k : Int)) rfl hHeld ?_
      simp only [Act.put,gA9,gZ9,gC9,sA9,sZ9,sC9]
      refine wG9 6 (.pointer (some ⟨b, off + k, none⟩)) rfl hHeld ?_
      simp only [Act.put,gA9,gZ9,gC9,sA9,sZ9,sC9]
      refine wX9 7 (.int .i64 x) rfl (Or.inl ⟨by rfl, fun w' hS => by (obtain ⟨t1, t2⟩ := hS; go_simp)⟩) hHeld ?_
      simp only [Act.put,gA9,gZ9,gC9,sA9,sZ9,sC9]
      refine wX9 8 (.bool false) rfl (Or.inl ⟨by rfl, fun w' hS => by first | (go_simp; done) | (go_simp; omega) | (go_simp; simp_all)⟩) hHeld ?_
      simp only [Act.put,gA9,gZ9,gC9,sA9,sZ9,sC9]
      refine wpAnyH_done (by kernel_rfl) ?_ _
      clear hHeld
      go_wp2
      exact ⟨⟨j + 1, by omega, by go_num, Hr.out, HB.out.drew⟩, by simp [intOf]; omega⟩
    ·obtain rfl : k = j := by omega
     have HN2 : Hid (NodT l (k + 1)) := Hnx.out ⟨h1, h2⟩ HM.out
     by_cases hq : x = q
     ·have HP2 : Hid (PlK l q (k + 1) (k : Int)) := Hpy.out hq
      subst hq
      go_wp2
      exact ⟨⟨k + 1, (k : Int), by omega, by go_num, rfl, HN2.out, HP2.out, HB.out⟩, by simp [intOf]; omega⟩
     ·have HP2 : Hid (PlK l q (k + 1) r) := Hpn.out hq
      have hq2 : (x == q) = false := by simpa using hq
      go_wp2
      exact ⟨⟨k + 1, r, by omega, by go_num, rfl, HN2.out, HP2.out, HB.out⟩, by simp [intOf]; omega⟩
  ·obtain rfl : L = k := by omega
   have Hr : Hid (PlaceS l q r) := Hyes.out HN.out r HP.out
   go_wp2
   go_ret
   exact ⟨r, rfl, Hr.out, HB.out⟩
end
end Go.Proofs.Ytobaooebjgoaiaa.Fm
namespace Go.Proofs.Ytobaooebjgoaiaa.Fm
open Go.RowKit Go.Maps Mb
set_option linter.unusedVariables false
set_option maxRecDepth 100000
set_option linter.unusedSimpArgs false
section
variable {w w' W : World} {B : Nat}
def IdxS (l : List Int) (q r : Int) : Prop := (r = -1 ∧ ∀ m, m < l.length → l.getD m 0 ≠ q) ∨ ∃ m : Nat, r = m ∧ m < l.length ∧ l.getD m 0 = q
set_option maxHeartbeats 1000000 in
theorem index_any {ao : Option Addr} {cp : Nat} {l : List Int} (hr : RdI w ao l) (hn : l.length ≤ 1048576) (q : Int) : Calls Try.prog 36 #[.slice ao l.length cp, .int .i64 q] w fun e w' => ∃ r, e = .returned (.int .i64 r) ∧ IdxS l q r ∧ w = w' := by
 have HR : Hid (RdI w ao l) := hr
 have HS : Hid (∀ r : Int, ((r = -1 ∧ ∀ m, m < l.length → l.getD m 0 ≠ q) ∨ ∃ m : Nat, r = m ∧ m < l.length ∧ l.getD m 0 = q) → IdxS l q r) := fun r h => h
 generalize hL : l.length = L at *
 have HLe : Hid (l.length = L) := hL
 clear hr hL
 go_enter Try.func36, Try.ntmps36
 go_wp2
 go_loopw [8] (fun i wr => ∃ j : Nat, j ≤ L ∧ i = .int .i64 (j : Int) ∧ (∀ m, m < j → l.getD m 0 ≠ q) ∧ w = wr) (fun i _ => L - (intOf i).toNat)
 case atStart => exact ⟨0, Nat.zero_le _, rfl, fun m hm => by omega, rfl⟩
 case round =>
  obtain ⟨j, hj, rfl, hno, rfl⟩ := hrel
  have HN : Hid (∀ m, m < j → l.getD m 0 ≠ q) := hno
  clear hno
  have j0 : (0 : Int) ≤ (j : Int) := Int.natCast_nonneg _
  by_cases hlt : j < L
  ·have j1 : (j : Int) < (L : Int) := by omega
   obtain ⟨b, off, rfl, hc⟩ := HR.out.at (i := j) (by rw [HLe.out]; exact hlt)
   by_cases he : l.getD j 0 = q
   ·have Hq : Hid (l.getD j 0 = q) := he
    have hb : (q == l.getD j 0) = true := by rw [he]; simp
    have HQ2 : Hid (l.getD j 0 = q) := he
    clear he Hq
    generalize hyy : l.getD j 0 = y at hb hc
    clear hyy
    go_wp2
    go_ret
    exact ⟨_, rfl, HS.out _ (.inr ⟨j, rfl, hlt, HQ2.out⟩), rfl⟩
   ·have Hn2 : Hid (∀ m, m < j + 1 → l.getD m 0 ≠ q) := fun m hm => by
     by_cases e : m = j
     ·rw [e]; exact he
     ·exact HN.out m (by omega)
    have hb : (q == l.getD j 0) = false := by simpa using fun h => he h.symm
    clear he
    generalize l.getD j 0 = y at *
    go_wp2
    exact ⟨⟨j + 1, by omega, by go_num, Hn2.out, trivial⟩, by simp [intOf]; omega⟩
  ·obtain rfl : j = L := by omega
   go_wp2
   go_ret
   exact ⟨-1, rfl, HS.out _ (.inl ⟨rfl, HN.out⟩), rfl⟩
def cntB (l : List Int) (j : Nat) (p : Nat) : Bool := (List.range j).any (fun m => decide (l.getD m 0 = (p : Int)))
def cntV (l : List Int) (j : Nat) (p : Nat) : Value := .int .i64 (if cntB l j p then 1 else 0)
theorem cnt_yes {l : List Int} {j p : Nat} (h : cntB l j p = true) : ∃ m, m < j ∧ l.getD m 0 = (p : Int) := by
 simp [cntB] at h
 obtain ⟨m, h1, h2⟩ := h
 exact ⟨m, h1, by simpa [List.getD] using h2⟩
theorem cnt_no {l : List Int} {j p : Nat} (h : cntB l j p = false) : ∀ m, m < j → l.getD m 0 ≠ (p : Int) := fun m hm e => by
 have : cntB l j p = true := List.any_eq_true.2 ⟨m, List.mem_range.2 hm, by simpa using e⟩
 rw [h] at this
 cases this
theorem cnt_succ (l : List Int) (j p : Nat) : cntB l (j + 1) p = (cntB l j p || decide (l.getD j 0 = (p : Int))) := by
 unfold cntB
 rw [List.range_succ, List.any_append]
 simp
theorem nodT_succ {l : List Int} {j : Nat} (h : NodT l j) (h1 : 0 ≤ l.getD j 0 ∧ l.getD j 0 < 16) (h2 : ∀ m, m < j → l.getD m 0 ≠ l.getD j 0) : NodT l (j + 1) := fun i hi => by
 by_cases e : i = j
 ·subst e; exact ⟨h1, h2⟩
 ·exact h i (by omega)
def zArr : List Value := List.replicate 16 (.int .i64 0)
set_option maxHeartbeats 4000000 in
theorem areNodes_any {ao : Option Addr} {cp : Nat} {l : List Int} (hr : RdI w ao l) (hn : l.length ≤ 1048576) : Calls Try.prog 37 #[.slice ao l.length cp] w fun e w' => ∃ r, e = .returned (.bool r) ∧ (r = true ↔ NodT l l.length) ∧ Below w.heap.size w w' := by
 have HR : Hid (RdI w ao l) := hr
 have HWg : Hid (∀ v lo hi w', Calls Try.prog 29 #[.int .i64 v, .int .i64 lo, .int .i64 hi] w' fun e w2 => e = .returned (.bool (inR lo hi v)) ∧ w' = w2) := fun v lo hi w' => (within_any _ _ _).mono fun _ _ h => ⟨h.1, h.2.symm⟩
 generalize hL : l.length = L at *
 have HLe : Hid (l.length = L) := hL
 clear hr hL
 go_enter Try.func37, Try.ntmps37
 go_wp2_with (first | (refine wl_allocZ rfl 121 rfl (Z := zArr.toArray) (by kernel_rfl) ?_; intro Y2 k2 b2 s2; have K2 : Hid (Fb Y2 w.heap.size 121 16 (cntV l 0)) := ⟨_, k2, rfl, fun i hi => by rw [List.getElem?_toArray]; unfold zArr; rw [List.getElem?_replicate, if_pos hi]; rfl⟩; have BB2 : Hid (Below w.heap.size w Y2) := b2; clear k2 b2 s2) | fail)
 generalize hkb : w.heap.size = kb at K2
 have Hkb : Hid (w.heap.size = kb) := hkb
 try rw [hkb]
 clear hkb
 go_loopw [8] (fun i wr => ∃ j : Nat, j ≤ L ∧ i = .int .i64 (j : Int) ∧ NodT l j ∧ Fb wr kb 121 16 (cntV l j) ∧ Below w.heap.size w wr) (fun i _ => L - (intOf i).toNat)
 case atStart => exact ⟨0, Nat.zero_le _, rfl, fun m hm => by omega, K2.out, BB2.out⟩
 case round =>
  obtain ⟨j, hj, rfl, hno, hf, hb⟩ := hrel
  have HN : Hid (NodT l j) := hno
  have HF : Hid (Fb wr kb 121 16 (cntV l j)) := hf
  have HB : Hid (Below w.heap.size w wr) := hb
  clear hno hf hb K2 BB2
  have j0 : (0 : Int) ≤ (j : Int) := Int.natCast_nonneg _
  by_cases hlt : j < L
  ·have j1 : (j : Int) < (L : Int) := by omega
   obtain ⟨b, off, rfl, hc⟩ := (HR.out.still HB.out).at (i := j) (by rw [HLe.out]; exact hlt)
   have Hbad : Hid (¬ (0 ≤ l.getD j 0 ∧ l.getD j 0 < 16) → ¬ NodT l L) := fun h k => h (k j hlt).1
   have Hdup : Hid ((∃ m, m < j ∧ l.getD m 0 = l.getD j 0) → ¬ NodT l L) := fun ⟨m, h1, h2⟩ k => (k j hlt).2 m h1 h2
   have Hgo : Hid (∀ kk : Nat, kk < 16 → l.getD j 0 = (kk : Int) → cntB l j kk = false → NodT l (j + 1)) := fun kk h1 h2 h3 => nodT_succ HN.out (by omega) (fun m hm => by rw [h2]; exact cnt_no h3 m hm)
   have Hcs : Hid (∀ p, cntB l (j + 1) p = (cntB l j p || decide (l.getD j 0 = (p : Int)))) := fun p => cnt_succ l j p
   have Hcy : Hid (∀ kk : Nat, l.getD j 0 = (kk : Int) → cntB l j kk = true → ∃ m, m < j ∧ l.getD m 0 = l.getD j 0) := fun kk h1 h2 => by rw [h1]; exact cnt_yes h2
   generalize l.getD j 0 = y at *
   cases h1 : inR 0 15 y with
   | false =>
    have H1 : Hid (inR 0 15 y = false) := h1
    have HNn : Hid (¬ NodT l L) := Hbad.out (fun hh => by simp [inR] at h1; omega)
    clear h1
    go_wp2_with (first | (go_at_call 29; refine (HWg.out _ _ _ _).mono ?_; rintro e w2 ⟨rfl, rfl⟩; rw [H1.out]) | fail)
    go_ret
    exact ⟨false, rfl, by simpa using HNn.out, HB.out⟩
   | true =>
    have H1 : Hid (inR 0 15 y = true) := h1
    have hy : 0 ≤ y ∧ y ≤ 15 := by simp [inR] at h1; omega
    obtain ⟨kk, rfl⟩ : ∃ kk : Nat, y = (kk : Int) := ⟨y.toNat, by omega⟩
    have k0 : (0 : Int) ≤ (kk : Int) := Int.natCast_nonneg _
    have k1 : (kk : Int) < 16 := by omega
    have hk16 : kk < 16 := by omega
    clear h1 hy
    have cq := HF.out.cell kk hk16
    have zq := HF.out.fz kk
    unfold cntV at cq
    cases hc2 : cntB l j kk with
    | true =>
     rw [hc2] at cq
     have HNn : Hid (¬ NodT l L) := Hdup.out (Hcy.out kk rfl hc2)
     clear hc2
     simp only [if_true] at cq
     go_wp2_with (first | (go_at_call 29; refine (HWg.out _ _ _ _).mono ?_; rintro e w2 ⟨rfl, rfl⟩; rw [H1.out]) | fail)
     go_ret
     exact ⟨false, rfl, by simpa using HNn.out, HB.out⟩
    | false =>
     rw [hc2] at cq
     have HNx : Hid (NodT l (j + 1)) := Hgo.out kk hk16 rfl hc2
     simp only [if_neg (show ¬ (false = true) by simp)] at cq
     have HF2 : Hid (Fb (wr.setCell ⟨kb, kk, none⟩ (.int .i64 1)) kb 121 16 (cntV l (j + 1))) := (HF.out.set kk (.int .i64 1)).congr (fun p hp => by
      unfold cntV
      rw [Hcs.out p]
      by_cases e : p = kk
      ·subst e; simp
      ·rw [if_neg e]
       have : decide ((kk : Int) = (p : Int)) = false := by simp; omega
       rw [this, Bool.or_false])
     have HB2 : Hid (Below w.heap.size w (wr.setCell ⟨kb, kk, none⟩ (.int .i64 1))) := bset HB.out (by rw [Hkb.out]; exact Nat.le_refl _) kk _
     clear hc2
     go_wp2_with (first | (go_at_call 29; refine (HWg.out _ _ _ _).mono ?_; rintro e w2 ⟨rfl, rfl⟩; rw [H1.out]) | fail)
     exact ⟨⟨j + 1, by omega, by go_num, HNx.out, HF2.out, HB2.out⟩, by simp [intOf]; omega⟩
  ·obtain rfl : j = L := by omega
   go_wp2
   go_ret
   exact ⟨true, rfl, by simpa using HN.out, HB.out⟩
set_option maxHeartbeats 2000000 in
theorem du1_any {a1 a2 a3 : Option Addr} {c1 c2 c3 : Nat} {f1 f2 f3 : List Fl} (s : Int × Int) (hs0 : 0 ≤ s.1) (r1 : RdFs w a1 f1) (n1 : f1.length ≤ 1000000000000000000) (u1 : ∀ i, i < f1.length → s.1 < (f1.getD i fl0).c.hv.length) (kb1 hb1 : Nat) (h1 : w.heap[hb1]? = some (.cells #[.slice a1 f1.length c1] 22 (0, 0))) (g1 : w.heap[kb1]? = some (.cells #[.func (.func 61) #[] #[.pointer (some ⟨hb1, 0, none⟩)]] 83 (0, 0))) (r2 : RdFs w a2 f2) (n2 : f2.length ≤ 1000000000000000000) (u2 : ∀ i, i < f2.length → s.1 < (f2.getD i fl0).c.hv.length) (kb2 hb2 : Nat) (h2 : w.heap[hb2]? = some (.cells #[.slice a2 f2.length c2] 22 (0, 0))) (g2 : w.heap[kb2]? = some (.cells #[.func (.func 61) #[] #[.pointer (some ⟨hb2, 0, none⟩)]] 83 (0, 0))) (r3 : RdFs w a3 f3) (n3 : f3.length ≤ 1000000000000000000) (u3 : ∀ i, i < f3.length → s.1 < (f3.getD i fl0).c.hv.length) (kb3 hb3 : Nat) (h3 : w.heap[hb3]? = some (.cells #[.slice a3 f3.length c3] 22 (0, 0))) (g3 : w.heap[kb3]? = some (.cells #[.func (.func 61) #[] #[.pointer (some ⟨hb3, 0, none⟩)]] 83 (0, 0))) : Calls Try.prog 38 #[.agg (slotV s).toArray, .pointer (some ⟨kb1, 0, none⟩), .pointer (some ⟨kb2, 0, none⟩), .pointer (some ⟨kb3, 0, none⟩)] w fun e w' => e = .returned (.bool (hasA (cos f1) s && !hasA (cos f2) s && !hasA (cos f3) s)) ∧ Below w.heap.size w w' := by
 obtain ⟨s1, x⟩ := s
 obtain ⟨k, rfl⟩ : ∃ k : Nat, s1 = (k : Int) := ⟨s1.toNat, by simp at hs0; omega⟩
 generalize hW1 : w.alloc (.cells (slotV ((k : Int), x)).toArray 76) = W1
 have b1 : Below w.heap.size w W1 := hW1 ▸ balloc (Below.refl _ _)
 have kk1 : W1.heap[w.heap.size]? = some (.cells (slotV ((k : Int), x)).toArray 76 (0, 0)) := by rw [← hW1]; exact heap_alloc_new w _
 have HB : Hid (Below w.heap.size w W1) := b1
 have HK : Hid (W1.heap[w.heap.size]? = some (.cells (slotV ((k : Int), x)).toArray 76 (0, 0))) := kk1
 have HC1 : Hid (∀ X, Below W1.heap.size W1 X → Calls Try.prog 61 #[.agg (slotV ((k : Int), x)).toArray, .pointer (some ⟨hb1, 0, none⟩)] X fun e w' => e = .returned (.bool (hasA (cos f1) ((k : Int), x))) ∧ Below X.heap.size X w') := fun X hX => held_any (cp := c1) (r1.still (bstep b1 hX)) n1 k x (fun i hi => by have := u1 i hi; dsimp only at this; omega) hb1 (blk_on (bstep b1 hX) h1)
 have HG1 : Hid (∀ X, Below W1.heap.size W1 X → X.cell? ⟨kb1, 0, none⟩ = some (.func (.func 61) #[] #[.pointer (some ⟨hb1, 0, none⟩)])) := fun X hX => blk_cell (blk_on (bstep b1 hX) g1) 0
 have HC2 : Hid (∀ X, Below W1.heap.size W1 X → Calls Try.prog 61 #[.agg (slotV ((k : Int), x)).toArray, .pointer (some ⟨hb2, 0, none⟩)] X fun e w' => e = .returned (.bool (hasA (cos f2) ((k : Int), x))) ∧ Below X.heap.size X w') := fun X hX => held_any (cp := c2) (r2.still (bstep b1 hX)) n2 k x (fun i hi => by have := u2 i hi; dsimp only at this; omega) hb2 (blk_on (bstep b1 hX) h2)
 have HG2 : Hid (∀ X, Below W1.heap.size W1 X → X.cell? ⟨kb2, 0, none⟩ = some (.func (.func 61) #[] #[.pointer (some ⟨hb2, 0, none⟩)])) := fun X hX => blk_cell (blk_on (bstep b1 hX) g2) 0
 have HC3 : Hid (∀ X, Below W1.heap.size W1 X → Calls Try.prog 61 #[.agg (slotV ((k : Int), x)).toArray, .pointer (some ⟨hb3, 0, none⟩)] X fun e w' => e = .returned (.bool (hasA (cos f3) ((k : Int), x))) ∧ Below X.heap.size X w') := fun X hX => held_any (cp := c3) (r3.still (bstep b1 hX)) n3 k x (fun i hi => by have := u3 i hi; dsimp only at this; omega) hb3 (blk_on (bstep b1 hX) h3)
 have HG3 : Hid (∀ X, Below W1.heap.size W1 X → X.cell? ⟨kb3, 0, none⟩ = some (.func (.func 61) #[] #[.pointer (some ⟨hb3, 0, none⟩)])) := fun X hX => blk_cell (blk_on (bstep b1 hX) g3) 0
 have HRg : Hid (∀ X, Below W1.heap.size W1 X → X.rangeAt w.heap.size 0 (slotV ((k : Int), x))) := fun X hX => blk_range (blk_on hX kk1)
 have Hl2 : Hid ((slotV ((k : Int), x)).length = 2) := rfl
 generalize hA1 : hasA (cos f1) ((k : Int), x) = v1 at *
 generalize hA2 : hasA (cos f2) ((k : Int), x) = v2 at *
 generalize hA3 : hasA (cos f3) ((k : Int), x) = v3 at *
 generalize slotV ((k : Int), x) = pc at *
 clear r1 r2 r3 u1 u2 u3 h1 h2 h3 g1 g2 g3 b1 kk1 n1 n2 n3 hA1 hA2 hA3
 have q1 := HG1.out W1 (Below.refl _ _)
 have L1 := HRg.out W1 (Below.refl _ _)
 have HL1 : Hid (W1.rangeAt w.heap.size 0 pc) := L1
 clear L1
 cases v1 with
 | false =>
  go_enter Try.func38, Try.ntmps38
  go_wp2_with (first
   | (refine load_mid 76 (.tmp 4) HL1.out _ Try.underlying76 rfl (by rw [Hl2.out]; exact info_slot) rfl rfl rfl ?_)
   | (go_at_call 61; refine (HC1.out W1 (Below.refl _ _)).mono ?_; rintro e Y1 ⟨rfl, hy1⟩; have BY1 : Hid (Below W1.heap.size W1 Y1) := hy1; clear hy1; have q2 := HG2.out Y1 BY1.out; have HL2 : Hid (Y1.rangeAt w.heap.size 0 pc) := HRg.out Y1 BY1.out)
   | fail)
  go_ret
  exact ⟨rfl, bstep HB.out BY1.out⟩
 | true =>
  cases v2 with
  | true =>
   go_enter Try.func38, Try.ntmps38
   go_wp2_with (first
    | (refine load_mid 76 (.tmp 4) HL1.out _ Try.underlying76 rfl (by rw [Hl2.out]; exact info_slot) rfl rfl rfl ?_)
    | (go_at_call 61; refine (HC1.out W1 (Below.refl _ _)).mono ?_; rintro e Y1 ⟨rfl, hy1⟩; have BY1 : Hid (Below W1.heap.size W1 Y1) := hy1; clear hy1; have q2 := HG2.out Y1 BY1.out; have HL2 : Hid (Y1.rangeAt w.heap.size 0 pc) := HRg.out Y1 BY1.out)
    | (refine load_mid 76 (.tmp 4) HL2.out _ Try.underlying76 rfl (by rw [Hl2.out]; exact info_slot) rfl rfl rfl ?_)
    | (go_at_call 61; refine (HC2.out Y1 BY1.out).mono ?_; rintro e Y2 ⟨rfl, hy2⟩; have BY2 : Hid (Below W1.heap.size W1 Y2) := bstep BY1.out hy2; clear hy2 q2; have q3 := HG3.out Y2 BY2.out; have HL3 : Hid (Y2.rangeAt w.heap.size 0 pc) := HRg.out Y2 BY2.out)
    | fail)
   go_ret
   exact ⟨rfl, bstep HB.out BY2.out⟩
  | false =>
   cases v3 with
   | true =>
    go_enter Try.func38, Try.ntmps38
    go_wp2_with (first
     | (refine load_mid 76 (.tmp 4) HL1.out _ Try.underlying76 rfl (by rw [Hl2.out]; exact info_slot) rfl rfl rfl ?_)
     | (go_at_call 61; refine (HC1.out W1 (Below.refl _ _)).mono ?_; rintro e Y1 ⟨rfl, hy1⟩; have BY1 : Hid (Below W1.heap.size W1 Y1) := hy1; clear hy1; have q2 := HG2.out Y1 BY1.out; have HL2 : Hid (Y1.rangeAt w.heap.size 0 pc) := HRg.out Y1 BY1.out)
     | (refine load_mid 76 (.tmp 4) HL2.out _ Try.underlying76 rfl (by rw [Hl2.out]; exact info_slot) rfl rfl rfl ?_)
     | (go_at_call 61; refine (HC2.out Y1 BY1.out).mono ?_; rintro e Y2 ⟨rfl, hy2⟩; have BY2 : Hid (Below W1.heap.size W1 Y2) := bstep BY1.out hy2; clear hy2 q2; have q3 := HG3.out Y2 BY2.out; have HL3 : Hid (Y2.rangeAt w.heap.size 0 pc) := HRg.out Y2 BY2.out)
     | (refine load_mid 76 (.tmp 4) HL3.out _ Try.underlying76 rfl (by rw [Hl2.out]; exact info_slot) rfl rfl rfl ?_)
     | (go_at_call 61; refine (HC3.out Y2 BY2.out).mono ?_; rintro e Y3 ⟨rfl, hy3⟩; have BY3 : Hid (Below W1.heap.size W1 Y3) := bstep BY2.out hy3; clear hy3 q3)
     | fail)
    go_ret
    exact ⟨rfl, bstep HB.out BY3.out⟩
   | false =>
    go_enter Try.func38, Try.ntmps38
    go_wp2_with (first
     | (refine load_mid 76 (.tmp 4) HL1.out _ Try.underlying76 rfl (by rw [Hl2.out]; exact info_slot) rfl rfl rfl ?_)
     | (go_at_call 61; refine (HC1.out W1 (Below.refl _ _)).mono ?_; rintro e Y1 ⟨rfl, hy1⟩; have BY1 : Hid (Below W1.heap.size W1 Y1) := hy1; clear hy1; have q2 := HG2.out Y1 BY1.out; have HL2 : Hid (Y1.rangeAt w.heap.size 0 pc) := HRg.out Y1 BY1.out)
     | (refine load_mid 76 (.tmp 4) HL2.out _ Try.underlying76 rfl (by rw [Hl2.out]; exact info_slot) rfl rfl rfl ?_)
     | (go_at_call 61; refine (HC2.out Y1 BY1.out).mono ?_; rintro e Y2 ⟨rfl, hy2⟩; have BY2 : Hid (Below W1.heap.size W1 Y2) := bstep BY1.out hy2; clear hy2 q2; have q3 := HG3.out Y2 BY2.out; have HL3 : Hid (Y2.rangeAt w.heap.size 0 pc) := HRg.out Y2 BY2.out)
     | (refine load_mid 76 (.tmp 4) HL3.out _ Try.underlying76 rfl (by rw [Hl2.out]; exact info_slot) rfl rfl rfl ?_)
     | (go_at_call 61; refine (HC3.out Y2 BY2.out).mono ?_; rintro e Y3 ⟨rfl, hy3⟩; have BY3 : Hid (Below W1.heap.size W1 Y3) := bstep BY2.out hy3; clear hy3 q3)
     | fail)
    go_ret
    exact ⟨rfl, bstep HB.out BY3.out⟩
set_option maxHeartbeats 4000000 in
theorem pickedD_any {ao : Option Addr} {cp : Nat} {ss : List (Int × Int)} (hr : RdS w ao ss) (hn : ss.length ≤ 100000) (p : Int × Int → Bool) (kb1 kb2 kb3 : Nat) (hp : ∀ w', Below w.heap.size w w' → ∀ i, i < ss.length → Calls Try.prog 38 #[.agg (slotV (ss.getD i z2)).toArray, .pointer (some ⟨kb1, 0, none⟩), .pointer (some ⟨kb2, 0, none⟩), .pointer (some ⟨kb3, 0, none⟩)] w' fun e w2 => e = .returned (.bool (p (ss.getD i z2))) ∧ Below w'.heap.size w' w2) : Calls Try.prog 33 #[.slice ao ss.length cp, .func (.func 38) #[] #[.pointer (some ⟨kb1, 0, none⟩), .pointer (some ⟨kb2, 0, none⟩), .pointer (some ⟨kb3, 0, none⟩)]] w fun e w' => ∃ a c, e = .returned (.slice a (pick p ss).length c) ∧ w'.ownsRow w.heap.size 76 2 (.slice a (pick p ss).length c) (pick p ss).length (slCells (pick p ss)) ∧ Below w.heap.size w w' := by
 have HR : Hid (RdS w ao ss) := hr
 have HP : Hid (∀ w', Below w.heap.size w w' → ∀ i, i < ss.length → Calls Try.prog 38 #[.agg (slotV (ss.getD i z2)).toArray, .pointer (some ⟨kb1, 0, none⟩), .pointer (some ⟨kb2, 0, none⟩), .pointer (some ⟨kb3, 0, none⟩)] w' fun e w2 => e = .returned (.bool (p (ss.getD i z2))) ∧ Below w'.heap.size w' w2) := hp
 have HT : Hid (∀ c, c < ss.length → (ss.take (c + 1)).filter p = (ss.take c).filter p ++ (if p (ss.getD c z2) then [ss.getD c z2] else [])) := fun c hc => take_fil hc
 have HF : Hid (∀ c, ((ss.take c).filter p).length ≤ c) := fun c => Nat.le_trans (List.length_filter_le _ _) (by simp; omega)
 generalize hL : ss.length = L at *
 have HLe : Hid (ss.length = L) := hL
 have HPk : Hid ((ss.take L).filter p = ss.filter p) := (show (ss.take L).filter p = ss.filter p from by rw [← hL, List.take_length])
 obtain ⟨si, shi, shz0, shz1, shz2⟩ := slot_info
 clear hr hp hL
 go_enter Try.func33, Try.ntmps33
 go_wp2
 go_loopw [5, 10] (fun ov i wr => ∃ c : Nat, c ≤ L ∧ i = .int .i64 c ∧ wr.ownsRow w.heap.size 76 2 ov ((ss.take c).filter p).length (slCells ((ss.take c).filter p)) ∧ Below w.heap.size w wr) (fun _ i _ => L - (intOf i).toNat)
 case atStart => exact ⟨0, Nat.zero_le _, rfl, ⟨rfl, .inl ⟨rfl, rfl⟩⟩, Below.refl _ _⟩
 case round =>
  obtain ⟨c, hc, rfl, ho, hb⟩ := hrel
  have HO : Hid (wr.ownsRow w.heap.size 76 2 u5 ((ss.take c).filter p).length (slCells ((ss.take c).filter p))) := ho
  have HB : Hid (Below w.heap.size w wr) := hb
  clear ho hb
  by_cases hlt : c < L
  ·obtain ⟨b, off, rfl, hcc, _, _⟩ := (HR.out.still HB.out).at (i := c) (by rw [HLe.out]; exact hlt)
   have HC : Hid (wr.rangeAt b (off + c * 2) (slotV (ss.getD c z2))) := hcc
   have HPc : Hid (∀ w', Below w.heap.size w w' → Calls Try.prog 38 #[.agg (slotV (ss.getD c z2)).toArray, .pointer (some ⟨kb1, 0, none⟩), .pointer (some ⟨kb2, 0, none⟩), .pointer (some ⟨kb3, 0, none⟩)] w' fun e w2 => e = .returned (.bool (p (ss.getD c z2))) ∧ Below w'.heap.size w' w2) := fun w' h => HP.out w' h c hlt
   have HTc := HT.out c hlt
   have hfl := HF.out c
   have i1 : (0 : Int) ≤ (c : Int) := Int.natCast_nonneg _
   have i2 : (c : Int) < (L : Int) := by omega
   generalize ss.getD c z2 = x at *
   generalize hfi : (ss.take c).filter p = out at *
   have Hfi : Hid ((ss.take (c + 1)).filter p = out ++ (if p x then [x] else [])) := HTc
   have Hl2 : Hid ((slotV x).length = 2) := rfl
   clear hcc HTc hfi
   go_wp2_with (first
    | (refine load_mid 76 (.tmp 12) HC.out _ Try.underlying76 rfl (by rw [Hl2.out]; exact info_slot) rfl rfl rfl ?_)
    | (refine wl_st 76 (.tmp 7) (.tmp 13) rfl ?_)
    | fail)
   refine wl_store 76 (.tmp 7) (.tmp 13) (L := slotV x) (new_there _ _ _ rfl) info_slot (slotV_one _) rfl rfl rfl (by kernel_rfl) ?_
   simp only [Act.put,gA9,gZ9,gC9,sA9,sZ9,sC9]
   refine ⟨?_⟩
   obtain ⟨hn1, hn2⟩ := newvar wr 76 #[.int .i64 0, .int .i64 0] (slotV x) rfl
   have HOn : Hid (((wr.alloc (.cells #[.int .i64 0, .int .i64 0] 76)).setCells wr.heap.size 0 (slotV x)).ownsRow w.heap.size 76 2 u5 out.length (slCells out)) := own_still HO.out hn1
   have HBn : Hid (Below w.heap.size w ((wr.alloc (.cells #[.int .i64 0, .int .i64 0] 76)).setCells wr.heap.size 0 (slotV x))) := bstep HB.out hn1
   have Hv7 : Hid (((wr.alloc (.cells #[.int .i64 0, .int .i64 0] 76)).setCells wr.heap.size 0 (slotV x)).heap[wr.heap.size]? = some (.cells (slotV x).toArray 76 (0, 0))) := hn2
   have Hn1 : Hid (Below wr.heap.size wr ((wr.alloc (.cells #[.int .i64 0, .int .i64 0] 76)).setCells wr.heap.size 0 (slotV x))) := hn1
   clear hn1 hn2 HO HB
   generalize (wr.alloc (.cells #[.int .i64 0, .int .i64 0] 76)).setCells wr.heap.size 0 (slotV x) = V at *
   generalize hvb : wr.heap.size = v7 at *
   have Hvbv7 : Hid (wr.heap.size = v7) := hvb
   clear hvb
   have HO := HOn
   clear HOn
   have HB := HBn
   clear HBn
   have HM := HPc.out V HB.out
   have R2 : Hid (V.rangeAt v7 0 (slotV x)) := blk_range Hv7.out
   clear HC
   cases hx : p x with
   | false =>
    rw [hx] at HM
    have Hfi2 : Hid ((ss.take (c + 1)).filter p = out) := (show (ss.take (c + 1)).filter p = out from by rw [Hfi.out, hx]; simp)
    clear hx
    go_wp2_with (first
     | (refine load_mid 76 (.tmp 7) R2.out _ Try.underlying76 rfl (by rw [Hl2.out]; exact info_slot) rfl rfl rfl ?_)
     | (go_at_call 38; refine HM.mono ?_; rintro e V2 ⟨rfl, hb2⟩)
     | fail)
    exact ⟨⟨c + 1, by omega, by go_num, by rw [Hfi2.out]; exact own_still HO.out hb2, bstep HB.out hb2⟩, by simp [intOf]; omega⟩
   | true =>
    rw [hx] at HM
    have Hfi2 : Hid ((ss.take (c + 1)).filter p = out ++ [x]) := (show (ss.take (c + 1)).filter p = out ++ [x] from by rw [Hfi.out, hx]; simp)
    clear hx
    go_wp2_with (first
     | (refine load_mid 76 (.tmp 7) R2.out _ Try.underlying76 rfl (by rw [Hl2.out]; exact info_slot) rfl rfl rfl ?_)
     | (go_at_call 38; refine HM.mono ?_; rintro e V2 ⟨rfl, hb2⟩; have HO2 : Hid (V2.ownsRow w.heap.size 76 2 u5 out.length (slCells out)) := own_still HO.out hb2; have HB2 : Hid (Below w.heap.size w V2) := bstep HB.out hb2; have R3 : Hid (V2.rangeAt v7 0 [.int .i64 x.1, .int .i64 x.2]) := blk_range ((hb2.block _ (lt_heap Hv7.out)).trans Hv7.out); have hVs : w.heap.size ≤ V2.heap.size := HB2.out.size; clear hb2 HM R2 HO HB HPc)
     | (refine load_mid 76 (.tmp 7) R3.out _ Try.underlying76 rfl info_slot rfl rfl rfl ?_)
     | (at_builtin; refine wpList_append_lies _ rfl _ _ 25 rfl w.heap.size 76 si (.agg #[.int .i64 0, .int .i64 0]) 2 16 Try.underlying25 shi shz0 shz1 shz2 rfl (by omega) u5 out.length (slCells out) rfl (World.ownsRow.alloc HO2.out _) _ 1 1 [.int .i64 x.1, .int .i64 x.2] rfl rfl (World.news_of_block (heap_alloc_new _ _)) (slotV_one x) (by omega) (by unfold maxLen; omega) (by omega) (by simp; omega) _ rfl ?_; intro g3 cap3 w3 hown3 hgrow3 hat3 hlt3)
     | fail)
    have HO3 := World.ownsRow.alloc HO2.out
    refine ⟨⟨c + 1, by omega, by go_num, ?_, ?_⟩, by simp [intOf]; omega⟩
    ·rw [Hfi2.out, slCells_app, List.length_append]; exact hown3
    ·exact (balloc HB2.out).grown hgrow3 (balloc HB2.out).size (fun k hk => (row_cells HO2.out hk).1)
  ·obtain rfl : L = c := by omega
   have ho := HO.out
   have hfl := HF.out L
   rw [HPk.out] at ho hfl
   have HE : Hid (pick p ss = srt (ss.filter p)) := rfl
   have Hpl : Hid ((pick p ss).length = (ss.filter p).length) := srt_len _
   generalize hfi : ss.filter p = out at *
   have Ho : Hid (wr.ownsRow w.heap.size 76 2 u5 out.length (slCells out)) := ho
   clear hfi HO ho
   rcases own_two Ho.out with ⟨rfl, h0⟩ | ⟨g, cc, rfl, hg⟩
   ·have HSN := sort_none (w := wr)
    have Hout : Hid (pick p ss = []) := (show pick p ss = [] from by rw [HE.out, List.length_eq_zero_iff.1 h0, srt_nil])
    clear h0
    go_wp2_with (first
     | (go_at_call 64; refine HSN.mono ?_; rintro e V2 ⟨rfl, rfl⟩)
     | fail)
    go_ret
    exact ⟨none, 0, by rw [Hout.out]; rfl, by rw [Hout.out]; exact ⟨rfl, .inl ⟨rfl, rfl⟩⟩, HB.out⟩
   ·have HSA := sort_any Ho.out rfl (by omega)
    go_wp2_with (first
     | (go_at_call 64; refine HSA.mono ?_; rintro e V2 ⟨rfl, ho2, hk2⟩)
     | fail)
    go_ret
    refine ⟨some ⟨g, 0, none⟩, cc, by rw [Hpl.out]; rfl, ?_, HB.out.trans (hk2.below HB.out.size (fun k hk e => by omega))⟩
    rw [Hpl.out, HE.out]
    exact ho2
end
end Go.Proofs.Ytobaooebjgoaiaa.Fm
