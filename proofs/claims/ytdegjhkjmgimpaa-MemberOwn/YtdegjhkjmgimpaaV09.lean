import Derived.Test.YtdegjhkjmgimpaaV08
namespace Go.Proofs.Ytdegjhkjmgimpaa.Mb
open Go.RowKit
set_option linter.unusedVariables false
set_option maxRecDepth 100000
set_option linter.unusedSimpArgs false
section
variable {A A' : Ag} {w w' W : World} {B : Nat} {T : Int}
def Ag.estE (A : Ag) (xs : List Int) : Int := if okL xs A.n = false ∨ (pad xs).getD A.self 0 ≠ A.own.set.getD A.self 0 then 60 else if pad xs = A.own.set then 0 else A.begE (pad xs)
def Ag.estA (A : Ag) (xs : List Int) : Ag := if okL xs A.n = false ∨ (pad xs).getD A.self 0 ≠ A.own.set.getD A.self 0 then A else if pad xs = A.own.set then A else A.begA (pad xs)
def Ag.estB (A : Ag) (xs : List Int) : Bool := if okL xs A.n = false ∨ (pad xs).getD A.self 0 ≠ A.own.set.getD A.self 0 then false else if pad xs = A.own.set then false else A.begE (pad xs) == 0
set_option maxHeartbeats 4000000 in
theorem est_any (h : A.Ok w B T) (hT : 4611686018427387903 ≤ T) {ao : Option Addr} {n c : Nat} {xs : List Int} (hr : RdI w ao n xs) (hn : n ≤ 17592186044416) : Calls Try.prog 10 #[.pointer (some ⟨A.b, 0, none⟩), .slice ao n c] w fun e w' => e = .returned (.tuple #[.bool (A.estB xs), .int .i64 (A.estE xs)]) ∧ (A.estA xs).Ok w' B T ∧ Kept w w' (fun j => j = A.b) := by
  have c0 := h.c0
  have h16 := h.n16
  have HA : Hid (A.Ok w B T) := h
  have Lo : Hid A.own.L := h.ol
  have HRo : Hid (Calls Try.prog 20 #[.slice ao n c, .int .i64 A.n] w fun e w' => ∃ r, e = .returned (.tuple #[.agg (ints r).toArray, .bool (okL xs A.n)]) ∧ r.length = 16 ∧ (okL xs A.n = true → r = pad xs) ∧ Below w.heap.size w w') := rowOf_any hr A.n h16.2.1 hn
  clear h hr
  go_enter Try.func10, Try.ntmps10
  go_wp2_with (first
    | (refine store_mid 61 (.tmp 6) (.tmp 16) (HK3.out.there 0 r.length (by rw [hr16]; exact Nat.le_refl _)) (by rw [hr16]; exact info_row) rfl rfl rfl rfl ?_; have HK4 : Hid (Rw (W3.setCells W2.heap.size 0 (ints r)) W2.heap.size 61 r) := HK3.out.whole (by rw [hr16]; rfl); have HB4 : Hid (Below w.heap.size w (W3.setCells W2.heap.size 0 (ints r))) := bsets HB2.out.size _ _ HB3.out; generalize W3.setCells W2.heap.size 0 (ints r) = V at *; clear HK3 HB3)
    | (go_at_call 20; refine HRo.out.mono ?_; rintro e W2 ⟨r, rfl, hr16, hok, b2⟩; generalize hW3 : W2.alloc (.cells #[.int .i64 0, .int .i64 0, .int .i64 0, .int .i64 0, .int .i64 0, .int .i64 0, .int .i64 0, .int .i64 0, .int .i64 0, .int .i64 0, .int .i64 0, .int .i64 0, .int .i64 0, .int .i64 0, .int .i64 0, .int .i64 0] 61) = W3; have HB2 : Hid (Below w.heap.size w W2) := b2; have HK3 : Hid (Rw W3 W2.heap.size 61 zs) := (by show Rw _ _ _ _; unfold Rw; rw [← hW3]; exact heap_alloc_new W2 _); have HB3 : Hid (Below w.heap.size w W3) := (by show Below _ _ _; rw [← hW3]; exact balloc b2); clear b2)
    | fail)
  have hAV := HA.out.still HB4.out
  have HAV : Hid (A.Ok V B T) := hAV
  have c1 := hAV.c1
  have c2 : V.cell? ⟨W2.heap.size, A.self, none⟩ = some (.int .i64 (r.getD A.self 0)) := HK4.out.cell (by rw [hr16]; omega)
  have c3 : V.cell? ⟨A.b, 2 + A.self, none⟩ = some (.int .i64 (A.own.set.getD A.self 0)) := by rw [hAV.own_c A.self (by omega), Lo.out.at_set A.self (by omega)]
  have i3 : (A.self : Int) < 16 := by omega
  cases hk : okL xs A.n with
  | false =>
    have HF : Hid (A.estE xs = 60 ∧ A.estA xs = A ∧ A.estB xs = false) := by
      show _ ∧ _ ∧ _
      unfold Ag.estE Ag.estA Ag.estB
      rw [if_pos (.inl hk), if_pos (.inl hk), if_pos (.inl hk)]
      exact ⟨rfl, rfl, rfl⟩
    generalize r.getD A.self 0 = xr at *
    generalize A.own.set.getD A.self 0 = xo at *
    refine wp_region_held_drew (S := (fun w' => w'.cell? ⟨A.b, 1, none⟩ = some (.int .i64 A.self) ∧ w'.cell? ⟨W2.heap.size, A.self, none⟩ = some (.int .i64 xr) ∧ w'.cell? ⟨A.b, 2 + A.self, none⟩ = some (.int .i64 xo))) (by kernel_rfl) ⟨below_at (Below.refl _ _).drew c1, below_at (Below.refl _ _).drew c2, below_at (Below.refl _ _).drew c3⟩ (fun hHeld => ?_)
    simp only [Act.put, List.size_toArray, List.length_cons, List.length_nil, Nat.zero_add]
    refine wpAnyH_take (i := 0) (v := .bool false) rfl (by kernel_rfl) (by kernel_rfl) (by kernel_rfl) (fun _ _ _ h => h) (Or.inl ⟨by rfl, fun w' hS => by go_simp⟩) hHeld ?_
    simp only [Act.put, gA9, gZ9, gC9, sA9, sZ9, sC9]
    refine wpAnyH_take (i := 1) (v := .bool true) rfl (by kernel_rfl) (by kernel_rfl) (by kernel_rfl) (fun _ _ _ h => h) (Or.inl ⟨by rfl, fun w' hS => by go_simp⟩) hHeld ?_
    simp only [Act.put, gA9, gZ9, gC9, sA9, sZ9, sC9]
    refine wpAnyH_take (i := 2) (v := .bool true) rfl (by kernel_rfl) (by kernel_rfl) (by kernel_rfl) (fun _ _ _ h => h) (Or.inl ⟨by rfl, fun w' hS => by go_simp⟩) hHeld ?_
    simp only [Act.put, gA9, gZ9, gC9, sA9, sZ9, sC9]
    refine wpAnyH_take (i := 3) (v := undef) rfl (by kernel_rfl) (by kernel_rfl) (by kernel_rfl) (fun _ _ _ h => h) (Or.inr ⟨by rfl, rfl⟩) hHeld ?_
    simp only [Act.put, gA9, gZ9, gC9, sA9, sZ9, sC9]
    refine wpAnyH_take (i := 4) (v := undef) rfl (by kernel_rfl) (by kernel_rfl) (by kernel_rfl) (fun _ _ _ h => h) (Or.inr ⟨by rfl, rfl⟩) hHeld ?_
    simp only [Act.put, gA9, gZ9, gC9, sA9, sZ9, sC9]
    refine wpAnyH_take (i := 5) (v := undef) rfl (by kernel_rfl) (by kernel_rfl) (by kernel_rfl) (fun _ _ _ h => h) (Or.inr ⟨by rfl, rfl⟩) hHeld ?_
    simp only [Act.put, gA9, gZ9, gC9, sA9, sZ9, sC9]
    refine wpAnyH_take (i := 6) (v := undef) rfl (by kernel_rfl) (by kernel_rfl) (by kernel_rfl) (fun _ _ _ h => h) (Or.inr ⟨by rfl, rfl⟩) hHeld ?_
    simp only [Act.put, gA9, gZ9, gC9, sA9, sZ9, sC9]
    refine wpAnyH_take (i := 7) (v := undef) rfl (by kernel_rfl) (by kernel_rfl) (by kernel_rfl) (fun _ _ _ h => h) (Or.inr ⟨by rfl, rfl⟩) hHeld ?_
    simp only [Act.put, gA9, gZ9, gC9, sA9, sZ9, sC9]
    refine wpAnyH_take (i := 8) (v := undef) rfl (by kernel_rfl) (by kernel_rfl) (by kernel_rfl) (fun _ _ _ h => h) (Or.inr ⟨by rfl, rfl⟩) hHeld ?_
    simp only [Act.put, gA9, gZ9, gC9, sA9, sZ9, sC9]
    refine wpAnyH_take (i := 9) (v := undef) rfl (by kernel_rfl) (by kernel_rfl) (by kernel_rfl) (fun _ _ _ h => h) (Or.inr ⟨by rfl, rfl⟩) hHeld ?_
    simp only [Act.put, gA9, gZ9, gC9, sA9, sZ9, sC9]
    refine wpAnyH_take (i := 10) (v := undef) rfl (by kernel_rfl) (by kernel_rfl) (by kernel_rfl) (fun _ _ _ h => h) (Or.inr ⟨by rfl, rfl⟩) hHeld ?_
    simp only [Act.put, gA9, gZ9, gC9, sA9, sZ9, sC9]
    refine wpAnyH_take (i := 11) (v := undef) rfl (by kernel_rfl) (by kernel_rfl) (by kernel_rfl) (fun _ _ _ h => h) (Or.inr ⟨by rfl, rfl⟩) hHeld ?_
    simp only [Act.put, gA9, gZ9, gC9, sA9, sZ9, sC9]
    refine wpAnyH_take (i := 12) (v := undef) rfl (by kernel_rfl) (by kernel_rfl) (by kernel_rfl) (fun _ _ _ h => h) (Or.inr ⟨by rfl, rfl⟩) hHeld ?_
    simp only [Act.put, gA9, gZ9, gC9, sA9, sZ9, sC9]
    refine wpAnyH_take (i := 13) (v := undef) rfl (by kernel_rfl) (by kernel_rfl) (by kernel_rfl) (fun _ _ _ h => h) (Or.inr ⟨by rfl, rfl⟩) hHeld ?_
    simp only [Act.put, gA9, gZ9, gC9, sA9, sZ9, sC9]
    refine wpAnyH_take (i := 14) (v := undef) rfl (by kernel_rfl) (by kernel_rfl) (by kernel_rfl) (fun _ _ _ h => h) (Or.inr ⟨by rfl, rfl⟩) hHeld ?_
    simp only [Act.put, gA9, gZ9, gC9, sA9, sZ9, sC9]
    refine wpAnyH_take (i := 15) (v := undef) rfl (by kernel_rfl) (by kernel_rfl) (by kernel_rfl) (fun _ _ _ h => h) (Or.inr ⟨by rfl, rfl⟩) hHeld ?_
    simp only [Act.put, gA9, gZ9, gC9, sA9, sZ9, sC9]
    refine wpAnyH_take (i := 16) (v := undef) rfl (by kernel_rfl) (by kernel_rfl) (by kernel_rfl) (fun _ _ _ h => h) (Or.inr ⟨by rfl, rfl⟩) hHeld ?_
    simp only [Act.put, gA9, gZ9, gC9, sA9, sZ9, sC9]
    refine wpAnyH_take (i := 17) (v := undef) rfl (by kernel_rfl) (by kernel_rfl) (by kernel_rfl) (fun _ _ _ h => h) (Or.inr ⟨by rfl, rfl⟩) hHeld ?_
    simp only [Act.put, gA9, gZ9, gC9, sA9, sZ9, sC9]
    refine wpAnyH_take (i := 18) (v := undef) rfl (by kernel_rfl) (by kernel_rfl) (by kernel_rfl) (fun _ _ _ h => h) (Or.inr ⟨by rfl, rfl⟩) hHeld ?_
    simp only [Act.put, gA9, gZ9, gC9, sA9, sZ9, sC9]
    refine wpAnyH_take (i := 19) (v := undef) rfl (by kernel_rfl) (by kernel_rfl) (by kernel_rfl) (fun _ _ _ h => h) (Or.inr ⟨by rfl, rfl⟩) hHeld ?_
    simp only [Act.put, gA9, gZ9, gC9, sA9, sZ9, sC9]
    refine wpAnyH_take (i := 20) (v := .bool true) rfl (by kernel_rfl) (by kernel_rfl) (by kernel_rfl) (fun _ _ _ h => h) (Or.inl ⟨by rfl, fun w' hS => by go_simp⟩) hHeld ?_
    simp only [Act.put, gA9, gZ9, gC9, sA9, sZ9, sC9]
    refine wpAnyH_done (by kernel_rfl) ?_ _
    clear hHeld
    go_wp2
    (try simp only [Exit.inBlock, Exit.then]); refine bodyPost_ret (results_tmp2 rfl _ _ _) rfl ?_
    rw [HF.out.1, HF.out.2.1, HF.out.2.2]
    exact ⟨rfl, HAV.out.still (Below.refl _ _).drew, Kept.ofBelow (bstep HB4.out (Below.refl _ _).drew) _⟩
  | true =>
    have Hrp : Hid (r = pad xs) := hok hk
    clear hok
    by_cases hx : r.getD A.self 0 = A.own.set.getD A.self 0
    · have hno : ¬ (okL xs A.n = false ∨ (pad xs).getD A.self 0 ≠ A.own.set.getD A.self 0) := fun hh => hh.elim (fun e => by rw [hk] at e; cases e) (fun e => e (Hrp.out ▸ hx))
      have HF0 : Hid (pad xs = A.own.set → A.estE xs = 0 ∧ A.estA xs = A ∧ A.estB xs = false) := fun hq => by
        unfold Ag.estE Ag.estA Ag.estB
        rw [if_neg hno, if_neg hno, if_neg hno, if_pos hq, if_pos hq, if_pos hq]
        exact ⟨rfl, rfl, rfl⟩
      have HF1 : Hid (¬ pad xs = A.own.set → A.estE xs = A.begE (pad xs) ∧ A.estA xs = A.begA (pad xs) ∧ A.estB xs = (A.begE (pad xs) == 0)) := fun hq => by
        unfold Ag.estE Ag.estA Ag.estB
        rw [if_neg hno, if_neg hno, if_neg hno, if_neg hq, if_neg hq, if_neg hq]
        exact ⟨rfl, rfl, rfl⟩
      clear hno
      have hne : (r.getD A.self 0 != A.own.set.getD A.self 0) = false := by rw [hx]; simp
      clear hx
      generalize r.getD A.self 0 = xr at *
      generalize A.own.set.getD A.self 0 = xo at *
      refine wp_region_held_drew (S := (fun w' => w'.cell? ⟨A.b, 1, none⟩ = some (.int .i64 A.self) ∧ w'.cell? ⟨W2.heap.size, A.self, none⟩ = some (.int .i64 xr) ∧ w'.cell? ⟨A.b, 2 + A.self, none⟩ = some (.int .i64 xo))) (by kernel_rfl) ⟨below_at (Below.refl _ _).drew c1, below_at (Below.refl _ _).drew c2, below_at (Below.refl _ _).drew c3⟩ (fun hHeld => ?_)
      simp only [Act.put, List.size_toArray, List.length_cons, List.length_nil, Nat.zero_add]
      refine wpAnyH_take (i := 0) (v := .bool true) rfl (by kernel_rfl) (by kernel_rfl) (by kernel_rfl) (fun _ _ _ h => h) (Or.inl ⟨by rfl, fun w' hS => by go_simp⟩) hHeld ?_
      simp only [Act.put, gA9, gZ9, gC9, sA9, sZ9, sC9]
      refine wpAnyH_take (i := 1) (v := .bool false) rfl (by kernel_rfl) (by kernel_rfl) (by kernel_rfl) (fun _ _ _ h => h) (Or.inl ⟨by rfl, fun w' hS => by go_simp⟩) hHeld ?_
      simp only [Act.put, gA9, gZ9, gC9, sA9, sZ9, sC9]
      refine wpAnyH_take (i := 2) (v := .bool false) rfl (by kernel_rfl) (by kernel_rfl) (by kernel_rfl) (fun _ _ _ h => h) (Or.inl ⟨by rfl, fun w' hS => by go_simp⟩) hHeld ?_
      simp only [Act.put, gA9, gZ9, gC9, sA9, sZ9, sC9]
      refine wpAnyH_take (i := 3) (v := .pointer (some ⟨A.b, 0, none⟩)) rfl (by kernel_rfl) (by kernel_rfl) (by kernel_rfl) (fun _ _ _ h => h) (Or.inl ⟨by rfl, fun w' hS => by go_simp⟩) hHeld ?_
      simp only [Act.put, gA9, gZ9, gC9, sA9, sZ9, sC9]
      refine wpAnyH_take (i := 4) (v := .pointer (some ⟨A.b, 0, none⟩)) rfl (by kernel_rfl) (by kernel_rfl) (by kernel_rfl) (fun _ _ _ h => h) (Or.inl ⟨by rfl, fun w' hS => by go_simp⟩) hHeld ?_
      simp only [Act.put, gA9, gZ9, gC9, sA9, sZ9, sC9]
      refine wpAnyH_take (i := 5) (v := .pointer (some ⟨A.b, 1, none⟩)) rfl (by kernel_rfl) (by kernel_rfl) (by kernel_rfl) (fun _ _ _ h => h) (Or.inl ⟨by rfl, fun w' hS => by go_simp⟩) hHeld ?_
      simp only [Act.put, gA9, gZ9, gC9, sA9, sZ9, sC9]
      refine wpAnyH_take (i := 6) (v := .int .i64 A.self) rfl (by kernel_rfl) (by kernel_rfl) (by kernel_rfl) (fun _ _ _ h => h) (Or.inl ⟨by rfl, fun w' hS => by (obtain ⟨s0, s1, s2⟩ := hS; go_simp)⟩) hHeld ?_
      simp only [Act.put, gA9, gZ9, gC9, sA9, sZ9, sC9]
      refine wpAnyH_take (i := 7) (v := .pointer (some ⟨W2.heap.size, A.self, none⟩)) rfl (by kernel_rfl) (by kernel_rfl) (by kernel_rfl) (fun _ _ _ h => h) (Or.inl ⟨by rfl, fun w' hS => by (go_simp <;> (intro hh; omega))⟩) hHeld ?_
      simp only [Act.put, gA9, gZ9, gC9, sA9, sZ9, sC9]
      refine wpAnyH_take (i := 8) (v := .int .i64 xr) rfl (by kernel_rfl) (by kernel_rfl) (by kernel_rfl) (fun _ _ _ h => h) (Or.inl ⟨by rfl, fun w' hS => by (obtain ⟨s0, s1, s2⟩ := hS; go_simp)⟩) hHeld ?_
      simp only [Act.put, gA9, gZ9, gC9, sA9, sZ9, sC9]
      refine wpAnyH_take (i := 9) (v := .pointer (some ⟨A.b, 0, none⟩)) rfl (by kernel_rfl) (by kernel_rfl) (by kernel_rfl) (fun _ _ _ h => h) (Or.inl ⟨by rfl, fun w' hS => by go_simp⟩) hHeld ?_
      simp only [Act.put, gA9, gZ9, gC9, sA9, sZ9, sC9]
      refine wpAnyH_take (i := 10) (v := .pointer (some ⟨A.b, 0, none⟩)) rfl (by kernel_rfl) (by kernel_rfl) (by kernel_rfl) (fun _ _ _ h => h) (Or.inl ⟨by rfl, fun w' hS => by go_simp⟩) hHeld ?_
      simp only [Act.put, gA9, gZ9, gC9, sA9, sZ9, sC9]
      refine wpAnyH_take (i := 11) (v := .pointer (some ⟨A.b, 0, none⟩)) rfl (by kernel_rfl) (by kernel_rfl) (by kernel_rfl) (fun _ _ _ h => h) (Or.inl ⟨by rfl, fun w' hS => by go_simp⟩) hHeld ?_
      simp only [Act.put, gA9, gZ9, gC9, sA9, sZ9, sC9]
      refine wpAnyH_take (i := 12) (v := .pointer (some ⟨A.b, 1, none⟩)) rfl (by kernel_rfl) (by kernel_rfl) (by kernel_rfl) (fun _ _ _ h => h) (Or.inl ⟨by rfl, fun w' hS => by go_simp⟩) hHeld ?_
      simp only [Act.put, gA9, gZ9, gC9, sA9, sZ9, sC9]
      refine wpAnyH_take (i := 13) (v := .int .i64 A.self) rfl (by kernel_rfl) (by kernel_rfl) (by kernel_rfl) (fun _ _ _ h => h) (Or.inl ⟨by rfl, fun w' hS => by (obtain ⟨s0, s1, s2⟩ := hS; go_simp)⟩) hHeld ?_
      simp only [Act.put, gA9, gZ9, gC9, sA9, sZ9, sC9]
      refine wpAnyH_take (i := 14) (v := .pointer (some ⟨A.b, 0, none⟩)) rfl (by kernel_rfl) (by kernel_rfl) (by kernel_rfl) (fun _ _ _ h => h) (Or.inl ⟨by rfl, fun w' hS => by go_simp⟩) hHeld ?_
      simp only [Act.put, gA9, gZ9, gC9, sA9, sZ9, sC9]
      refine wpAnyH_take (i := 15) (v := .pointer (some ⟨A.b, 2, none⟩)) rfl (by kernel_rfl) (by kernel_rfl) (by kernel_rfl) (fun _ _ _ h => h) (Or.inl ⟨by rfl, fun w' hS => by go_simp⟩) hHeld ?_
      simp only [Act.put, gA9, gZ9, gC9, sA9, sZ9, sC9]
      refine wpAnyH_take (i := 16) (v := .pointer (some ⟨A.b, 2, none⟩)) rfl (by kernel_rfl) (by kernel_rfl) (by kernel_rfl) (fun _ _ _ h => h) (Or.inl ⟨by rfl, fun w' hS => by go_simp⟩) hHeld ?_
      simp only [Act.put, gA9, gZ9, gC9, sA9, sZ9, sC9]
      refine wpAnyH_take (i := 17) (v := .pointer (some ⟨A.b, 2 + A.self, none⟩)) rfl (by kernel_rfl) (by kernel_rfl) (by kernel_rfl) (fun _ _ _ h => h) (Or.inl ⟨by rfl, fun w' hS => by (go_simp <;> (intro hh; omega))⟩) hHeld ?_
      simp only [Act.put, gA9, gZ9, gC9, sA9, sZ9, sC9]
      refine wpAnyH_take (i := 18) (v := .int .i64 xo) rfl (by kernel_rfl) (by kernel_rfl) (by kernel_rfl) (fun _ _ _ h => h) (Or.inl ⟨by rfl, fun w' hS => by (obtain ⟨s0, s1, s2⟩ := hS; go_simp)⟩) hHeld ?_
      simp only [Act.put, gA9, gZ9, gC9, sA9, sZ9, sC9]
      refine wpAnyH_take (i := 19) (v := .bool false) rfl (by kernel_rfl) (by kernel_rfl) (by kernel_rfl) (fun _ _ _ h => h) (Or.inl ⟨by rfl, fun w' hS => by (go_simp <;> simpa using hne)⟩) hHeld ?_
      simp only [Act.put, gA9, gZ9, gC9, sA9, sZ9, sC9]
      refine wpAnyH_take (i := 20) (v := .bool false) rfl (by kernel_rfl) (by kernel_rfl) (by kernel_rfl) (fun _ _ _ h => h) (Or.inl ⟨by rfl, fun w' hS => by go_simp⟩) hHeld ?_
      simp only [Act.put, gA9, gZ9, gC9, sA9, sZ9, sC9]
      refine wpAnyH_done (by kernel_rfl) ?_ _
      clear hHeld
      have HAX : Hid (A.Ok V.drew B T) := HAV.out.still (Below.refl _ _).drew
      have HX : Hid (Rw V.drew W2.heap.size 61 r) := HK4.out.still (Below.refl _ _).drew
      have HBX : Hid (Below w.heap.size w V.drew) := bstep HB4.out (Below.refl _ _).drew
      generalize V.drew = X at *
      clear HAV HK4 HB4 hAV c1 c2 c3
      go_wp2
      refine wp_region_held_drew (S := (fun w' => w'.rangeAt W2.heap.size 0 (ints r) ∧ w'.rangeAt A.b 2 (ints A.own.set))) (by kernel_rfl) ⟨(World.rangeAt_drew _ _ _ _).2 HX.out.all, (World.rangeAt_drew _ _ _ _).2 HAX.out.set_r⟩ (fun hHeld => ?_)
      simp only [Act.put, List.size_toArray, List.length_cons, List.length_nil, Nat.zero_add]
      refine wpAnyH_take (i := 0) (v := .agg (ints r).toArray) rfl (by kernel_rfl) (by kernel_rfl) (by kernel_rfl) (fun _ _ _ h => h) (yieldsIf_load_mid (by rfl) 61 (.tmp 6) rfl W2.heap.size (0) (by rfl) (ints r) _ (fun w' hS => hS.1) Try.underlying61 rfl (by rw [ints_len, hr16]; exact info_row)) hHeld ?_
      simp only [Act.put, gA9, gZ9, gC9, sA9, sZ9, sC9]
      refine wpAnyH_take (i := 1) (v := .pointer (some ⟨A.b, 0, none⟩)) rfl (by kernel_rfl) (by kernel_rfl) (by kernel_rfl) (fun _ _ _ h => h) (Or.inl ⟨by rfl, fun w' hS => by go_simp⟩) hHeld ?_
      simp only [Act.put, gA9, gZ9, gC9, sA9, sZ9, sC9]
      refine wpAnyH_take (i := 2) (v := .pointer (some ⟨A.b, 0, none⟩)) rfl (by kernel_rfl) (by kernel_rfl) (by kernel_rfl) (fun _ _ _ h => h) (Or.inl ⟨by rfl, fun w' hS => by go_simp⟩) hHeld ?_
      simp only [Act.put, gA9, gZ9, gC9, sA9, sZ9, sC9]
      refine wpAnyH_take (i := 3) (v := .pointer (some ⟨A.b, 2, none⟩)) rfl (by kernel_rfl) (by kernel_rfl) (by kernel_rfl) (fun _ _ _ h => h) (Or.inl ⟨by rfl, fun w' hS => by go_simp⟩) hHeld ?_
      simp only [Act.put, gA9, gZ9, gC9, sA9, sZ9, sC9]
      refine wpAnyH_take (i := 4) (v := .pointer (some ⟨A.b, 2, none⟩)) rfl (by kernel_rfl) (by kernel_rfl) (by kernel_rfl) (fun _ _ _ h => h) (Or.inl ⟨by rfl, fun w' hS => by go_simp⟩) hHeld ?_
      simp only [Act.put, gA9, gZ9, gC9, sA9, sZ9, sC9]
      refine wpAnyH_take (i := 5) (v := .agg (ints A.own.set).toArray) rfl (by kernel_rfl) (by kernel_rfl) (by kernel_rfl) (fun _ _ _ h => h) (yieldsIf_load_mid (by rfl) 61 (.tmp 43) rfl A.b (2) (by rfl) (ints A.own.set) _ (fun w' hS => hS.2) Try.underlying61 rfl (by rw [ints_len, Lo.out.ls]; exact info_row)) hHeld ?_
      simp only [Act.put, gA9, gZ9, gC9, sA9, sZ9, sC9]
      refine wpAnyH_take (i := 6) (v := .bool (decide (r = A.own.set))) rfl (by kernel_rfl) (by kernel_rfl) (by kernel_rfl) (fun _ _ _ h => h) (Or.inl ⟨by rfl, fun w' hS => run_eqlop 61 (.tmp 39) (.tmp 44) 61 rfl _ _ (by rfl) (by rfl) (by kernel_rfl) _ (eq_row_ _ _ hr16 Lo.out.ls)⟩) hHeld ?_
      simp only [Act.put, gA9, gZ9, gC9, sA9, sZ9, sC9]
      refine wpAnyH_done (by kernel_rfl) ?_ _
      clear hHeld
      have HAY : Hid (A.Ok X.drew B T) := HAX.out.still (Below.refl _ _).drew
      have HY : Hid (Rw X.drew W2.heap.size 61 r) := HX.out.still (Below.refl _ _).drew
      have HBY : Hid (Below w.heap.size w X.drew) := bstep HBX.out (Below.refl _ _).drew
      generalize X.drew = Y at *
      clear HAX HX HBX
      by_cases hq : r = A.own.set
      · rw [decide_eq_true hq]
        have Hq : Hid (pad xs = A.own.set) := Hrp.out ▸ hq
        clear hq
        go_wp2
        (try simp only [Exit.inBlock, Exit.then]); refine bodyPost_ret (results_tmp2 rfl _ _ _) rfl ?_
        rw [(HF0.out Hq.out).1, (HF0.out Hq.out).2.1, (HF0.out Hq.out).2.2]
        exact ⟨rfl, HAY.out, Kept.ofBelow HBY.out _⟩
      · rw [decide_eq_false hq]
        have Hq : Hid (¬ pad xs = A.own.set) := fun e => hq (Hrp.out.trans e)
        clear hq
        go_wp2_with (first
          | (go_at_call 21; refine (begin_any HAY.out hT r hr16).mono ?_; rintro e w3 ⟨rfl, hO, hK⟩)
          | (refine load_mid 61 (.tmp 6) HY.out.all _ Try.underlying61 rfl (by rw [ints_len, hr16]; exact info_row) rfl rfl rfl ?_)
          | fail)
        (try simp only [Exit.inBlock, Exit.then]); refine bodyPost_ret (results_tmp2 rfl _ _ _) rfl ?_
        rw [(HF1.out Hq.out).1, (HF1.out Hq.out).2.1, (HF1.out Hq.out).2.2, ← Hrp.out]
        exact ⟨rfl, hO, (Kept.ofBelow HBY.out _).trans hK⟩
    · have hh : okL xs A.n = false ∨ (pad xs).getD A.self 0 ≠ A.own.set.getD A.self 0 := .inr (fun e => hx (by rw [Hrp.out]; exact e))
      have HF : Hid (A.estE xs = 60 ∧ A.estA xs = A ∧ A.estB xs = false) := by
        show _ ∧ _ ∧ _
        unfold Ag.estE Ag.estA Ag.estB
        rw [if_pos hh, if_pos hh, if_pos hh]
        exact ⟨rfl, rfl, rfl⟩
      have hne : (r.getD A.self 0 != A.own.set.getD A.self 0) = true := by simpa using hx
      clear hh
      generalize r.getD A.self 0 = xr at *
      generalize A.own.set.getD A.self 0 = xo at *
      refine wp_region_held_drew (S := (fun w' => w'.cell? ⟨A.b, 1, none⟩ = some (.int .i64 A.self) ∧ w'.cell? ⟨W2.heap.size, A.self, none⟩ = some (.int .i64 xr) ∧ w'.cell? ⟨A.b, 2 + A.self, none⟩ = some (.int .i64 xo))) (by kernel_rfl) ⟨below_at (Below.refl _ _).drew c1, below_at (Below.refl _ _).drew c2, below_at (Below.refl _ _).drew c3⟩ (fun hHeld => ?_)
      simp only [Act.put, List.size_toArray, List.length_cons, List.length_nil, Nat.zero_add]
      refine wpAnyH_take (i := 0) (v := .bool true) rfl (by kernel_rfl) (by kernel_rfl) (by kernel_rfl) (fun _ _ _ h => h) (Or.inl ⟨by rfl, fun w' hS => by go_simp⟩) hHeld ?_
      simp only [Act.put, gA9, gZ9, gC9, sA9, sZ9, sC9]
      refine wpAnyH_take (i := 1) (v := .bool false) rfl (by kernel_rfl) (by kernel_rfl) (by kernel_rfl) (fun _ _ _ h => h) (Or.inl ⟨by rfl, fun w' hS => by go_simp⟩) hHeld ?_
      simp only [Act.put, gA9, gZ9, gC9, sA9, sZ9, sC9]
      refine wpAnyH_take (i := 2) (v := .bool false) rfl (by kernel_rfl) (by kernel_rfl) (by kernel_rfl) (fun _ _ _ h => h) (Or.inl ⟨by rfl, fun w' hS => by go_simp⟩) hHeld ?_
      simp only [Act.put, gA9, gZ9, gC9, sA9, sZ9, sC9]
      refine wpAnyH_take (i := 3) (v := .pointer (some ⟨A.b, 0, none⟩)) rfl (by kernel_rfl) (by kernel_rfl) (by kernel_rfl) (fun _ _ _ h => h) (Or.inl ⟨by rfl, fun w' hS => by go_simp⟩) hHeld ?_
      simp only [Act.put, gA9, gZ9, gC9, sA9, sZ9, sC9]
      refine wpAnyH_take (i := 4) (v := .pointer (some ⟨A.b, 0, none⟩)) rfl (by kernel_rfl) (by kernel_rfl) (by kernel_rfl) (fun _ _ _ h => h) (Or.inl ⟨by rfl, fun w' hS => by go_simp⟩) hHeld ?_
      simp only [Act.put, gA9, gZ9, gC9, sA9, sZ9, sC9]
      refine wpAnyH_take (i := 5) (v := .pointer (some ⟨A.b, 1, none⟩)) rfl (by kernel_rfl) (by kernel_rfl) (by kernel_rfl) (fun _ _ _ h => h) (Or.inl ⟨by rfl, fun w' hS => by go_simp⟩) hHeld ?_
      simp only [Act.put, gA9, gZ9, gC9, sA9, sZ9, sC9]
      refine wpAnyH_take (i := 6) (v := .int .i64 A.self) rfl (by kernel_rfl) (by kernel_rfl) (by kernel_rfl) (fun _ _ _ h => h) (Or.inl ⟨by rfl, fun w' hS => by (obtain ⟨s0, s1, s2⟩ := hS; go_simp)⟩) hHeld ?_
      simp only [Act.put, gA9, gZ9, gC9, sA9, sZ9, sC9]
      refine wpAnyH_take (i := 7) (v := .pointer (some ⟨W2.heap.size, A.self, none⟩)) rfl (by kernel_rfl) (by kernel_rfl) (by kernel_rfl) (fun _ _ _ h => h) (Or.inl ⟨by rfl, fun w' hS => by (go_simp <;> (intro hh; omega))⟩) hHeld ?_
      simp only [Act.put, gA9, gZ9, gC9, sA9, sZ9, sC9]
      refine wpAnyH_take (i := 8) (v := .int .i64 xr) rfl (by kernel_rfl) (by kernel_rfl) (by kernel_rfl) (fun _ _ _ h => h) (Or.inl ⟨by rfl, fun w' hS => by (obtain ⟨s0, s1, s2⟩ := hS; go_simp)⟩) hHeld ?_
      simp only [Act.put, gA9, gZ9, gC9, sA9, sZ9, sC9]
      refine wpAnyH_take (i := 9) (v := .pointer (some ⟨A.b, 0, none⟩)) rfl (by kernel_rfl) (by kernel_rfl) (by kernel_rfl) (fun _ _ _ h => h) (Or.inl ⟨by rfl, fun w' hS => by go_simp⟩) hHeld ?_
      simp only [Act.put, gA9, gZ9, gC9, sA9, sZ9, sC9]
      refine wpAnyH_take (i := 10) (v := .pointer (some ⟨A.b, 0, none⟩)) rfl (by kernel_rfl) (by kernel_rfl) (by kernel_rfl) (fun _ _ _ h => h) (Or.inl ⟨by rfl, fun w' hS => by go_simp⟩) hHeld ?_
      simp only [Act.put, gA9, gZ9, gC9, sA9, sZ9, sC9]
      refine wpAnyH_take (i := 11) (v := .pointer (some ⟨A.b, 0, none⟩)) rfl (by kernel_rfl) (by kernel_rfl) (by kernel_rfl) (fun _ _ _ h => h) (Or.inl ⟨by rfl, fun w' hS => by go_simp⟩) hHeld ?_
      simp only [Act.put, gA9, gZ9, gC9, sA9, sZ9, sC9]
      refine wpAnyH_take (i := 12) (v := .pointer (some ⟨A.b, 1, none⟩)) rfl (by kernel_rfl) (by kernel_rfl) (by kernel_rfl) (fun _ _ _ h => h) (Or.inl ⟨by rfl, fun w' hS => by go_simp⟩) hHeld ?_
      simp only [Act.put, gA9, gZ9, gC9, sA9, sZ9, sC9]
      refine wpAnyH_take (i := 13) (v := .int .i64 A.self) rfl (by kernel_rfl) (by kernel_rfl) (by kernel_rfl) (fun _ _ _ h => h) (Or.inl ⟨by rfl, fun w' hS => by (obtain ⟨s0, s1, s2⟩ := hS; go_simp)⟩) hHeld ?_
      simp only [Act.put, gA9, gZ9, gC9, sA9, sZ9, sC9]
      refine wpAnyH_take (i := 14) (v := .pointer (some ⟨A.b, 0, none⟩)) rfl (by kernel_rfl) (by kernel_rfl) (by kernel_rfl) (fun _ _ _ h => h) (Or.inl ⟨by rfl, fun w' hS => by go_simp⟩) hHeld ?_
      simp only [Act.put, gA9, gZ9, gC9, sA9, sZ9, sC9]
      refine wpAnyH_take (i := 15) (v := .pointer (some ⟨A.b, 2, none⟩)) rfl (by kernel_rfl) (by kernel_rfl) (by kernel_rfl) (fun _ _ _ h => h) (Or.inl ⟨by rfl, fun w' hS => by go_simp⟩) hHeld ?_
      simp only [Act.put, gA9, gZ9, gC9, sA9, sZ9, sC9]
      refine wpAnyH_take (i := 16) (v := .pointer (some ⟨A.b, 2, none⟩)) rfl (by kernel_rfl) (by kernel_rfl) (by kernel_rfl) (fun _ _ _ h => h) (Or.inl ⟨by rfl, fun w' hS => by go_simp⟩) hHeld ?_
      simp only [Act.put, gA9, gZ9, gC9, sA9, sZ9, sC9]
      refine wpAnyH_take (i := 17) (v := .pointer (some ⟨A.b, 2 + A.self, none⟩)) rfl (by kernel_rfl) (by kernel_rfl) (by kernel_rfl) (fun _ _ _ h => h) (Or.inl ⟨by rfl, fun w' hS => by (go_simp <;> (intro hh; omega))⟩) hHeld ?_
      simp only [Act.put, gA9, gZ9, gC9, sA9, sZ9, sC9]
      refine wpAnyH_take (i := 18) (v := .int .i64 xo) rfl (by kernel_rfl) (by kernel_rfl) (by kernel_rfl) (fun _ _ _ h => h) (Or.inl ⟨by rfl, fun w' hS => by (obtain ⟨s0, s1, s2⟩ := hS; go_simp)⟩) hHeld ?_
      simp only [Act.put, gA9, gZ9, gC9, sA9, sZ9, sC9]
      refine wpAnyH_take (i := 19) (v := .bool true) rfl (by kernel_rfl) (by kernel_rfl) (by kernel_rfl) (fun _ _ _ h => h) (Or.inl ⟨by rfl, fun w' hS => by (go_simp <;> simpa using hne)⟩) hHeld ?_
      simp only [Act.put, gA9, gZ9, gC9, sA9, sZ9, sC9]
      refine wpAnyH_take (i := 20) (v := .bool true) rfl (by kernel_rfl) (by kernel_rfl) (by kernel_rfl) (fun _ _ _ h => h) (Or.inl ⟨by rfl, fun w' hS => by go_simp⟩) hHeld ?_
      simp only [Act.put, gA9, gZ9, gC9, sA9, sZ9, sC9]
      refine wpAnyH_done (by kernel_rfl) ?_ _
      clear hHeld
      go_wp2
      (try simp only [Exit.inBlock, Exit.then]); refine bodyPost_ret (results_tmp2 rfl _ _ _) rfl ?_
      rw [HF.out.1, HF.out.2.1, HF.out.2.2]
      exact ⟨rfl, HAV.out.still (Below.refl _ _).drew, Kept.ofBelow (bstep HB4.out (Below.refl _ _).drew) _⟩
end
end Go.Proofs.Ytdegjhkjmgimpaa.Mb
