import Derived.Test.YtihcaopcfhbofaaX13
namespace Go.Proofs.Ytihcaopcfhbofaa.Fm
open Go.RowKit Go.Maps Mb
set_option linter.unusedVariables false
set_option maxRecDepth 100000
set_option linter.unusedSimpArgs false
section
variable {w w' W : World} {B : Nat}
def NodT (l : List Int) (k : Nat) : Prop := ∀ i, i < k → (0 ≤ l.getD i 0 ∧ l.getD i 0 < 16) ∧ ∀ j, j < i → l.getD j 0 ≠ l.getD i 0
def PlK (l : List Int) (q : Int) (k : Nat) (r : Int) : Prop := (r = -1 ∧ ∀ m, m < k → l.getD m 0 ≠ q) ∨ ∃ m : Nat, m < k ∧ r = m ∧ l.getD m 0 = q
def PlaceS (l : List Int) (q r : Int) : Prop := (¬ NodT l l.length ∧ r = -1) ∨ (NodT l l.length ∧ PlK l q l.length r)
set_option maxHeartbeats 4000000 in
theorem qplace_any {ao : Option Addr} {cp : Nat} {l : List Int} (hr : RdI w ao l) (hn : l.length ≤ 1000000000000000000) (q : Int) : Calls Try.prog 39 #[.slice ao l.length cp, .int .i64 q] w fun e w' => ∃ r, e = .returned (.int .i64 r) ∧ PlaceS l q r ∧ Below w.heap.size w w' := by
  have HR : Hid (RdI w ao l) := hr
  have Hno : Hid (¬ NodT l l.length → PlaceS l q (-1)) := fun h => .inl ⟨h, rfl⟩
  have Hyes : Hid (NodT l l.length → ∀ r, PlK l q l.length r → PlaceS l q r) := fun h r hp => .inr ⟨h, hp⟩
  generalize hL : l.length = L at *
  have HLe : Hid (l.length = L) := hL
  clear hr hL
  go_enter Try.func39, Try.ntmps39
  go_wp2
  go_loopw [5, 6] (fun av v wr => ∃ k : Nat, ∃ r : Int, k ≤ L ∧ v = .int .i64 k ∧ av = .int .i64 r ∧ NodT l k ∧ PlK l q k r ∧ Below w.heap.size w wr) (fun _ v _ => L - (intOf v).toNat)
  case atStart => exact ⟨0, -1, Nat.zero_le _, rfl, rfl, fun i hi => by omega, .inl ⟨rfl, fun m hm => by omega⟩, Below.refl _ _⟩
  case round =>
    obtain ⟨k, r, hk, rfl, rfl, hN, hP, hb⟩ := hrel
    have HN : Hid (NodT l k) := hN
    have HP : Hid (PlK l q k r) := hP
    have HB : Hid (Below w.heap.size w wr) := hb
    clear hN hP hb
    by_cases hlt : k < L
    · obtain ⟨b, off, rfl, hc⟩ := (HR.out.still HB.out).at (i := k) (by rw [HLe.out]; exact hlt)
      have i1 : (0 : Int) ≤ (k : Int) := Int.natCast_nonneg _
      have i2 : (k : Int) < (L : Int) := by omega
      have Hbad : Hid (¬ (0 ≤ l.getD k 0 ∧ l.getD k 0 < 16) → PlaceS l q (-1)) := fun h => Hno.out (fun hn => h (hn k hlt).1)
      have Hdup : Hid (∀ j, j < k → l.getD j 0 = l.getD k 0 → PlaceS l q (-1)) := fun j hj e => Hno.out (fun hn => (hn k hlt).2 j hj e)
      have Hnx : Hid ((0 ≤ l.getD k 0 ∧ l.getD k 0 < 16) → (∀ j, j < k → l.getD j 0 ≠ l.getD k 0) → NodT l (k + 1)) := fun h1 h2 i hi => by
        by_cases e : i = k
        · subst e; exact ⟨h1, h2⟩
        · exact HN.out i (by omega)
      have Hpy : Hid (l.getD k 0 = q → PlK l q (k + 1) (k : Int)) := fun h => .inr ⟨k, by omega, rfl, h⟩
      have Hpn : Hid (l.getD k 0 ≠ q → PlK l q (k + 1) r) := fun h => by
        rcases HP.out with ⟨h1, h2⟩ | ⟨m, h1, h2⟩
        · refine .inl ⟨h1, fun m hm => ?_⟩
          by_cases e : m = k
          · subst e; exact h
          · exact h2 m (by omega)
        · exact .inr ⟨m, by omega, h2⟩
      generalize hx : l.getD k 0 = x at *
      have Hx : Hid (l.getD k 0 = x) := hx
      clear hx
      by_cases h1 : 0 ≤ x
      case neg =>
        have Hr : Hid (PlaceS l q (-1)) := Hbad.out (by omega)
        go_wp2_with (first | (refine wl_at 16 rfl ?_) | fail)
        refine wl_take (v := ?_) (by kernel_rfl) (by go_simp; exact rfl) ?_
        simp only [Act.put, gA9, gZ9, gC9, sA9, sZ9, sC9]
        refine wl_take (v := ?_) (by kernel_rfl) (by go_simp; exact rfl) ?_
        simp only [Act.put, gA9, gZ9, gC9, sA9, sZ9, sC9]
        refine wl_take (v := .bool true) (by kernel_rfl) (by first | (go_simp; done) | (go_simp; omega)) ?_
        simp only [Act.put, gA9, gZ9, gC9, sA9, sZ9, sC9]
        refine wl_take (v := ?_) (by kernel_rfl) (by go_simp; exact rfl) ?_
        simp only [Act.put, gA9, gZ9, gC9, sA9, sZ9, sC9]
        refine wl_skip (by kernel_rfl) ?_
        simp only [Act.put, gA9, gZ9, gC9, sA9, sZ9, sC9]
        refine wl_skip (by kernel_rfl) ?_
        simp only [Act.put, gA9, gZ9, gC9, sA9, sZ9, sC9]
        refine wl_skip (by kernel_rfl) ?_
        simp only [Act.put, gA9, gZ9, gC9, sA9, sZ9, sC9]
        refine wl_skip (by kernel_rfl) ?_
        simp only [Act.put, gA9, gZ9, gC9, sA9, sZ9, sC9]
        refine wl_skip (by kernel_rfl) ?_
        simp only [Act.put, gA9, gZ9, gC9, sA9, sZ9, sC9]
        refine wl_take (v := ?_) (by kernel_rfl) (by go_simp; exact rfl) ?_
        simp only [Act.put, gA9, gZ9, gC9, sA9, sZ9, sC9]
        refine ⟨?_⟩
        go_wp2
        go_ret
        exact ⟨-1, rfl, Hr.out, HB.out⟩
      by_cases h2 : x < 16
      case neg =>
        have Hr : Hid (PlaceS l q (-1)) := Hbad.out (by omega)
        go_wp2_with (first | (refine wl_at 16 rfl ?_) | fail)
        refine wl_take (v := ?_) (by kernel_rfl) (by go_simp; exact rfl) ?_
        simp only [Act.put, gA9, gZ9, gC9, sA9, sZ9, sC9]
        refine wl_take (v := ?_) (by kernel_rfl) (by go_simp; exact rfl) ?_
        simp only [Act.put, gA9, gZ9, gC9, sA9, sZ9, sC9]
        refine wl_take (v := .bool false) (by kernel_rfl) (by first | (go_simp; done) | (go_simp; omega)) ?_
        simp only [Act.put, gA9, gZ9, gC9, sA9, sZ9, sC9]
        refine wl_take (v := ?_) (by kernel_rfl) (by go_simp; exact rfl) ?_
        simp only [Act.put, gA9, gZ9, gC9, sA9, sZ9, sC9]
        refine wl_take (v := ?_) (by kernel_rfl) (by go_simp; exact rfl) ?_
        simp only [Act.put, gA9, gZ9, gC9, sA9, sZ9, sC9]
        refine wl_take (v := ?_) (by kernel_rfl) (by go_simp; exact rfl) ?_
        simp only [Act.put, gA9, gZ9, gC9, sA9, sZ9, sC9]
        refine wl_take (v := ?_) (by kernel_rfl) (by go_simp; exact rfl) ?_
        simp only [Act.put, gA9, gZ9, gC9, sA9, sZ9, sC9]
        refine wl_take (v := ?_) (by kernel_rfl) (by go_simp; exact rfl) ?_
        simp only [Act.put, gA9, gZ9, gC9, sA9, sZ9, sC9]
        refine wl_take (v := .bool true) (by kernel_rfl) (by first | (go_simp; done) | (go_simp; omega)) ?_
        simp only [Act.put, gA9, gZ9, gC9, sA9, sZ9, sC9]
        refine wl_take (v := ?_) (by kernel_rfl) (by go_simp; exact rfl) ?_
        simp only [Act.put, gA9, gZ9, gC9, sA9, sZ9, sC9]
        refine ⟨?_⟩
        go_wp2
        go_ret
        exact ⟨-1, rfl, Hr.out, HB.out⟩
      go_wp2_with (first | (refine wl_at 16 rfl ?_) | fail)
      refine wl_take (v := ?_) (by kernel_rfl) (by go_simp; exact rfl) ?_
      simp only [Act.put, gA9, gZ9, gC9, sA9, sZ9, sC9]
      refine wl_take (v := ?_) (by kernel_rfl) (by go_simp; exact rfl) ?_
      simp only [Act.put, gA9, gZ9, gC9, sA9, sZ9, sC9]
      refine wl_take (v := .bool false) (by kernel_rfl) (by first | (go_simp; done) | (go_simp; omega)) ?_
      simp only [Act.put, gA9, gZ9, gC9, sA9, sZ9, sC9]
      refine wl_take (v := ?_) (by kernel_rfl) (by go_simp; exact rfl) ?_
      simp only [Act.put, gA9, gZ9, gC9, sA9, sZ9, sC9]
      refine wl_take (v := ?_) (by kernel_rfl) (by go_simp; exact rfl) ?_
      simp only [Act.put, gA9, gZ9, gC9, sA9, sZ9, sC9]
      refine wl_take (v := ?_) (by kernel_rfl) (by go_simp; exact rfl) ?_
      simp only [Act.put, gA9, gZ9, gC9, sA9, sZ9, sC9]
      refine wl_take (v := ?_) (by kernel_rfl) (by go_simp; exact rfl) ?_
      simp only [Act.put, gA9, gZ9, gC9, sA9, sZ9, sC9]
      refine wl_take (v := ?_) (by kernel_rfl) (by go_simp; exact rfl) ?_
      simp only [Act.put, gA9, gZ9, gC9, sA9, sZ9, sC9]
      refine wl_take (v := .bool false) (by kernel_rfl) (by first | (go_simp; done) | (go_simp; omega)) ?_
      simp only [Act.put, gA9, gZ9, gC9, sA9, sZ9, sC9]
      refine wl_take (v := ?_) (by kernel_rfl) (by go_simp; exact rfl) ?_
      simp only [Act.put, gA9, gZ9, gC9, sA9, sZ9, sC9]
      refine ⟨?_⟩
      go_wp2
      go_loopw [7] (fun v wv => ∃ j : Nat, j ≤ k ∧ v = .int .i64 j ∧ (∀ m, m < j → l.getD m 0 ≠ x) ∧ Below w.heap.size w wv) (fun v _ => k - (intOf v).toNat)
      case atStart => exact ⟨0, Nat.zero_le _, rfl, fun m hm => by omega, HB.out⟩
      case round =>
        obtain ⟨j, hj, rfl, hno, hb⟩ := hrel
        have HM : Hid (∀ m, m < j → l.getD m 0 ≠ x) := hno
        clear HB hc
        have HB : Hid (Below w.heap.size w wr) := hb
        clear hno hb
        obtain ⟨b1, off1, he1, hc⟩ := (HR.out.still HB.out).at (i := k) (by rw [HLe.out]; exact hlt)
        have e1 : b = b1 ∧ off = off1 := by simpa using he1
        obtain ⟨rfl, rfl⟩ := e1
        rw [Hx.out] at hc
        clear he1
        by_cases hjt : j < k
        · obtain ⟨b2, off2, he2, hd⟩ := (HR.out.still HB.out).at (i := j) (by rw [HLe.out]; omega)
          have e2 : b = b2 ∧ off = off2 := by simpa using he2
          obtain ⟨rfl, rfl⟩ := e2
          have j1 : (0 : Int) ≤ (j : Int) := Int.natCast_nonneg _
          have j2 : (j : Int) < (k : Int) := by omega
          have j3 : (j : Int) < (L : Int) := by omega
          have Hd : Hid (l.getD j 0 = x → PlaceS l q (-1)) := fun e => Hdup.out j hjt e
          have Hm : Hid (l.getD j 0 ≠ x → ∀ m, m < j + 1 → l.getD m 0 ≠ x) := fun h m hm => by
            by_cases e : m = j
            · subst e; exact h
            · exact HM.out m (by omega)
          generalize l.getD j 0 = y at *
          clear he2
          by_cases hy : y = x
          · have Hr : Hid (PlaceS l q (-1)) := Hd.out hy
            subst hy
            go_wp2_with (fail)
            refine wp_region_held_drew (S := (fun w' => w'.cell? ⟨b, off + j, none⟩ = some (.int .i64 y) ∧ w'.cell? ⟨b, off + k, none⟩ = some (.int .i64 y))) (by kernel_rfl) ⟨below_at (Below.refl _ _).drew hd, below_at (Below.refl _ _).drew hc⟩ (fun hHeld => ?_)
            simp only [Act.put, List.size_toArray, List.length_cons, List.length_nil, Nat.zero_add]
            refine wpAnyH_take (i := 0) (v := .slice (some ⟨b, off, none⟩) L cp) rfl (by kernel_rfl) (by kernel_rfl) (by kernel_rfl) (fun _ _ _ h => h) (Or.inl ⟨by rfl, fun w' hS => by go_simp⟩) hHeld ?_
            simp only [Act.put, gA9, gZ9, gC9, sA9, sZ9, sC9]
            refine wpAnyH_take (i := 1) (v := .int .i64 (j : Int)) rfl (by kernel_rfl) (by kernel_rfl) (by kernel_rfl) (fun _ _ _ h => h) (Or.inl ⟨by rfl, fun w' hS => by go_simp⟩) hHeld ?_
            simp only [Act.put, gA9, gZ9, gC9, sA9, sZ9, sC9]
            refine wpAnyH_take (i := 2) (v := .pointer (some ⟨b, off + j, none⟩)) rfl (by kernel_rfl) (by kernel_rfl) (by kernel_rfl) (fun _ _ _ h => h) (Or.inl ⟨by rfl, fun w' hS => by go_simp⟩) hHeld ?_
            simp only [Act.put, gA9, gZ9, gC9, sA9, sZ9, sC9]
            refine wpAnyH_take (i := 3) (v := .int .i64 y) rfl (by kernel_rfl) (by kernel_rfl) (by kernel_rfl) (fun _ _ _ h => h) (Or.inl ⟨by rfl, fun w' hS => by (obtain ⟨t1, t2⟩ := hS; go_simp)⟩) hHeld ?_
            simp only [Act.put, gA9, gZ9, gC9, sA9, sZ9, sC9]
            refine wpAnyH_take (i := 4) (v := .slice (some ⟨b, off, none⟩) L cp) rfl (by kernel_rfl) (by kernel_rfl) (by kernel_rfl) (fun _ _ _ h => h) (Or.inl ⟨by rfl, fun w' hS => by go_simp⟩) hHeld ?_
            simp only [Act.put, gA9, gZ9, gC9, sA9, sZ9, sC9]
            refine wpAnyH_take (i := 5) (v := .int .i64 (k : Int)) rfl (by kernel_rfl) (by kernel_rfl) (by kernel_rfl) (fun _ _ _ h => h) (Or.inl ⟨by rfl, fun w' hS => by go_simp⟩) hHeld ?_
            simp only [Act.put, gA9, gZ9, gC9, sA9, sZ9, sC9]
            refine wpAnyH_take (i := 6) (v := .pointer (some ⟨b, off + k, none⟩)) rfl (by kernel_rfl) (by kernel_rfl) (by kernel_rfl) (fun _ _ _ h => h) (Or.inl ⟨by rfl, fun w' hS => by go_simp⟩) hHeld ?_
            simp only [Act.put, gA9, gZ9, gC9, sA9, sZ9, sC9]
            refine wpAnyH_take (i := 7) (v := .int .i64 y) rfl (by kernel_rfl) (by kernel_rfl) (by kernel_rfl) (fun _ _ _ h => h) (Or.inl ⟨by rfl, fun w' hS => by (obtain ⟨t1, t2⟩ := hS; go_simp)⟩) hHeld ?_
            simp only [Act.put, gA9, gZ9, gC9, sA9, sZ9, sC9]
            refine wpAnyH_take (i := 8) (v := .bool true) rfl (by kernel_rfl) (by kernel_rfl) (by kernel_rfl) (fun _ _ _ h => h) (Or.inl ⟨by rfl, fun w' hS => by first | (go_simp; done) | (go_simp; omega) | (go_simp; simp_all)⟩) hHeld ?_
            simp only [Act.put, gA9, gZ9, gC9, sA9, sZ9, sC9]
            refine wpAnyH_done (by kernel_rfl) ?_ _
            clear hHeld
            go_wp2
            go_ret
            exact ⟨-1, rfl, Hr.out, HB.out.drew⟩
          · have Hr : Hid (∀ m, m < j + 1 → l.getD m 0 ≠ x) := Hm.out hy
            go_wp2_with (fail)
            refine wp_region_held_drew (S := (fun w' => w'.cell? ⟨b, off + j, none⟩ = some (.int .i64 y) ∧ w'.cell? ⟨b, off + k, none⟩ = some (.int .i64 x))) (by kernel_rfl) ⟨below_at (Below.refl _ _).drew hd, below_at (Below.refl _ _).drew hc⟩ (fun hHeld => ?_)
            simp only [Act.put, List.size_toArray, List.length_cons, List.length_nil, Nat.zero_add]
            refine wpAnyH_take (i := 0) (v := .slice (some ⟨b, off, none⟩) L cp) rfl (by kernel_rfl) (by kernel_rfl) (by kernel_rfl) (fun _ _ _ h => h) (Or.inl ⟨by rfl, fun w' hS => by go_simp⟩) hHeld ?_
            simp only [Act.put, gA9, gZ9, gC9, sA9, sZ9, sC9]
            refine wpAnyH_take (i := 1) (v := .int .i64 (j : Int)) rfl (by kernel_rfl) (by kernel_rfl) (by kernel_rfl) (fun _ _ _ h => h) (Or.inl ⟨by rfl, fun w' hS => by go_simp⟩) hHeld ?_
            simp only [Act.put, gA9, gZ9, gC9, sA9, sZ9, sC9]
            refine wpAnyH_take (i := 2) (v := .pointer (some ⟨b, off + j, none⟩)) rfl (by kernel_rfl) (by kernel_rfl) (by kernel_rfl) (fun _ _ _ h => h) (Or.inl ⟨by rfl, fun w' hS => by go_simp⟩) hHeld ?_
            simp only [Act.put, gA9, gZ9, gC9, sA9, sZ9, sC9]
            refine wpAnyH_take (i := 3) (v := .int .i64 y) rfl (by kernel_rfl) (by kernel_rfl) (by kernel_rfl) (fun _ _ _ h => h) (Or.inl ⟨by rfl, fun w' hS => by (obtain ⟨t1, t2⟩ := hS; go_simp)⟩) hHeld ?_
            simp only [Act.put, gA9, gZ9, gC9, sA9, sZ9, sC9]
            refine wpAnyH_take (i := 4) (v := .slice (some ⟨b, off, none⟩) L cp) rfl (by kernel_rfl) (by kernel_rfl) (by kernel_rfl) (fun _ _ _ h => h) (Or.inl ⟨by rfl, fun w' hS => by go_simp⟩) hHeld ?_
            simp only [Act.put, gA9, gZ9, gC9, sA9, sZ9, sC9]
            refine wpAnyH_take (i := 5) (v := .int .i64 (k : Int)) rfl (by kernel_rfl) (by kernel_rfl) (by kernel_rfl) (fun _ _ _ h => h) (Or.inl ⟨by rfl, fun w' hS => by go_simp⟩) hHeld ?_
            simp only [Act.put, gA9, gZ9, gC9, sA9, sZ9, sC9]
            refine wpAnyH_take (i := 6) (v := .pointer (some ⟨b, off + k, none⟩)) rfl (by kernel_rfl) (by kernel_rfl) (by kernel_rfl) (fun _ _ _ h => h) (Or.inl ⟨by rfl, fun w' hS => by go_simp⟩) hHeld ?_
            simp only [Act.put, gA9, gZ9, gC9, sA9, sZ9, sC9]
            refine wpAnyH_take (i := 7) (v := .int .i64 x) rfl (by kernel_rfl) (by kernel_rfl) (by kernel_rfl) (fun _ _ _ h => h) (Or.inl ⟨by rfl, fun w' hS => by (obtain ⟨t1, t2⟩ := hS; go_simp)⟩) hHeld ?_
            simp only [Act.put, gA9, gZ9, gC9, sA9, sZ9, sC9]
            refine wpAnyH_take (i := 8) (v := .bool false) rfl (by kernel_rfl) (by kernel_rfl) (by kernel_rfl) (fun _ _ _ h => h) (Or.inl ⟨by rfl, fun w' hS => by first | (go_simp; done) | (go_simp; omega) | (go_simp; simp_all)⟩) hHeld ?_
            simp only [Act.put, gA9, gZ9, gC9, sA9, sZ9, sC9]
            refine wpAnyH_done (by kernel_rfl) ?_ _
            clear hHeld
            go_wp2
            exact ⟨⟨j + 1, by omega, by go_num, Hr.out, HB.out.drew⟩, by simp [intOf]; omega⟩
        · obtain rfl : k = j := by omega
          have HN2 : Hid (NodT l (k + 1)) := Hnx.out ⟨h1, h2⟩ HM.out
          by_cases hq : x = q
          · have HP2 : Hid (PlK l q (k + 1) (k : Int)) := Hpy.out hq
            subst hq
            go_wp2
            exact ⟨⟨k + 1, (k : Int), by omega, by go_num, rfl, HN2.out, HP2.out, HB.out⟩, by simp [intOf]; omega⟩
          · have HP2 : Hid (PlK l q (k + 1) r) := Hpn.out hq
            have hq2 : (x == q) = false := by simpa using hq
            go_wp2
            exact ⟨⟨k + 1, r, by omega, by go_num, rfl, HN2.out, HP2.out, HB.out⟩, by simp [intOf]; omega⟩
    · obtain rfl : L = k := by omega
      have Hr : Hid (PlaceS l q r) := Hyes.out HN.out r HP.out
      go_wp2
      go_ret
      exact ⟨r, rfl, Hr.out, HB.out⟩
end
end Go.Proofs.Ytihcaopcfhbofaa.Fm
