import Derived.Test.YtghihdenbdnnjaaLkb
namespace Go.Proofs.Ytghihdenbdnnjaa.Ln
open Go.RowKit Mb
set_option linter.unusedVariables false
set_option maxRecDepth 100000
set_option linter.unusedSimpArgs false
section
variable {w w' W : World} {B : Nat} {S S' : St}
theorem within_any (v lo hi : Int) : Calls Try.prog 36 #[.int .i64 v, .int .i64 lo, .int .i64 hi] w fun e w' => e = .returned (.bool (inR lo hi v)) ∧ w = w' := by
  go_enter Try.func36, Try.ntmps36
  go_wp2
  all_goals (go_ret; exact ⟨by simp [inR]; first | assumption | omega, rfl⟩)
theorem body_any {ao : Option Addr} {n c : Nat} : Calls Try.prog 37 #[.slice ao n c] w fun e w' => e = .returned (.bool (inR 1 300 n)) ∧ w = w' := by
  have HW : Hid (Calls Try.prog 36 #[.int .i64 (n : Int), .int .i64 1, .int .i64 300] w fun e w' => e = .returned (.bool (inR 1 300 n)) ∧ w = w') := within_any _ _ _
  go_enter Try.func37, Try.ntmps37
  go_wp2_with (first | (go_at_call 36; refine HW.out.mono ?_; rintro e w2 ⟨rfl, rfl⟩) | fail)
  go_ret
  exact ⟨rfl, rfl⟩
set_option maxHeartbeats 400000 in
theorem copy_any {ao : Option Addr} {n c : Nat} {bs : List Int} (hr : Rd w ao n c bs) (hn : n ≤ 1000) : Calls Try.prog 40 #[.slice ao n c] w fun e w' => e = .returned (.slice (some ⟨w.heap.size, 0, none⟩) n n) ∧ Bk w' w.heap.size bs ∧ Below w.heap.size w w' := by
  have Hr : Hid (Rd w ao n c bs) := hr
  clear hr
  go_enter Try.func40, Try.ntmps40
  go_wp2_with (first | (at_make; refine wl_makeB rfl _ _ rfl _ _ n rfl rfl rfl rfl (by omega) ?_) | fail)
  intro w1 hb1 hbel
  have Hb1 : Hid (Bk w1 w.heap.size (List.replicate n 0)) := hb1
  have Hr1 : Hid (Rd w1 ao n c bs) := Hr.out.still hbel
  have Hl : Hid (spl (List.replicate n 0) 0 bs = bs) := (show _ = _ from by have := Hr.out.len; unfold spl; simp [this])
  clear hb1
  go_wp2_with (first | (refine wl_copy rfl (.tmp 7) (.tmp 8) rfl (some ⟨w.heap.size, 0, none⟩) ao n n n c rfl rfl Hb1.out Hr1.out (Nat.le_refl _) (fun _ => rfl) (by simp) ?_) | fail)
  intro w2 hb2 hk2
  rw [Hl.out] at hb2
  have HB2 : Hid (Bk w2 w.heap.size bs) := hb2
  have HBel : Hid (Below w.heap.size w w2) := (show Below w.heap.size w w2 from ⟨hk2.os.trans hbel.os, hk2.tape.trans hbel.tape, hk2.output.trans hbel.output, Nat.le_trans hbel.size hk2.size, fun i hi => (hk2.block i (Nat.lt_of_lt_of_le hi hbel.size) (by show ¬ i = w.heap.size; omega)).trans (hbel.block i hi)⟩)
  clear hb2 hk2 hbel
  go_wp2
  go_ret
  exact ⟨rfl, HB2.out, HBel.out⟩
theorem tmod_nat (n L : Nat) : Int.tmod (n : Int) (L : Int) = ((n % L : Nat) : Int) := by
  rw [Int.tmod_eq_emod_of_nonneg (Int.natCast_nonneg n)]; rfl
theorem place_any {rb L n : Nat} (hL : 0 < L) (hn : n ≤ 4611686018427427905) (hl : L ≤ 40000) : Calls Try.prog 46 #[.slice (some ⟨rb, 0, none⟩) L L, .int .i64 (n : Int)] w fun e w' => e = .returned (.pointer (some ⟨rb, n % L * 2, none⟩)) ∧ w = w' := by
  have h1 : ((L : Int) == 0) = false := by rw [beq_eq_false_iff_ne]; omega
  have hlt := Nat.mod_lt n hL
  have e := tmod_nat n L
  generalize hm : n % L = m at *
  go_enter Try.func46, Try.ntmps46
  go_wp2
  go_ret
  exact ⟨rfl, rfl⟩
theorem ring_pos (hL : 0 < S.L) : S.ring = .slice (some ⟨S.rb, 0, none⟩) S.L S.L := by unfold St.ring; rw [if_neg (by omega)]
theorem ring_zero (hL : S.L = 0) : S.ring = .slice none 0 0 := by unfold St.ring; rw [if_pos hL, hL]
theorem no_eq (h : S.Ok w B) (hL : 0 < S.L) {n : Nat} (hn : S.p < n) : ∃ x : Int, noV (nm S.p S.L (n % S.L)) (S.f (nm S.p S.L (n % S.L))) = .int .i64 x ∧ (x == (n : Int)) = (S.f n).isSome := by
  by_cases h2 : n ≤ S.p + S.L
  · rw [nm_mod hn h2]
    cases e : S.f n with
    | none => exact ⟨0, rfl, by simp; omega⟩
    | some b => exact ⟨n, rfl, by simp⟩
  · have h3 := nm_le (p := S.p) (L := S.L) (n % S.L) hL
    have h4 := h.none_gt (n := n) (by omega)
    generalize nm S.p S.L (n % S.L) = m at *
    rw [h4]
    cases e : S.f m with
    | none => exact ⟨0, rfl, by simp; omega⟩
    | some b => exact ⟨m, rfl, by simp; omega⟩
set_option maxHeartbeats 400000 in
theorem has_any {eb off n : Nat} (h : S.Ok w B) (hr : w.cell? ⟨eb, off + 1, none⟩ = some S.ring) (hn : S.p < n) (hn2 : n ≤ 4611686018427427905) : Calls Try.prog 38 #[.pointer (some ⟨eb, off, none⟩), .int .i64 (n : Int)] w fun e w' => e = .returned (.bool (S.f n).isSome) ∧ w = w' := by
  by_cases hL : 0 < S.L
  · rw [ring_pos hL] at hr
    obtain ⟨x, hx1, hx2⟩ := no_eq h hL hn
    have c0 := St.cell_no (h.row hL).1 (i := n % S.L) (Nat.mod_lt _ hL)
    rw [hx1] at c0
    have hle := h.le
    have HP : Hid (Calls Try.prog 46 #[.slice (some ⟨S.rb, 0, none⟩) S.L S.L, .int .i64 (n : Int)] w fun e w' => e = .returned (.pointer (some ⟨S.rb, n % S.L * 2, none⟩)) ∧ w = w') := place_any hL hn2 hle
    rw [← hx2]
    clear h hx1 hx2
    generalize n % S.L = m at *
    go_enter Try.func38, Try.ntmps38
    go_wp2_with (first | (go_at_call 46; refine HP.out.mono ?_; rintro e w2 ⟨rfl, rfl⟩) | fail)
    all_goals (go_ret; exact ⟨by simp, rfl⟩)
  · rw [ring_zero (by omega)] at hr
    rw [h.none_gt (n := n) (by omega)]
    clear h
    go_enter Try.func38, Try.ntmps38
    go_wp2
    go_ret
    exact ⟨rfl, rfl⟩
end
end Go.Proofs.Ytghihdenbdnnjaa.Ln
