import Derived.Test.YtjgjpepmfiklfaaGreatDoorMxk
namespace Go.Proofs.YtjgjpepmfiklfaaGreatDoor.Mx
open Go.RowKit Mb Mh Lo
set_option linter.unusedVariables false
set_option maxRecDepth 100000
set_option linter.unusedSimpArgs false
def txtO (bs : List Int) (a : Nat) (lo hi : Int) : Option (List Int × Nat) := match cntO bs a lo hi with
  | none => none
  | some (v, a') => if a' + v.toNat ≤ bs.length then some ((bs.drop a').take v.toNat, a' + v.toNat) else none
theorem txt_some {bs s : List Int} {a a2 : Nat} {lo hi : Int} (h : txtO bs a lo hi = some (s, a2)) : ∃ (v : Int) (a' : Nat), cntO bs a lo hi = some (v, a') ∧ a' + v.toNat ≤ bs.length ∧ s = (bs.drop a').take v.toNat ∧ a2 = a' + v.toNat := by
  unfold txtO at h
  split at h
  · cases h
  · rename_i v a' hc
    split at h
    · rename_i h1
      simp only [Option.some.injEq, Prod.mk.injEq] at h
      exact ⟨v, a', hc, h1, h.1.symm, h.2.symm⟩
    · cases h
theorem txt_none {bs : List Int} {a : Nat} {lo hi : Int} (h : txtO bs a lo hi = none) : cntO bs a lo hi = none ∨ ∃ (v : Int) (a' : Nat), cntO bs a lo hi = some (v, a') ∧ ¬ a' + v.toNat ≤ bs.length := by
  unfold txtO at h
  split at h
  · rename_i hc
    exact .inl hc
  · rename_i v a' hc
    split at h
    · cases h
    · rename_i h1
      exact .inr ⟨v, a', hc, h1⟩
section
variable {w w' W : World} {B : Nat}
set_option maxHeartbeats 4000000 in
theorem end_ok {rb n c a : Nat} {ao : Option Addr} (hb : Rb w rb ao n c a) (hk : a = n) : Calls Tryz.prog 25 #[.pointer (some ⟨rb, 0, none⟩)] w fun e w' => e = .returned (.tuple #[]) ∧ Kept w w' (fun j => j = rb) := by
  have HB : Hid (Rb w rb ao n c a) := hb
  have hcmp : (a : Int) = (n : Int) := by omega
  clear hb 
  go_enter Tryz.func25, Tryz.ntmps25
  go_wp2_with (fail)
  refine wp_region_held_drew (S := (fun w' => w' = w.drew)) (by kernel_rfl) rfl (fun hHeld => ?_)
  simp only [Act.put, List.size_toArray, List.length_cons, List.length_nil, Nat.zero_add]
  refine wpAnyH_take (i := 0) (v := .pointer (some ⟨rb, 0, none⟩)) rfl (by kernel_rfl) (by kernel_rfl) (by kernel_rfl) (fun _ _ _ h => h) (Or.inl ⟨by rfl, fun w' hS => by go_simp⟩) hHeld ?_
  simp only [Act.put, List.getElem_toArray, List.getElem_cons_zero, List.getElem_cons_succ, List.setIfInBounds_toArray, List.set_cons_zero, List.set_cons_succ]
  refine wpAnyH_take (i := 1) (v := .pointer (some ⟨rb, 0, none⟩)) rfl (by kernel_rfl) (by kernel_rfl) (by kernel_rfl) (fun _ _ _ h => h) (Or.inl ⟨by rfl, fun w' hS => by go_simp⟩) hHeld ?_
  simp only [Act.put, List.getElem_toArray, List.getElem_cons_zero, List.getElem_cons_succ, List.setIfInBounds_toArray, List.set_cons_zero, List.set_cons_succ]
  refine wpAnyH_take (i := 2) (v := .pointer (some ⟨rb, 1, none⟩)) rfl (by kernel_rfl) (by kernel_rfl) (by kernel_rfl) (fun _ _ _ h => h) (Or.inl ⟨by rfl, fun w' hS => by go_simp⟩) hHeld ?_
  simp only [Act.put, List.getElem_toArray, List.getElem_cons_zero, List.getElem_cons_succ, List.setIfInBounds_toArray, List.set_cons_zero, List.set_cons_succ]
  refine wpAnyH_take (i := 3) (v := .int .i64 (a : Int)) rfl (by kernel_rfl) (by kernel_rfl) (by kernel_rfl) (fun _ _ _ h => h) (Or.inl ⟨by rfl, fun w' hS => by (have s0 := HB.out.cells.2; subst hS; go_simp)⟩) hHeld ?_
  simp only [Act.put, List.getElem_toArray, List.getElem_cons_zero, List.getElem_cons_succ, List.setIfInBounds_toArray, List.set_cons_zero, List.set_cons_succ]
  refine wpAnyH_take (i := 4) (v := .pointer (some ⟨rb, 0, none⟩)) rfl (by kernel_rfl) (by kernel_rfl) (by kernel_rfl) (fun _ _ _ h => h) (Or.inl ⟨by rfl, fun w' hS => by go_simp⟩) hHeld ?_
  simp only [Act.put, List.getElem_toArray, List.getElem_cons_zero, List.getElem_cons_succ, List.setIfInBounds_toArray, List.set_cons_zero, List.set_cons_succ]
  refine wpAnyH_take (i := 5) (v := .pointer (some ⟨rb, 0, none⟩)) rfl (by kernel_rfl) (by kernel_rfl) (by kernel_rfl) (fun _ _ _ h => h) (Or.inl ⟨by rfl, fun w' hS => by go_simp⟩) hHeld ?_
  simp only [Act.put, List.getElem_toArray, List.getElem_cons_zero, List.getElem_cons_succ, List.setIfInBounds_toArray, List.set_cons_zero, List.set_cons_succ]
  refine wpAnyH_take (i := 6) (v := .pointer (some ⟨rb, 0, none⟩)) rfl (by kernel_rfl) (by kernel_rfl) (by kernel_rfl) (fun _ _ _ h => h) (Or.inl ⟨by rfl, fun w' hS => by go_simp⟩) hHeld ?_
  simp only [Act.put, List.getElem_toArray, List.getElem_cons_zero, List.getElem_cons_succ, List.setIfInBounds_toArray, List.set_cons_zero, List.set_cons_succ]
  refine wpAnyH_take (i := 7) (v := .slice ao n c) rfl (by kernel_rfl) (by kernel_rfl) (by kernel_rfl) (fun _ _ _ h => h) (Or.inl ⟨by rfl, fun w' hS => by (have s0 := HB.out.cells.1; subst hS; go_simp)⟩) hHeld ?_
  simp only [Act.put, List.getElem_toArray, List.getElem_cons_zero, List.getElem_cons_succ, List.setIfInBounds_toArray, List.set_cons_zero, List.set_cons_succ]
  refine wpAnyH_take (i := 8) (v := .int .i64 (n : Int)) rfl (by kernel_rfl) (by kernel_rfl) (by kernel_rfl) (fun _ _ _ h => h) (Or.inl ⟨by rfl, fun w' hS => by go_simp⟩) hHeld ?_
  simp only [Act.put, List.getElem_toArray, List.getElem_cons_zero, List.getElem_cons_succ, List.setIfInBounds_toArray, List.set_cons_zero, List.set_cons_succ]
  refine wpAnyH_take (i := 9) (v := .bool true) rfl (by kernel_rfl) (by kernel_rfl) (by kernel_rfl) (fun _ _ _ h => h) (Or.inl ⟨by rfl, fun w' hS => by (have s0 := hcmp; go_simp)⟩) hHeld ?_
  simp only [Act.put, List.getElem_toArray, List.getElem_cons_zero, List.getElem_cons_succ, List.setIfInBounds_toArray, List.set_cons_zero, List.set_cons_succ]
  refine wpAnyH_ready (rs := [10]) (by kernel_rfl) (by simp) ?_
  refine AllReadyH.cons rfl (fun K hK => ?_) AllReadyH.nil
  go_simp
  refine (need_yes).mono ?_
  rintro e wx ⟨rfl, rfl⟩
  refine hK.out _ _ rfl (fun hHeld => ?_)
  clear hK K
  refine wpAnyH_done (by kernel_rfl) ?_ _
  clear hHeld
  (try go_wp2_with (fail))
  (try simp only [Exit.inBlock, Exit.then])
  exact bodyPost_end (results_none Tryz.results25 _ _ _) rfl ⟨rfl, Kept.ofBelow (Below.refl _ w).drew _⟩
set_option maxHeartbeats 4000000 in
theorem end_no {rb n c a : Nat} {ao : Option Addr} (hb : Rb w rb ao n c a) (hk : ¬ a = n) : Calls Tryz.prog 25 #[.pointer (some ⟨rb, 0, none⟩)] w fun e w' => e = boom ∧ Kept w w' (fun j => j = rb) := by
  have HB : Hid (Rb w rb ao n c a) := hb
  have hcmp : ¬ (a : Int) = (n : Int) := by omega
  clear hb hk
  go_enter Tryz.func25, Tryz.ntmps25
  go_wp2_with (fail)
  refine wp_region_held_drew (S := (fun w' => w' = w.drew)) (by kernel_rfl) rfl (fun hHeld => ?_)
  simp only [Act.put, List.size_toArray, List.length_cons, List.length_nil, Nat.zero_add]
  refine wpAnyH_take (i := 0) (v := .pointer (some ⟨rb, 0, none⟩)) rfl (by kernel_rfl) (by kernel_rfl) (by kernel_rfl) (fun _ _ _ h => h) (Or.inl ⟨by rfl, fun w' hS => by go_simp⟩) hHeld ?_
  simp only [Act.put, List.getElem_toArray, List.getElem_cons_zero, List.getElem_cons_succ, List.setIfInBounds_toArray, List.set_cons_zero, List.set_cons_succ]
  refine wpAnyH_take (i := 1) (v := .pointer (some ⟨rb, 0, none⟩)) rfl (by kernel_rfl) (by kernel_rfl) (by kernel_rfl) (fun _ _ _ h => h) (Or.inl ⟨by rfl, fun w' hS => by go_simp⟩) hHeld ?_
  simp only [Act.put, List.getElem_toArray, List.getElem_cons_zero, List.getElem_cons_succ, List.setIfInBounds_toArray, List.set_cons_zero, List.set_cons_succ]
  refine wpAnyH_take (i := 2) (v := .pointer (some ⟨rb, 1, none⟩)) rfl (by kernel_rfl) (by kernel_rfl) (by kernel_rfl) (fun _ _ _ h => h) (Or.inl ⟨by rfl, fun w' hS => by go_simp⟩) hHeld ?_
  simp only [Act.put, List.getElem_toArray, List.getElem_cons_zero, List.getElem_cons_succ, List.setIfInBounds_toArray, List.set_cons_zero, List.set_cons_succ]
  refine wpAnyH_take (i := 3) (v := .int .i64 (a : Int)) rfl (by kernel_rfl) (by kernel_rfl) (by kernel_rfl) (fun _ _ _ h => h) (Or.inl ⟨by rfl, fun w' hS => by (have s0 := HB.out.cells.2; subst hS; go_simp)⟩) hHeld ?_
  simp only [Act.put, List.getElem_toArray, List.getElem_cons_zero, List.getElem_cons_succ, List.setIfInBounds_toArray, List.set_cons_zero, List.set_cons_succ]
  refine wpAnyH_take (i := 4) (v := .pointer (some ⟨rb, 0, none⟩)) rfl (by kernel_rfl) (by kernel_rfl) (by kernel_rfl) (fun _ _ _ h => h) (Or.inl ⟨by rfl, fun w' hS => by go_simp⟩) hHeld ?_
  simp only [Act.put, List.getElem_toArray, List.getElem_cons_zero, List.getElem_cons_succ, List.setIfInBounds_toArray, List.set_cons_zero, List.set_cons_succ]
  refine wpAnyH_take (i := 5) (v := .pointer (some ⟨rb, 0, none⟩)) rfl (by kernel_rfl) (by kernel_rfl) (by kernel_rfl) (fun _ _ _ h => h) (Or.inl ⟨by rfl, fun w' hS => by go_simp⟩) hHeld ?_
  simp only [Act.put, List.getElem_toArray, List.getElem_cons_zero, List.getElem_cons_succ, List.setIfInBounds_toArray, List.set_cons_zero, List.set_cons_succ]
  refine wpAnyH_take (i := 6) (v := .pointer (some ⟨rb, 0, none⟩)) rfl (by kernel_rfl) (by kernel_rfl) (by kernel_rfl) (fun _ _ _ h => h) (Or.inl ⟨by rfl, fun w' hS => by go_simp⟩) hHeld ?_
  simp only [Act.put, List.getElem_toArray, List.getElem_cons_zero, List.getElem_cons_succ, List.setIfInBounds_toArray, List.set_cons_zero, List.set_cons_succ]
  refine wpAnyH_take (i := 7) (v := .slice ao n c) rfl (by kernel_rfl) (by kernel_rfl) (by kernel_rfl) (fun _ _ _ h => h) (Or.inl ⟨by rfl, fun w' hS => by (have s0 := HB.out.cells.1; subst hS; go_simp)⟩) hHeld ?_
  simp only [Act.put, List.getElem_toArray, List.getElem_cons_zero, List.getElem_cons_succ, List.setIfInBounds_toArray, List.set_cons_zero, List.set_cons_succ]
  refine wpAnyH_take (i := 8) (v := .int .i64 (n : Int)) rfl (by kernel_rfl) (by kernel_rfl) (by kernel_rfl) (fun _ _ _ h => h) (Or.inl ⟨by rfl, fun w' hS => by go_simp⟩) hHeld ?_
  simp only [Act.put, List.getElem_toArray, List.getElem_cons_zero, List.getElem_cons_succ, List.setIfInBounds_toArray, List.set_cons_zero, List.set_cons_succ]
  refine wpAnyH_take (i := 9) (v := .bool false) rfl (by kernel_rfl) (by kernel_rfl) (by kernel_rfl) (fun _ _ _ h => h) (Or.inl ⟨by rfl, fun w' hS => by (have s0 := hcmp; go_simp)⟩) hHeld ?_
  simp only [Act.put, List.getElem_toArray, List.getElem_cons_zero, List.getElem_cons_succ, List.setIfInBounds_toArray, List.set_cons_zero, List.set_cons_succ]
  refine wpAnyH_ready (rs := [10]) (by kernel_rfl) (by simp) ?_
  refine AllReadyH.cons rfl (fun K hK => ?_) AllReadyH.nil
  go_simp
  refine (need_no).mono ?_
  rintro e wx ⟨rfl, rfl⟩
  unfold boom
  go_wp2_with fail
  exact ⟨rfl, rfl, Kept.ofBelow (Below.refl _ w).drew _⟩
set_option maxHeartbeats 4000000 in
theorem text_ok {rb n c a : Nat} {ao : Option Addr} {bs s : List Int} {lo hi : Int} {a2 : Nat} (hr : Rd w ao n c bs) (hnc : n ≤ c) (hn : n ≤ 140737488355328) (hlo : 0 ≤ lo) (hhi : hi ≤ 1000) (hb : Rb w rb ao n c a) (ht : txtO bs a lo hi = some (s, a2)) : Calls Tryz.prog 24 #[.pointer (some ⟨rb, 0, none⟩), .int .i64 lo, .int .i64 hi] w fun e w' => e = .returned (.string (strOfNums s)) ∧ Rb w' rb ao n c a2 ∧ Kept w w' (fun j => j = rb) := by
  obtain ⟨v, a', hc, hl, rfl, rfl⟩ := txt_some ht
  have H : Hid (Calls Tryz.prog 44 #[.pointer (some ⟨rb, 0, none⟩), .int .i64 lo, .int .i64 hi] w fun e w' => e = .returned (.int .i64 v) ∧ Rb w' rb ao n c a' ∧ Kept w w' (fun j => j = rb)) := count_ok hr (by omega) hb hc
  obtain ⟨_, q1, q2, q3, _⟩ := cnt_some hc
  obtain ⟨k, rfl⟩ : ∃ k : Nat, v = (k : Int) := ⟨v.toNat, by omega⟩
  simp only [Int.toNat_natCast] at *
  have hlen : bs.length = n := hr.1
  have HK : Hid (∀ w1 : World, Rb w1 rb ao n c a' → Kept w w1 (fun j => j = rb) → Calls Tryz.prog 45 #[.pointer (some ⟨rb, 0, none⟩), .int .i64 (k : Int)] w1 fun e w' => e = .returned (.string (strOfNums ((bs.drop a').take k))) ∧ Rb w' rb ao n c (a' + k) ∧ Kept w1 w' (fun j => j = rb)) := fun w1 h1 h2 => take_ok (rd_keep hr hb h2) hnc hn h1 (by omega) (by omega) (by omega)
  obtain ⟨str, hstr⟩ : ∃ x, strOfNums ((bs.drop a').take k) = x := ⟨_, rfl⟩
  rw [hstr] at HK ⊢
  clear ht hr hb hc q1 q2 hl hstr hlen q3
  go_enter Tryz.func24, Tryz.ntmps24
  go_wp2_with (fail)
  refine H.out.mono ?_
  rintro e w1 ⟨rfl, h1, h2⟩
  have HK1 := HK.out w1 h1 h2
  go_wp2_with (fail)
  refine HK1.mono ?_
  rintro e w2 ⟨rfl, h3, h4⟩
  go_wp2_with (fail)
  go_ret
  exact ⟨rfl, h3, h2.trans h4⟩
set_option maxHeartbeats 4000000 in
theorem text_no {rb n c a : Nat} {ao : Option Addr} {bs : List Int} {lo hi : Int} (hr : Rd w ao n c bs) (hnc : n ≤ c) (hn : n ≤ 140737488355328) (hlo : 0 ≤ lo) (hhi : hi ≤ 1000) (hb : Rb w rb ao n c a) (ht : txtO bs a lo hi = none) : Calls Tryz.prog 24 #[.pointer (some ⟨rb, 0, none⟩), .int .i64 lo, .int .i64 hi] w fun e w' => e = boom ∧ Kept w w' (fun j => j = rb) := by
  rcases txt_none ht with hc | ⟨v, a', hc, hl⟩
  · have H := count_no hr (by omega) hb hc
    clear hr hb hc ht
    go_enter Tryz.func24, Tryz.ntmps24
    go_wp2_with (fail)
    refine H.mono ?_
    rintro e w1 ⟨rfl, h2⟩
    unfold boom
    go_wp2_with fail
    exact ⟨rfl, rfl, h2⟩
  · have H : Hid (Calls Tryz.prog 44 #[.pointer (some ⟨rb, 0, none⟩), .int .i64 lo, .int .i64 hi] w fun e w' => e = .returned (.int .i64 v) ∧ Rb w' rb ao n c a' ∧ Kept w w' (fun j => j = rb)) := count_ok hr (by omega) hb hc
    obtain ⟨_, q1, q2, q3, _⟩ := cnt_some hc
    obtain ⟨k, rfl⟩ : ∃ k : Nat, v = (k : Int) := ⟨v.toNat, by omega⟩
    simp only [Int.toNat_natCast] at *
    have hlen : bs.length = n := hr.1
    have HK : Hid (∀ w1 : World, Rb w1 rb ao n c a' → Kept w w1 (fun j => j = rb) → Calls Tryz.prog 45 #[.pointer (some ⟨rb, 0, none⟩), .int .i64 (k : Int)] w1 fun e w' => e = boom ∧ Kept w1 w' (fun j => j = rb)) := fun w1 h1 h2 => take_no (rd_keep hr hb h2) hnc hn h1 (by omega) (by omega) (by omega)
    clear ht hr hb hc q1 q2 hl hlen q3
    go_enter Tryz.func24, Tryz.ntmps24
    go_wp2_with (fail)
    refine H.out.mono ?_
    rintro e w1 ⟨rfl, h1, h2⟩
    have HK1 := HK.out w1 h1 h2
    go_wp2_with (fail)
    refine HK1.mono ?_
    rintro e w2 ⟨rfl, h4⟩
    unfold boom
    go_wp2_with fail
    exact ⟨rfl, rfl, h2.trans h4⟩
end
end Go.Proofs.YtjgjpepmfiklfaaGreatDoor.Mx
