import Derived.Test.YtapenemfnngniaaPo3
namespace Go.Proofs.Ytapenemfnngniaa.Qm
open Go.RowKit Mb
set_option linter.unusedVariables false
set_option maxRecDepth 100000
set_option linter.unusedSimpArgs false
section
variable {w w' W : World} {B : Nat}
theorem ll_at {base n : Nat} {v : Value} {E : List El} (h : Ll w base n v E) {i : Nat} (hi : i < E.length) : ∃ g c xa xc, v = .slice (some ⟨g, 0, none⟩) E.length c ∧ w.cell? ⟨g, i, none⟩ = some (.slice xa (listN ((E.map El.s).getD i 0) n).length xc) ∧ RdI w xa (listN ((E.map El.s).getD i 0) n).length xc (zi (listN ((E.map El.s).getD i 0) n)) := by
  obtain ⟨g, c, rfl⟩ := own_some h.row (by omega)
  have hm := mem_getD hi
  have h1 := h.el _ hm
  obtain ⟨xa, xc, e1⟩ := own_shape h1
  have h2 := World.ownsRow.cellAt h.row i (by omega)
  have e3 : (E.map El.v)[i]? = some (E.getD i el0).v := by simp [List.getD, hi]
  have e4 : (E.map El.s).getD i 0 = (E.getD i el0).s := by simp [List.getD, hi]
  rw [e3, e1] at h2
  rw [e1] at h1
  rw [e4]
  exact ⟨g, c, xa, xc, rfl, h2, own_rd h1⟩
set_option maxHeartbeats 2000000 in
theorem lists_yes {B1 B2 n : Nat} {v1 v2 : Value} {E1 E2 : List El} (h1 : Ll w B1 n v1 E1) (h2 : Ll w B2 n v2 E2) (he : E1.map El.s = E2.map El.s) (hn : n ≤ 17592186044416) (hN : E1.length ≤ 100000) : Calls Try.prog 15 #[v1, v2] w fun e w' => e = .returned (.bool true) ∧ Below w.heap.size w w' := by
  have hlen : E2.length = E1.length := by have := congrArg List.length he; simpa using this.symm
  obtain ⟨a1, c1, rfl⟩ := own_shape h1.row
  obtain ⟨a2, c2, rfl⟩ := own_shape h2.row
  have H1 : Hid (∀ i, i < E1.length → ∃ g o xa xc, a1 = some ⟨g, o, none⟩ ∧ w.cell? ⟨g, o + i, none⟩ = some (.slice xa (listN ((E1.map El.s).getD i 0) n).length xc) ∧ RdI w xa (listN ((E1.map El.s).getD i 0) n).length xc (zi (listN ((E1.map El.s).getD i 0) n))) := fun i hi => by
    obtain ⟨g, c, xa, xc, e1, e2, e3⟩ := ll_at h1 hi
    simp only [Value.slice.injEq] at e1
    exact ⟨g, 0, xa, xc, e1.1, by rw [Nat.zero_add]; exact e2, e3⟩
  have H2 : Hid (∀ i, i < E1.length → ∃ g o xa xc, a2 = some ⟨g, o, none⟩ ∧ w.cell? ⟨g, o + i, none⟩ = some (.slice xa (listN ((E1.map El.s).getD i 0) n).length xc) ∧ RdI w xa (listN ((E1.map El.s).getD i 0) n).length xc (zi (listN ((E1.map El.s).getD i 0) n))) := fun i hi => by
    obtain ⟨g, c, xa, xc, e1, e2, e3⟩ := ll_at h2 (i := i) (by omega)
    simp only [Value.slice.injEq] at e1
    rw [he]
    exact ⟨g, 0, xa, xc, e1.1, by rw [Nat.zero_add]; exact e2, e3⟩
  rw [hlen]
  clear h1 h2 hlen
  generalize E1.map El.s = S at *
  generalize E1.length = N at *
  clear he
  go_enter Try.func15, Try.ntmps15
  go_wp2
  go_loopw [5] (fun i wr => ∃ k : Nat, k ≤ N ∧ i = .int .i64 (k : Int) ∧ Hid (Below w.heap.size w wr)) (fun i _ => N - (intOf i).toNat)
  case atStart => exact ⟨0, Nat.zero_le _, rfl, Below.refl _ _⟩
  case round =>
    obtain ⟨k, hk, rfl, HB⟩ := hrel
    by_cases hlt : k < N
    · obtain ⟨b1, o1, x1, d1, g1, e1, r1⟩ := H1.out k hlt
      obtain ⟨b2, o2, x2, d2, g2, e2, r2⟩ := H2.out k hlt
      have hll := listN_len (S.getD k 0) n
      generalize listN (S.getD k 0) n = L at *
      have HSm : Hid (∀ V, Below wr.heap.size wr V → Calls Try.prog 40 #[.slice x1 L.length d1, .slice x2 L.length d2] V fun e w' => e = .returned (.bool true) ∧ Below V.heap.size V w') := fun V hV => same_yes (r1.still (bstep HB.out hV)) (r2.still (bstep HB.out hV)) (by omega)
      have e1' := below_at HB.out e1
      have e2' := below_at HB.out e2
      have i1 : (0 : Int) ≤ (k : Int) := Int.natCast_nonneg _
      have i2 : (k : Int) < (N : Int) := by omega
      rw [g1, g2]
      clear g1 g2 e1 e2 r1 r2
      generalize L.length = m at *
      go_wp2
      refine wp_region_held_drew (S := (fun w' => Below wr.heap.size wr w')) (by kernel_rfl) (Below.refl _ wr).drew (fun hHeld => ?_)
      simp only [Act.put, List.size_toArray, List.length_cons, List.length_nil, Nat.zero_add]
      refine wpAnyH_take (i := 0) (v := .slice (some ⟨b1, o1, none⟩) N c1) rfl (by kernel_rfl) (by kernel_rfl) (by kernel_rfl) (fun _ _ _ h => h) (Or.inl ⟨by rfl, fun w' hS => by go_simp⟩) hHeld ?_
      simp only [Act.put, List.getElem_toArray, List.getElem_cons_zero, List.getElem_cons_succ, List.setIfInBounds_toArray, List.set_cons_zero, List.set_cons_succ]
      refine wpAnyH_take (i := 1) (v := .int .i64 (k : Int)) rfl (by kernel_rfl) (by kernel_rfl) (by kernel_rfl) (fun _ _ _ h => h) (Or.inl ⟨by rfl, fun w' hS => by go_simp⟩) hHeld ?_
      simp only [Act.put, List.getElem_toArray, List.getElem_cons_zero, List.getElem_cons_succ, List.setIfInBounds_toArray, List.set_cons_zero, List.set_cons_succ]
      refine wpAnyH_take (i := 2) (v := .pointer (some ⟨b1, o1 + k, none⟩)) rfl (by kernel_rfl) (by kernel_rfl) (by kernel_rfl) (fun _ _ _ h => h) (Or.inl ⟨by rfl, fun w' hS => by go_simp⟩) hHeld ?_
      simp only [Act.put, List.getElem_toArray, List.getElem_cons_zero, List.getElem_cons_succ, List.setIfInBounds_toArray, List.set_cons_zero, List.set_cons_succ]
      refine wpAnyH_take (i := 3) (v := .slice x1 m d1) rfl (by kernel_rfl) (by kernel_rfl) (by kernel_rfl) (fun _ _ _ h => h) (Or.inl ⟨by rfl, fun w' hS => by (have s0 := below_at hS e1'; go_simp)⟩) hHeld ?_
      simp only [Act.put, List.getElem_toArray, List.getElem_cons_zero, List.getElem_cons_succ, List.setIfInBounds_toArray, List.set_cons_zero, List.set_cons_succ]
      refine wpAnyH_take (i := 4) (v := .slice (some ⟨b2, o2, none⟩) N c2) rfl (by kernel_rfl) (by kernel_rfl) (by kernel_rfl) (fun _ _ _ h => h) (Or.inl ⟨by rfl, fun w' hS => by go_simp⟩) hHeld ?_
      simp only [Act.put, List.getElem_toArray, List.getElem_cons_zero, List.getElem_cons_succ, List.setIfInBounds_toArray, List.set_cons_zero, List.set_cons_succ]
      refine wpAnyH_take (i := 5) (v := .int .i64 (k : Int)) rfl (by kernel_rfl) (by kernel_rfl) (by kernel_rfl) (fun _ _ _ h => h) (Or.inl ⟨by rfl, fun w' hS => by go_simp⟩) hHeld ?_
      simp only [Act.put, List.getElem_toArray, List.getElem_cons_zero, List.getElem_cons_succ, List.setIfInBounds_toArray, List.set_cons_zero, List.set_cons_succ]
      refine wpAnyH_take (i := 6) (v := .pointer (some ⟨b2, o2 + k, none⟩)) rfl (by kernel_rfl) (by kernel_rfl) (by kernel_rfl) (fun _ _ _ h => h) (Or.inl ⟨by rfl, fun w' hS => by go_simp⟩) hHeld ?_
      simp only [Act.put, List.getElem_toArray, List.getElem_cons_zero, List.getElem_cons_succ, List.setIfInBounds_toArray, List.set_cons_zero, List.set_cons_succ]
      refine wpAnyH_take (i := 7) (v := .slice x2 m d2) rfl (by kernel_rfl) (by kernel_rfl) (by kernel_rfl) (fun _ _ _ h => h) (Or.inl ⟨by rfl, fun w' hS => by (have s0 := below_at hS e2'; go_simp)⟩) hHeld ?_
      simp only [Act.put, List.getElem_toArray, List.getElem_cons_zero, List.getElem_cons_succ, List.setIfInBounds_toArray, List.set_cons_zero, List.set_cons_succ]
      refine wpAnyH_ready (rs := [8]) (by kernel_rfl) (by simp) ?_
      refine AllReadyH.cons rfl (fun K hK => ?_) AllReadyH.nil
      go_simp
      refine (HSm.out _ (Below.refl _ wr).drew).mono ?_
      rintro e w2 ⟨rfl, hb2⟩
      have HB2 : Hid (Below wr.heap.size wr w2) := bstep (Below.refl _ wr).drew hb2
      clear hb2
      refine hK.out _ _ HB2.out (fun hHeld => ?_)
      clear hK K
      refine wpAnyH_take (i := 9) (v := .bool false) rfl (by kernel_rfl) (by kernel_rfl) (by kernel_rfl) (fun _ _ _ h => h) (Or.inl ⟨by rfl, fun w' hS => by go_simp⟩) hHeld ?_
      simp only [Act.put, List.getElem_toArray, List.getElem_cons_zero, List.getElem_cons_succ, List.setIfInBounds_toArray, List.set_cons_zero, List.set_cons_succ]
      refine wpAnyH_done (by kernel_rfl) ?_ _
      clear hHeld
      go_wp2
      exact ⟨⟨k + 1, by omega, by go_num, bstep HB.out HB2.out⟩, by simp [intOf]; omega⟩
    · obtain rfl : k = N := by omega
      go_wp2
      go_ret
      exact ⟨rfl, HB.out⟩
end
end Go.Proofs.Ytapenemfnngniaa.Qm
