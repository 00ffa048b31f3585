import Derived.Test.YtghihdenbdnnjaaLkv
namespace Go.Proofs.Ytghihdenbdnnjaa.Ln
open Go.RowKit Mb
set_option linter.unusedVariables false
set_option maxRecDepth 100000
set_option linter.unusedSimpArgs false
section
variable {w w' W : World} {B : Nat} {X X' : Wr}
structure RdL (w : World) (v : Value) (l : List Bn) : Prop where
  sh : ∃ a c, v = .slice a l.length c
  at_ : 0 < l.length → ∃ g c, v = .slice (some ⟨g, 0, none⟩) l.length c ∧ ∀ i y, l[i]? = some y → w.cell? ⟨g, i, none⟩ = some y.v
  ok : ∀ y ∈ l, y.Ok w 0
theorem RdL.of {v : Value} {l : List Bn} (h : w.ownsRow B 25 1 v l.length (l.map Bn.v)) (hk : ∀ y ∈ l, y.Ok w B) : RdL w v l := by
  refine ⟨row_shape h, fun hp => ?_, fun y hy => { hk y hy with lo := Nat.zero_le _ }⟩
  rcases h.2 with ⟨h1, h2⟩ | ⟨g, cap, cur, hv, _⟩
  · omega
  · refine ⟨g, cap, hv, fun i y hy => ?_⟩
    rw [hv] at h
    have hi : i < l.length := by
      rcases Nat.lt_or_ge i l.length with hi | hi
      · exact hi
      · rw [List.getElem?_eq_none hi] at hy; cases hy
    rw [own_at h (j := i) (by omega), List.getElem?_map, hy]
    rfl
theorem RdL.still {v : Value} {l : List Bn} (h : RdL w v l) (hb : Below w.heap.size w w') : RdL w' v l :=
  ⟨h.sh, fun hp => by obtain ⟨g, c, h1, h2⟩ := h.at_ hp; exact ⟨g, c, h1, fun i y hy => below_at hb (h2 i y hy)⟩, fun y hy => (h.ok y hy).still hb⟩
set_option maxHeartbeats 2000000 in
theorem lists_yes {v1 v2 : Value} {l1 l2 : List Bn} (h1 : RdL w v1 l1) (h2 : RdL w v2 l2) (he : l1.map Bn.bs = l2.map Bn.bs) (hn : l1.length ≤ 1000000) : Calls Try.prog 18 #[v1, v2] w fun e w' => e = .returned (.bool true) ∧ Below w.heap.size w w' := by
  obtain ⟨n, hl1⟩ : ∃ n, l1.length = n := ⟨_, rfl⟩
  have hl2 : l2.length = n := by have := congrArg List.length he; rw [List.length_map, List.length_map] at this; omega
  by_cases hz : n = 0
  · obtain ⟨a1, c1, rfl⟩ := h1.sh
    obtain ⟨a2, c2, rfl⟩ := h2.sh
    rw [hl1, hl2, hz]
    clear hl1 hl2 hz h1 h2 he hn
    go_enter Try.func18, Try.ntmps18
    go_wp2
    go_loopw [5] (fun v5 wr => v5 = .int .i64 0 ∧ wr = w) (fun v5 _ => 0)
    case atStart => exact ⟨rfl, rfl⟩
    case round =>
      obtain ⟨rfl, rfl⟩ := hrel
      go_wp2
      go_ret
      exact ⟨rfl, Below.refl _ _⟩
  obtain ⟨g1, c1, rfl, hc1⟩ := h1.at_ (by omega)
  obtain ⟨g2, c2, rfl, hc2⟩ := h2.at_ (by omega)
  rw [hl1, hl2]
  have hn' : n ≤ 1000000 := by omega
  have HEl : Hid (∀ i, i < n → ∃ y1 y2, l1[i]? = some y1 ∧ l2[i]? = some y2 ∧ y1.bs = y2.bs) := fun i hi => (show ∃ y1 y2, _ from by
    have a1 := List.getElem?_eq_getElem (l := l1) (i := i) (by omega)
    have a2 := List.getElem?_eq_getElem (l := l2) (i := i) (by omega)
    refine ⟨_, _, a1, a2, ?_⟩
    have h3 := congrArg (fun l => l[i]?) he
    simp only [List.getElem?_map, a1, a2, Option.map_some, Option.some.injEq] at h3
    exact h3)
  have HC1 : Hid (∀ i y, l1[i]? = some y → w.cell? ⟨g1, i, none⟩ = some y.v) := hc1
  have HC2 : Hid (∀ i y, l2[i]? = some y → w.cell? ⟨g2, i, none⟩ = some y.v) := hc2
  have HO1 : Hid (∀ y ∈ l1, y.Ok w 0) := h1.ok
  have HO2 : Hid (∀ y ∈ l2, y.Ok w 0) := h2.ok
  clear hc1 hc2 h1 h2 he hl1 hl2 hn
  go_enter Try.func18, Try.ntmps18
  go_wp2
  go_loopw [5] (fun v5 wr => ∃ i : Nat, i ≤ n ∧ v5 = .int .i64 (i : Int) ∧ Hid (Below w.heap.size w wr)) (fun v5 _ => n - (intOf v5).toNat)
  case atStart => exact ⟨0, by omega, rfl, Below.refl _ _⟩
  case round =>
    obtain ⟨i, hi1, rfl, hb⟩ := hrel
    by_cases hlt : i < n
    · have i1 : (0 : Int) ≤ (i : Int) := Int.natCast_nonneg _
      have i2 : (i : Int) < (n : Int) := by omega
      obtain ⟨y1, y2, e1', e2', hbs⟩ := HEl.out i hlt
      have o1 := (HO1.out y1 (List.mem_of_getElem? e1')).still hb.out
      have o2 := (HO2.out y2 (List.mem_of_getElem? e2')).still hb.out
      obtain ⟨k1, hk1⟩ : ∃ k, y1.k = k := ⟨_, rfl⟩
      obtain ⟨k2, hk2⟩ : ∃ k, y2.k = k := ⟨_, rfl⟩
      obtain ⟨e1, he1⟩ : ∃ k, y1.c = k := ⟨_, rfl⟩
      obtain ⟨e2, he2⟩ : ∃ k, y2.c = k := ⟨_, rfl⟩
      obtain ⟨m, hm⟩ : ∃ k, y1.bs.length = k := ⟨_, rfl⟩
      have q1 : wr.cell? ⟨g1, i, none⟩ = some (.slice (some ⟨k1, 0, none⟩) m e1) := by have := below_at hb.out (HC1.out i y1 e1'); unfold Bn.v at this; rw [hk1, hm, he1] at this; exact this
      have q2 : wr.cell? ⟨g2, i, none⟩ = some (.slice (some ⟨k2, 0, none⟩) m e2) := by have := below_at hb.out (HC2.out i y2 e2'); unfold Bn.v at this; rw [hk2, ← hbs, hm, he2] at this; exact this
      have HSm : Hid (∀ D, Below wr.heap.size wr D → Calls Try.prog 31 #[.slice (some ⟨k1, 0, none⟩) m e1, .slice (some ⟨k2, 0, none⟩) m e2] D fun e w' => e = .returned (.bool true) ∧ Below D.heap.size D w') := fun D hb => (show Calls _ _ _ _ _ from by
        have r1 := (o1.still hb).rd
        have r2 := (o2.still hb).rd
        rw [hk1, he1, hm] at r1
        rw [hk2, he2, ← hbs, hm] at r2
        exact same_eq r1 r2 (by have := o1.le; omega))
      have HB : Hid (Below w.heap.size w wr) := hb
      clear o1 o2 hk1 hk2 he1 he2 hm hbs e1' e2' hb
      go_wp2
      refine wp_region_held_drew (S := (fun w' => w'.cell? ⟨g1, i, none⟩ = some (.slice (some ⟨k1, 0, none⟩) m e1) ∧ w'.cell? ⟨g2, i, none⟩ = some (.slice (some ⟨k2, 0, none⟩) m e2))) (by kernel_rfl) ⟨below_at (drew_bel _) q1, below_at (drew_bel _) q2⟩ (fun hHeld => ?_)
      simp only [Act.put, List.size_toArray, List.length_cons, List.length_nil, Nat.zero_add]
      refine wpAnyH_take (i := 0) (v := .slice (some ⟨g1, 0, none⟩) n c1) rfl (by kernel_rfl) (by kernel_rfl) (by kernel_rfl) (fun _ _ _ h => h) (Or.inl ⟨by rfl, fun w' hS => by go_simp⟩) hHeld ?_
      simp only [Act.put, List.getElem_toArray, List.getElem_cons_zero, List.getElem_cons_succ, List.setIfInBounds_toArray, List.set_cons_zero, List.set_cons_succ]
      refine wpAnyH_take (i := 1) (v := .int .i64 (i : Int)) rfl (by kernel_rfl) (by kernel_rfl) (by kernel_rfl) (fun _ _ _ h => h) (Or.inl ⟨by rfl, fun w' hS => by go_simp⟩) hHeld ?_
      simp only [Act.put, List.getElem_toArray, List.getElem_cons_zero, List.getElem_cons_succ, List.setIfInBounds_toArray, List.set_cons_zero, List.set_cons_succ]
      refine wpAnyH_take (i := 2) (v := .pointer (some ⟨g1, i, none⟩)) rfl (by kernel_rfl) (by kernel_rfl) (by kernel_rfl) (fun _ _ _ h => h) (Or.inl ⟨by rfl, fun w' hS => by go_simp⟩) hHeld ?_
      simp only [Act.put, List.getElem_toArray, List.getElem_cons_zero, List.getElem_cons_succ, List.setIfInBounds_toArray, List.set_cons_zero, List.set_cons_succ]
      refine wpAnyH_take (i := 3) (v := .slice (some ⟨k1, 0, none⟩) m e1) rfl (by kernel_rfl) (by kernel_rfl) (by kernel_rfl) (fun _ _ _ h => h) (Or.inl ⟨by rfl, fun w' hS => by (obtain ⟨s0, s1⟩ := hS; go_simp)⟩) hHeld ?_
      simp only [Act.put, List.getElem_toArray, List.getElem_cons_zero, List.getElem_cons_succ, List.setIfInBounds_toArray, List.set_cons_zero, List.set_cons_succ]
      refine wpAnyH_take (i := 4) (v := .slice (some ⟨g2, 0, none⟩) n c2) rfl (by kernel_rfl) (by kernel_rfl) (by kernel_rfl) (fun _ _ _ h => h) (Or.inl ⟨by rfl, fun w' hS => by go_simp⟩) hHeld ?_
      simp only [Act.put, List.getElem_toArray, List.getElem_cons_zero, List.getElem_cons_succ, List.setIfInBounds_toArray, List.set_cons_zero, List.set_cons_succ]
      refine wpAnyH_take (i := 5) (v := .int .i64 (i : Int)) rfl (by kernel_rfl) (by kernel_rfl) (by kernel_rfl) (fun _ _ _ h => h) (Or.inl ⟨by rfl, fun w' hS => by go_simp⟩) hHeld ?_
      simp only [Act.put, List.getElem_toArray, List.getElem_cons_zero, List.getElem_cons_succ, List.setIfInBounds_toArray, List.set_cons_zero, List.set_cons_succ]
      refine wpAnyH_take (i := 6) (v := .pointer (some ⟨g2, i, none⟩)) rfl (by kernel_rfl) (by kernel_rfl) (by kernel_rfl) (fun _ _ _ h => h) (Or.inl ⟨by rfl, fun w' hS => by go_simp⟩) hHeld ?_
      simp only [Act.put, List.getElem_toArray, List.getElem_cons_zero, List.getElem_cons_succ, List.setIfInBounds_toArray, List.set_cons_zero, List.set_cons_succ]
      refine wpAnyH_take (i := 7) (v := .slice (some ⟨k2, 0, none⟩) m e2) rfl (by kernel_rfl) (by kernel_rfl) (by kernel_rfl) (fun _ _ _ h => h) (Or.inl ⟨by rfl, fun w' hS => by (obtain ⟨s0, s1⟩ := hS; go_simp)⟩) hHeld ?_
      simp only [Act.put, List.getElem_toArray, List.getElem_cons_zero, List.getElem_cons_succ, List.setIfInBounds_toArray, List.set_cons_zero, List.set_cons_succ]
      have hbD : Below wr.heap.size wr wr.drew := drew_bel _
      have p1 := below_at hbD q1
      have p2 := below_at hbD q2
      generalize wr.drew = D0 at *
      refine wpAnyH_ready (rs := [8]) (by kernel_rfl) (by simp) ?_
      refine AllReadyH.cons rfl (fun K hK => ?_) AllReadyH.nil
      go_simp
      refine (HSm.out D0 hbD).mono ?_
      rintro e w2 ⟨rfl, hb2⟩
      refine hK.out _ _ ⟨below_at hb2 p1, below_at hb2 p2⟩ (fun hHeld => ?_)
      clear hK K
      refine wpAnyH_take (i := 9) (v := .bool false) rfl (by kernel_rfl) (by kernel_rfl) (by kernel_rfl) (fun _ _ _ h => h) (Or.inl ⟨by rfl, fun w' hS => by go_simp⟩) hHeld ?_
      simp only [Act.put, List.getElem_toArray, List.getElem_cons_zero, List.getElem_cons_succ, List.setIfInBounds_toArray, List.set_cons_zero, List.set_cons_succ]
      refine wpAnyH_done (by kernel_rfl) ?_ _
      clear hHeld
      have HBn : Hid (Below w.heap.size w w2) := (show Below _ _ _ from bstep (bstep HB.out hbD) hb2)
      clear hb2 hbD p1 p2 q1 q2 HSm
      go_wp2
      exact ⟨⟨i + 1, by omega, by go_num, HBn⟩, by simp [intOf]; omega⟩
    · have i2 : ¬ (i : Int) < (n : Int) := by omega
      have HB : Hid (Below w.heap.size w wr) := hb
      clear hb
      go_wp2
      go_ret
      exact ⟨rfl, HB.out⟩
end
end Go.Proofs.Ytghihdenbdnnjaa.Ln
