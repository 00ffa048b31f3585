import Derived.Test.YtpkcgjnaegaecaaY8
namespace Go.Proofs.Ytpkcgjnaegaecaa.Fm
set_option linter.unusedVariables false
set_option linter.unusedSimpArgs false
theorem any_range (l : List Co) (p : Co → Bool) : ((List.range l.length).any fun i => p (l.getD i c0)) = l.any p := by
  rw [Bool.eq_iff_iff, List.any_eq_true, List.any_eq_true]
  constructor
  · rintro ⟨i, h1, h2⟩
    rw [List.mem_range] at h1
    refine ⟨l[i], List.getElem_mem h1, ?_⟩
    simpa [List.getD, List.getElem?_eq_getElem h1] using h2
  · rintro ⟨x, h1, h2⟩
    obtain ⟨i, hi, rfl⟩ := List.mem_iff_getElem.1 h1
    refine ⟨i, List.mem_range.2 hi, ?_⟩
    simpa [List.getD, List.getElem?_eq_getElem hi] using h2
theorem tog_iff {cs : List Co} : togE cs = 0 ↔ (∀ f, f ∈ cs → Snd f) ∧ (∀ f g, f ∈ cs → g ∈ cs → f.id = g.id ∧ f.hv.length = g.hv.length) ∧ Con (allP cs) := by
  constructor
  · intro h
    have hT := tog_of h
    refine ⟨fun f hf => ?_, fun f g hf hg => ?_, hT.con⟩
    · obtain ⟨i, hi, rfl⟩ := getD_mem hf
      exact hT.snd i hi
    · unfold togE at h
      split at h
      · split at h
        · rename_i h2
          simp only [List.all_eq_true, List.mem_range] at h2
          obtain ⟨i, hi, rfl⟩ := getD_mem hf
          obtain ⟨j, hj, rfl⟩ := getD_mem hg
          have a1 := h2 i hi
          have a2 := h2 j hj
          simp only [alike, Bool.and_eq_true, decide_eq_true_eq] at a1 a2
          exact ⟨a1.1.trans a2.1.symm, a1.2.trans a2.2.symm⟩
        · cases h
      · cases h
  · rintro ⟨h1, h2, h3⟩
    unfold togE
    rw [if_pos, if_pos]
    · have : forksB cs = false := (con_iff h1).2 h3
      rw [this]
      rfl
    · simp only [List.all_eq_true, List.mem_range]
      intro i hi
      have h0 : 0 < cs.length := by omega
      have := h2 _ _ (mem_getD hi) (mem_getD h0)
      simp only [alike, Bool.and_eq_true, decide_eq_true_eq]
      exact this
    · simp only [List.all_eq_true, List.mem_range]
      intro i hi
      exact (sound_iff _).2 (h1 _ (mem_getD hi))
theorem base_get {cs : List Co} : ∀ k, k ≤ cs.length → baseK cs k = 0 ∨ ∃ i, i < k ∧ (cs.getD i c0).base = baseK cs k
  | 0, _ => .inl rfl
  | k + 1, hk => by
      have ih := base_get (cs := cs) k (by omega)
      by_cases h : baseK cs k ≤ (cs.getD k c0).base
      · exact .inr ⟨k, by omega, by show _ = max _ _; omega⟩
      · rcases ih with h1 | ⟨i, hi, e⟩
        · left
          show max _ _ = _
          omega
        · exact .inr ⟨i, by omega, by show _ = max _ _; omega⟩
theorem base_le {cs ds : List Co} (h : ∀ f, f ∈ cs → f ∈ ds) : baseOf cs ≤ baseOf ds := by
  rcases base_get (cs := cs) cs.length (Nat.le_refl _) with h1 | ⟨i, hi, e⟩
  · have := baseK_nn ds ds.length
    unfold baseOf
    omega
  · obtain ⟨j, hj, e2⟩ := getD_mem (h _ (mem_getD hi))
    have := baseK_ge ds ds.length j hj
    unfold baseOf
    rw [e2] at this
    omega
theorem base_same {cs ds : List Co} (h : ∀ f, f ∈ cs ↔ f ∈ ds) : baseOf cs = baseOf ds :=
  Int.le_antisymm (base_le fun f hf => (h f).1 hf) (base_le fun f hf => (h f).2 hf)
theorem allP_same {cs ds : List Co} (h : ∀ f, f ∈ cs ↔ f ∈ ds) (p : Int × (Int × Int)) : p ∈ allP cs ↔ p ∈ allP ds := by
  rw [mem_allP, mem_allP]
  exact ⟨fun ⟨f, a, b⟩ => ⟨f, (h f).1 a, b⟩, fun ⟨f, a, b⟩ => ⟨f, (h f).2 a, b⟩⟩
theorem tog_same {cs ds : List Co} (h : ∀ f, f ∈ cs ↔ f ∈ ds) (ht : togE cs = 0) : togE ds = 0 := by
  rw [tog_iff] at ht ⊢
  obtain ⟨h1, h2, h3⟩ := ht
  refine ⟨fun f hf => h1 f ((h f).2 hf), fun f g hf hg => h2 f g ((h f).2 hf) ((h g).2 hg), fun p hp q hq => h3 p ((allP_same h p).2 hp) q ((allP_same h q).2 hq)⟩
theorem at_same {cs ds : List Co} (h : ∀ f, f ∈ cs ↔ f ∈ ds) (ht : togE cs = 0) (pos : Int) : atP cs pos = atP ds pos := by
  have c1 := (tog_of ht).con
  have c2 := (tog_of (tog_same h ht)).con
  cases e : atP cs pos with
  | none =>
    cases e2 : atP ds pos with
    | none => rfl
    | some s =>
      have := (allP_same h _).2 ((atP_iff c2 _ _).1 e2)
      rw [(atP_iff c1 _ _).2 this] at e
      cases e
  | some s =>
    exact ((atP_iff c2 _ _).2 ((allP_same h _).1 ((atP_iff c1 _ _).1 e))).symm
theorem hasA_iff {cs : List Co} {s : Int × Int} : hasA cs s = true ↔ ∃ f, f ∈ cs ∧ has f s = true := by
  have : hasA cs s = cs.any (fun f => has f s) := any_range _ (fun f => has f s)
  rw [this, List.any_eq_true]
theorem has_same {cs ds : List Co} (h : ∀ f, f ∈ cs ↔ f ∈ ds) (s : Int × Int) : hasA cs s = hasA ds s := by
  rw [Bool.eq_iff_iff, hasA_iff, hasA_iff]
  exact ⟨fun ⟨f, a, b⟩ => ⟨f, (h f).1 a, b⟩, fun ⟨f, a, b⟩ => ⟨f, (h f).2 a, b⟩⟩
theorem wh_same {cs ds : List Co} (h : ∀ f, f ∈ cs ↔ f ∈ ds) (ht : togE cs = 0) (pos : Int) : whP cs pos = whP ds pos := by
  unfold whP
  rw [at_same h ht pos]
  cases atP ds pos with
  | none => rfl
  | some s => exact has_same h s
theorem ends_same {cs ds : List Co} (h : ∀ f, f ∈ cs ↔ f ∈ ds) (ht : togE cs = 0) {n : Nat} (he : Ends cs n) : Ends ds n := by
  unfold Ends at *
  rw [← base_same h]
  exact ⟨fun j hj => by rw [← wh_same h ht]; exact he.1 j hj, by rw [← wh_same h ht]; exact he.2⟩
theorem sl_same {cs ds : List Co} (h : ∀ f, f ∈ cs ↔ f ∈ ds) (ht : togE cs = 0) {n : Nat} {ss : List (Int × Int)} (he : SlOf cs n ss) : SlOf ds n ss := by
  unfold SlOf at *
  rw [← base_same h]
  exact ⟨he.1, fun j hj => by rw [← at_same h ht]; exact he.2 j hj⟩
theorem sl_nodup {cs : List Co} {n : Nat} {ss : List (Int × Int)} (ht : togE cs = 0) (h : SlOf cs n ss) : ss.Nodup := by
  rw [List.nodup_iff_pairwise_ne, List.pairwise_iff_getElem]
  intro i j hi hj hij e
  have h1 := h.2 i (by rw [← h.1]; exact hi)
  have h2 := h.2 j (by rw [← h.1]; exact hj)
  have e1 : ss.getD i z2 = ss[i] := by simp [List.getD, List.getElem?_eq_getElem hi]
  have e2 : ss.getD j z2 = ss[j] := by simp [List.getD, List.getElem?_eq_getElem hj]
  rw [e1] at h1
  rw [e2, ← e] at h2
  have c := (tog_of ht).con
  have := (c _ ((atP_iff c _ _).1 h1) _ ((atP_iff c _ _).1 h2)).2 rfl
  simp only at this
  omega
end Go.Proofs.Ytpkcgjnaegaecaa.Fm
