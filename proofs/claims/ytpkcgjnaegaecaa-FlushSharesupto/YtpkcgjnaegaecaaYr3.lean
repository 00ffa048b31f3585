import Derived.Test.YtpkcgjnaegaecaaYq5
namespace Go.Proofs.Ytpkcgjnaegaecaa.Fm
set_option linter.unusedVariables false
set_option linter.unusedSimpArgs false
theorem tog_iff {cs : List Co} : togE cs = 0 ↔ (∀ f, f ∈ cs → Snd f) ∧ (∀ f g, f ∈ cs → g ∈ cs → f.id = g.id ∧ f.hv.length = g.hv.length) ∧ Con (allP cs) := by
  constructor
  · intro h
    have hT := tog_of h
    refine ⟨fun f hf => ?_, fun f g hf hg => ?_, hT.con⟩
    · obtain ⟨i, hi, rfl⟩ := getD_mem hf
      exact hT.snd i hi
    · unfold togE at h
      split at h
      · split at h
        · rename_i h2
          simp only [List.all_eq_true, List.mem_range] at h2
          obtain ⟨i, hi, rfl⟩ := getD_mem hf
          obtain ⟨j, hj, rfl⟩ := getD_mem hg
          have a1 := h2 i hi
          have a2 := h2 j hj
          simp only [alike, Bool.and_eq_true, decide_eq_true_eq] at a1 a2
          exact ⟨a1.1.trans a2.1.symm, a1.2.trans a2.2.symm⟩
        · cases h
      · cases h
  · rintro ⟨h1, h2, h3⟩
    unfold togE
    rw [if_pos, if_pos]
    · have : forksB cs = false := (con_iff h1).2 h3
      rw [this]
      rfl
    · simp only [List.all_eq_true, List.mem_range]
      intro i hi
      have h0 : 0 < cs.length := by omega
      have := h2 _ _ (mem_getD hi) (mem_getD h0)
      simp only [alike, Bool.and_eq_true, decide_eq_true_eq]
      exact this
    · simp only [List.all_eq_true, List.mem_range]
      intro i hi
      exact (sound_iff _).2 (h1 _ (mem_getD hi))
theorem base_get {cs : List Co} : ∀ k, k ≤ cs.length → baseK cs k = 0 ∨ ∃ i, i < k ∧ (cs.getD i c0).base = baseK cs k
  | 0, _ => .inl rfl
  | k + 1, hk => by
      have ih := base_get (cs := cs) k (by omega)
      by_cases h : baseK cs k ≤ (cs.getD k c0).base
      · exact .inr ⟨k, by omega, by show _ = max _ _; omega⟩
      · rcases ih with h1 | ⟨i, hi, e⟩
        · left
          show max _ _ = _
          omega
        · exact .inr ⟨i, by omega, by show _ = max _ _; omega⟩
theorem base_le {cs ds : List Co} (h : ∀ f, f ∈ cs → f ∈ ds) : baseOf cs ≤ baseOf ds := by
  rcases base_get (cs := cs) cs.length (Nat.le_refl _) with h1 | ⟨i, hi, e⟩
  · have := baseK_nn ds ds.length
    unfold baseOf
    omega
  · obtain ⟨j, hj, e2⟩ := getD_mem (h _ (mem_getD hi))
    have := baseK_ge ds ds.length j hj
    unfold baseOf
    rw [e2] at this
    omega
theorem base_same {cs ds : List Co} (h : ∀ f, f ∈ cs ↔ f ∈ ds) : baseOf cs = baseOf ds :=
  Int.le_antisymm (base_le fun f hf => (h f).1 hf) (base_le fun f hf => (h f).2 hf)
theorem allP_same {cs ds : List Co} (h : ∀ f, f ∈ cs ↔ f ∈ ds) (p : Int × (Int × Int)) : p ∈ allP cs ↔ p ∈ allP ds := by
  rw [mem_allP, mem_allP]
  exact ⟨fun ⟨f, a, b⟩ => ⟨f, (h f).1 a, b⟩, fun ⟨f, a, b⟩ => ⟨f, (h f).2 a, b⟩⟩
theorem tog_same {cs ds : List Co} (h : ∀ f, f ∈ cs ↔ f ∈ ds) (ht : togE cs = 0) : togE ds = 0 := by
  rw [tog_iff] at ht ⊢
  obtain ⟨h1, h2, h3⟩ := ht
  refine ⟨fun f hf => h1 f ((h f).2 hf), fun f g hf hg => h2 f g ((h f).2 hf) ((h g).2 hg), fun p hp q hq => h3 p ((allP_same h p).2 hp) q ((allP_same h q).2 hq)⟩
theorem at_same {cs ds : List Co} (h : ∀ f, f ∈ cs ↔ f ∈ ds) (ht : togE cs = 0) (pos : Int) : atP cs pos = atP ds pos := by
  have c1 := (tog_of ht).con
  have c2 := (tog_of (tog_same h ht)).con
  cases e : atP cs pos with
  | none =>
    cases e2 : atP ds pos with
    | none => rfl
    | some s =>
      have := (allP_same h _).2 ((atP_iff c2 _ _).1 e2)
      rw [(atP_iff c1 _ _).2 this] at e
      cases e
  | some s =>
    exact ((atP_iff c2 _ _).2 ((allP_same h _).1 ((atP_iff c1 _ _).1 e))).symm
theorem hasA_iff {cs : List Co} {s : Int × Int} : hasA cs s = true ↔ ∃ f, f ∈ cs ∧ has f s = true := by
  have : hasA cs s = cs.any (fun f => has f s) := any_range _ (fun f => has f s)
  rw [this, List.any_eq_true]
theorem has_same {cs ds : List Co} (h : ∀ f, f ∈ cs ↔ f ∈ ds) (s : Int × Int) : hasA cs s = hasA ds s := by
  rw [Bool.eq_iff_iff, hasA_iff, hasA_iff]
  exact ⟨fun ⟨f, a, b⟩ => ⟨f, (h f).1 a, b⟩, fun ⟨f, a, b⟩ => ⟨f, (h f).2 a, b⟩⟩
theorem wh_same {cs ds : List Co} (h : ∀ f, f ∈ cs ↔ f ∈ ds) (ht : togE cs = 0) (pos : Int) : whP cs pos = whP ds pos := by
  unfold whP
  rw [at_same h ht pos]
  cases atP ds pos with
  | none => rfl
  | some s => exact has_same h s
theorem ends_same {cs ds : List Co} (h : ∀ f, f ∈ cs ↔ f ∈ ds) (ht : togE cs = 0) {n : Nat} (he : Ends cs n) : Ends ds n := by
  unfold Ends at *
  rw [← base_same h]
  exact ⟨fun j hj => by rw [← wh_same h ht]; exact he.1 j hj, by rw [← wh_same h ht]; exact he.2⟩
theorem sl_same {cs ds : List Co} (h : ∀ f, f ∈ cs ↔ f ∈ ds) (ht : togE cs = 0) {n : Nat} {ss : List (Int × Int)} (he : SlOf cs n ss) : SlOf ds n ss := by
  unfold SlOf at *
  rw [← base_same h]
  exact ⟨he.1, fun j hj => by rw [← at_same h ht]; exact he.2 j hj⟩
theorem sl_nodup {cs : List Co} {n : Nat} {ss : List (Int × Int)} (ht : togE cs = 0) (h : SlOf cs n ss) : ss.Nodup := by
  rw [List.nodup_iff_pairwise_ne, List.pairwise_iff_getElem]
  intro i j hi hj hij e
  have h1 := h.2 i (by rw [← h.1]; exact hi)
  have h2 := h.2 j (by rw [← h.1]; exact hj)
  have e1 : ss.getD i z2 = ss[i] := by simp [List.getD, List.getElem?_eq_getElem hi]
  have e2 : ss.getD j z2 = ss[j] := by simp [List.getD, List.getElem?_eq_getElem hj]
  rw [e1] at h1
  rw [e2, ← e] at h2
  have c := (tog_of ht).con
  have := (c _ ((atP_iff c _ _).1 h1) _ ((atP_iff c _ _).1 h2)).2 rfl
  simp only at this
  omega
theorem pick_mem {p : Int × Int → Bool} {l : List (Int × Int)} {s : Int × Int} : s ∈ pick p l ↔ s ∈ l ∧ p s = true := by
  unfold pick
  rw [(srt_perm _).mem_iff, List.mem_filter]
theorem pick_nodup {p : Int × Int → Bool} {l : List (Int × Int)} (h : l.Nodup) : (pick p l).Nodup := by
  unfold pick
  exact (srt_perm _).nodup_iff.2 (List.Pairwise.filter _ h)
def rng (n : Nat) : List Int := (List.range n).map (fun i : Nat => (i : Int))
theorem rng_len (n : Nat) : (rng n).length = n := by simp [rng]
theorem rng_get {n i : Nat} (h : i < n) : (rng n).getD i 0 = i := by simp [rng, List.getD, h]
theorem rng_succ (n : Nat) : rng (n + 1) = rng n ++ [(n : Int)] := by simp [rng, List.range_succ]
theorem rng_dk {cs : List Co} {p q : Nat} (hn : cs.length ≤ 16) (hp : p < cs.length) (hq : q < cs.length) (hne : p ≠ q) : Dk cs (rng cs.length) p q p q := by
  refine ⟨rng_len _, fun i hi => ?_, by rw [rng_len]; exact hp, rng_get hp, by rw [rng_len]; exact hq, rng_get hq, by omega⟩
  rw [rng_len] at hi
  rw [rng_get hi]
  refine ⟨⟨by omega, by omega⟩, fun j hj => ?_⟩
  rw [rng_get (by omega)]
  omega
theorem rng_dk2 {cs : List Co} {p q me you : Nat} (hp : p < cs.length) (hq : q < cs.length) (d : Dk cs (rng cs.length) p q me you) : me = p ∧ you = q := by
  have h1 := d.m1
  have h2 := d.m2
  have h3 := d.y1
  have h4 := d.y2
  rw [rng_len] at h1 h3
  rw [rng_get h1] at h2
  rw [rng_get h3] at h4
  omega
/- what p owes to q -/
def owe (cs : List Co) (q : Nat) (ss : List (Int × Int)) (p : Nat) : List (Int × Int) := pick (duP cs (rng cs.length) p p q) ss
def owed (cs : List Co) (q : Nat) (ss : List (Int × Int)) (k : Nat) : List (Int × Int) := (List.range k).flatMap fun p => if p = q then [] else owe cs q ss p
theorem owed_succ (cs : List Co) (q : Nat) (ss : List (Int × Int)) (k : Nat) : owed cs q ss (k + 1) = owed cs q ss k ++ (if k = q then [] else owe cs q ss k) := by
  unfold owed
  rw [List.range_succ, List.flatMap_append]
  simp
theorem du_iff {cs : List Co} {p q : Nat} (hp : p < cs.length) {s : Int × Int} : duP cs (rng cs.length) p p q s = true ↔ has (cs.getD p c0) s = true ∧ has (cs.getD q c0) s = false ∧ ∀ i, i < p → has (cs.getD i c0) s = false := by
  unfold duP lowB
  rw [Bool.and_eq_true, Bool.and_eq_true, Bool.not_eq_true', Bool.not_eq_true']
  constructor
  · rintro ⟨⟨h1, h2⟩, h3⟩
    refine ⟨h1, h2, fun i hi => ?_⟩
    rw [List.any_eq_false] at h3
    have := h3 i (List.mem_range.2 (by omega))
    rw [rng_get (by omega)] at this
    simp only [Bool.and_eq_true, decide_eq_true_eq, not_and, Bool.not_eq_true] at this
    exact this (by omega)
  · rintro ⟨h1, h2, h3⟩
    refine ⟨⟨h1, h2⟩, ?_⟩
    rw [List.any_eq_false]
    intro i hi
    rw [List.mem_range] at hi
    rw [rng_get hi]
    simp only [Bool.and_eq_true, decide_eq_true_eq, not_and, Bool.not_eq_true]
    intro h4
    exact h3 i (by omega)
theorem owe_mem {cs : List Co} {p q : Nat} (hp : p < cs.length) {ss : List (Int × Int)} {s : Int × Int} : s ∈ owe cs q ss p ↔ s ∈ ss ∧ has (cs.getD p c0) s = true ∧ has (cs.getD q c0) s = false ∧ ∀ i, i < p → has (cs.getD i c0) s = false := by
  unfold owe
  rw [pick_mem, du_iff hp]
theorem owed_mem {cs : List Co} {q : Nat} {ss : List (Int × Int)} {k : Nat} {s : Int × Int} : s ∈ owed cs q ss k ↔ ∃ p, p < k ∧ p ≠ q ∧ s ∈ owe cs q ss p := by
  unfold owed
  rw [List.mem_flatMap]
  constructor
  · rintro ⟨p, h1, h2⟩
    rw [List.mem_range] at h1
    by_cases e : p = q
    · rw [if_pos e] at h2; cases h2
    · rw [if_neg e] at h2; exact ⟨p, h1, e, h2⟩
  · rintro ⟨p, h1, h2, h3⟩
    exact ⟨p, List.mem_range.2 h1, by rw [if_neg h2]; exact h3⟩
theorem owed_nodup {cs : List Co} {q : Nat} {ss : List (Int × Int)} (hs : ss.Nodup) : ∀ k, k ≤ cs.length → (owed cs q ss k).Nodup
  | 0, _ => by simp [owed]
  | k + 1, hk => by
      rw [owed_succ, List.nodup_append]
      refine ⟨owed_nodup hs k (by omega), ?_, fun a ha b hb e => ?_⟩
      · split
        · simp
        · exact pick_nodup hs
      · split at hb
        · cases hb
        · subst e
          obtain ⟨p, h1, h2, h3⟩ := owed_mem.1 ha
          have a1 := (owe_mem (by omega)).1 h3
          have a2 := (owe_mem (by omega)).1 hb
          have := a2.2.2.2 p h1
          rw [a1.2.1] at this
          cases this
def lacks (cs : List Co) (q : Nat) (ss : List (Int × Int)) : List (Int × Int) := pick (fun s => !has (cs.getD q c0) s) ss
theorem owe_lacks {cs : List Co} {p q : Nat} (hp : p < cs.length) {ss : List (Int × Int)} {s : Int × Int} (h : s ∈ owe cs q ss p) : s ∈ lacks cs q ss := by
  unfold lacks
  rw [pick_mem]
  have := (owe_mem hp).1 h
  exact ⟨this.1, by rw [this.2.2.1]; rfl⟩
theorem least (P : Nat → Prop) [DecidablePred P] : ∀ n, P n → ∃ m, m ≤ n ∧ P m ∧ ∀ i, i < m → ¬ P i := by
  intro n
  induction n using Nat.strongRecOn with
  | ind n ih =>
    intro h
    by_cases hx : ∃ i, i < n ∧ P i
    · obtain ⟨i, hi, hp⟩ := hx
      obtain ⟨m, h1, h2, h3⟩ := ih i hi hp
      exact ⟨m, by omega, h2, h3⟩
    · exact ⟨n, Nat.le_refl _, h, fun i hi hp => hx ⟨i, hi, hp⟩⟩
theorem owed_len {cs : List Co} {q n : Nat} {ss : List (Int × Int)} (ht : togE cs = 0) (he : Ends cs n) (h : SlOf cs n ss) (hq : q < cs.length) : (owed cs q ss cs.length).length = (lacks cs q ss).length := by
  have hs := sl_nodup ht h
  refine (List.perm_ext_iff_of_nodup (owed_nodup hs _ (Nat.le_refl _)) (pick_nodup hs)).2 (fun s => ?_) |>.length_eq
  constructor
  · intro hm
    obtain ⟨p, h1, h2, h3⟩ := owed_mem.1 hm
    exact owe_lacks h1 h3
  · intro hm
    rw [show (s ∈ pick (fun s => !has (cs.getD q c0) s) ss) = (s ∈ lacks cs q ss) from rfl] at hm
    unfold lacks at hm
    rw [pick_mem] at hm
    obtain ⟨h1, h2⟩ := hm
    have h2' : has (cs.getD q c0) s = false := by simpa using h2
    obtain ⟨j, hj, e⟩ := List.mem_iff_getElem.1 h1
    have hj' : j < n := by rw [← h.1]; exact hj
    have h3 := he.1 j hj'
    have h4 := h.2 j hj'
    have e1 : ss.getD j z2 = s := by simp [List.getD, List.getElem?_eq_getElem hj, e]
    rw [e1] at h4
    unfold whP at h3
    rw [h4] at h3
    obtain ⟨f, hf, hh⟩ := hasA_iff.1 h3
    obtain ⟨i, hi, rfl⟩ := getD_mem hf
    obtain ⟨m, m1, m2, m3⟩ := least (fun i => has (cs.getD i c0) s = true) i hh
    refine owed_mem.2 ⟨m, by omega, fun e => ?_, (owe_mem (by omega)).2 ⟨h1, m2, h2', fun k hk => ?_⟩⟩
    · rw [← e, m2] at h2'
      cases h2'
    · have := m3 k hk
      simpa using this
theorem lk_of {cs : List Co} {q n : Nat} {ss l : List (Int × Int)} {E : Int} (ht : togE cs = 0) (hn : cs.length ≤ 16) (hq : q < cs.length) (he : Ends cs n) (h : SlOf cs n ss) (k : LkS cs (cs.getD q c0) (baseOf cs) E l) : E = 0 ∧ l = lacks cs q ss := by
  have hsm : ∀ f, f ∈ cs ↔ f ∈ cs ++ [cs.getD q c0] := fun f => by
    rw [List.mem_append, List.mem_singleton]
    exact ⟨.inl, fun h => h.elim id (fun e => by rw [e]; exact mem_getD hq)⟩
  have hb0 : 0 ≤ baseOf cs := baseK_nn _ _
  have hbM : baseOf cs ≤ 4611686018427387904 := baseK_le _ (tog_of ht).snd _ (Nat.le_refl _)
  have hB : lkB cs (baseOf cs) = true := by
    simp only [lkB, inR, Bool.and_eq_true, decide_eq_true_eq]
    omega
  have key : LkS cs (cs.getD q c0) (baseOf cs) 0 (lacks cs q ss) := by
    refine .inr (.inr (.inr ⟨hB, tog_same hsm ht, ?_, rfl, n, ss, ends_same hsm ht he, sl_same hsm ht h, ?_⟩))
    · rw [← base_same hsm]
      omega
    · rw [← base_same hsm, Int.sub_self]
      rfl
  exact k.eq key
theorem du_of {cs : List Co} {p q n : Nat} {ss l : List (Int × Int)} {E : Int} (ht : togE cs = 0) (hn : cs.length ≤ 16) (hp : p < cs.length) (hq : q < cs.length) (hne : p ≠ q) (he : Ends cs n) (h : SlOf cs n ss) (k : DuS cs (rng cs.length) p q E l) : E = 0 ∧ l = owe cs q ss p :=
  k.eq (.inr ⟨p, q, rng_dk hn hp hq hne, .inr ⟨ht, rfl, n, ss, he, h, rfl⟩⟩)
end Go.Proofs.Ytpkcgjnaegaecaa.Fm
