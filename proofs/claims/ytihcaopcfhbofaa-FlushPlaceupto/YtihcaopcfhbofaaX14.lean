import Derived.Test.YtihcaopcfhbofaaX03
namespace Go.Proofs.Ytihcaopcfhbofaa.Fm
open Go.RowKit Go.Maps Mb
set_option linter.unusedVariables false
set_option maxRecDepth 100000
set_option linter.unusedSimpArgs false
def psTo (cs : List Co) (c i : Nat) : List (Int × (Int × Int)) := allP (cs.take c) ++ (pairs (cs.getD c c0)).take i
theorem pairs_len (f : Co) : (pairs f).length = f.sl.length := by simp [pairs]
theorem psTo_next {cs : List Co} {c i : Nat} (h : i < (cs.getD c c0).sl.length) : psTo cs c (i + 1) = psTo cs c i ++ [((cs.getD c c0).base + 1 + (i : Int), (cs.getD c c0).sl.getD i z2)] := by
  unfold psTo
  rw [List.take_add_one, ← List.append_assoc]
  congr 1
  generalize cs.getD c c0 = f at *
  have e : (pairs f)[i]? = some (f.base + 1 + (i : Int), f.sl.getD i z2) := by
    unfold pairs
    rw [List.getElem?_map, List.getElem?_range h]
    rfl
  rw [e]
  rfl
theorem psTo_row {cs : List Co} {c : Nat} (h : c < cs.length) : psTo cs c (cs.getD c c0).sl.length = psTo cs (c + 1) 0 := by
  unfold psTo
  rw [← pairs_len, List.take_length]
  have e : cs.take (c + 1) = cs.take c ++ [cs.getD c c0] := by
    rw [List.take_add_one]
    simp [List.getD, h]
  rw [e]
  simp [allP]
theorem psTo_all (cs : List Co) : psTo cs cs.length 0 = allP cs := by simp [psTo]
theorem psTo_sub {cs : List Co} {c i : Nat} (h : c < cs.length) {p : Int × (Int × Int)} (hp : p ∈ psTo cs c i) : p ∈ allP cs := by
  unfold psTo at hp
  rcases List.mem_append.1 hp with hp | hp
  · obtain ⟨f, hf, hq⟩ := mem_allP.1 hp
    exact mem_allP.2 ⟨f, List.mem_of_mem_take hf, hq⟩
  · exact mem_allP.2 ⟨_, mem_getD h, List.mem_of_mem_take hp⟩
structure Inv (ps : List (Int × (Int × Int))) (F : Int → Option (Int × Int)) (G : Int × Int → Option Int) : Prop where
  f : ∀ pos s, F pos = some s ↔ (pos, s) ∈ ps
  g : ∀ s pos, G s = some pos ↔ (pos, s) ∈ ps
theorem Inv.nil : Inv [] (fun _ => none) (fun _ => none) := ⟨fun _ _ => by simp, fun _ _ => by simp⟩
theorem Inv.con {ps : List (Int × (Int × Int))} {F : Int → Option (Int × Int)} {G : Int × Int → Option Int} (h : Inv ps F G) : Con ps := by
  rintro ⟨a, s⟩ hp ⟨b, t⟩ hq
  have h1 := (h.f a s).2 hp
  have h2 := (h.f b t).2 hq
  have h3 := (h.g s a).2 hp
  have h4 := (h.g t b).2 hq
  constructor
  · intro e
    simp only at e ⊢
    subst e
    rw [h1] at h2
    simpa using h2
  · intro e
    simp only at e ⊢
    subst e
    rw [h3] at h4
    simpa using h4
section
variable {cs : List Co} {c i : Nat} {F : Int → Option (Int × Int)} {G : Int × Int → Option Int} {pos : Int} {s : Int × Int}
theorem Inv.bad1 (h : Inv (psTo cs c i) F G) (hc : c < cs.length) (hp : (pos, s) ∈ allP cs) {t : Int × Int} (hF : F pos = some t) (hne : t ≠ s) : ¬ Con (allP cs) := fun hC =>
  hne ((hC (pos, t) (psTo_sub hc ((h.f pos t).1 hF)) (pos, s) hp).1 rfl)
theorem Inv.bad2 (h : Inv (psTo cs c i) F G) (hc : c < cs.length) (hp : (pos, s) ∈ allP cs) {q : Int} (hG : G s = some q) (hne : q ≠ pos) : ¬ Con (allP cs) := fun hC =>
  hne ((hC (q, s) (psTo_sub hc ((h.g s q).1 hG)) (pos, s) hp).2 rfl)
theorem Inv.put {ps : List (Int × (Int × Int))} (h : Inv ps F G) (hF : ∀ t, F pos = some t → t = s) (hG : ∀ q, G s = some q → q = pos) : Inv (ps ++ [(pos, s)]) (updO F pos s) (updO G s pos) := by
  constructor
  · intro a t
    unfold updO
    rw [List.mem_append, List.mem_singleton]
    by_cases e : a = pos
    · subst e
      rw [if_pos rfl]
      constructor
      · intro e2; cases e2; exact .inr rfl
      · rintro (h1 | h1)
        · rw [hF t ((h.f a t).2 h1)]
        · cases h1; rfl
    · rw [if_neg e, h.f]
      constructor
      · exact .inl
      · rintro (h1 | h1)
        · exact h1
        · cases h1; exact absurd rfl e
  · intro t a
    unfold updO
    rw [List.mem_append, List.mem_singleton]
    by_cases e : t = s
    · subst e
      rw [if_pos rfl]
      constructor
      · intro e2; cases e2; exact .inr rfl
      · rintro (h1 | h1)
        · rw [hG a ((h.g t a).2 h1)]
        · cases h1; rfl
    · rw [if_neg e, h.g]
      constructor
      · exact .inl
      · rintro (h1 | h1)
        · exact h1
        · cases h1; exact absurd rfl e
theorem Inv.both {ps : List (Int × (Int × Int))} (h : Inv ps F G) (hF : F pos = some s) : G s = some pos := (h.g s pos).2 ((h.f pos s).1 hF)
theorem Inv.back {ps : List (Int × (Int × Int))} (h : Inv ps F G) (hG : G s = some pos) : F pos = some s := (h.f pos s).2 ((h.g s pos).1 hG)
end
theorem pair_in {cs : List Co} {c i : Nat} (hc : c < cs.length) (hi : i < (cs.getD c c0).sl.length) : ((cs.getD c c0).base + 1 + (i : Int), (cs.getD c c0).sl.getD i z2) ∈ allP cs :=
  mem_allP.2 ⟨_, mem_getD hc, mem_pairs.2 ⟨i, hi, rfl⟩⟩
end Go.Proofs.Ytihcaopcfhbofaa.Fm
