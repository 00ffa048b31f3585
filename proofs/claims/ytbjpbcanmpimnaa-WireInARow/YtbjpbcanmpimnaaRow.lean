import Derived.Test.YtbjpbcanmpimnaaPut
namespace Go.Proofs.Ytbjpbcanmpimnaa.Wk
open Go.RowKit
set_option linter.unusedVariables false

def encs (vs : List Int) : List Int := vs.flatMap (Wm.put 8)
def okv (v : Int) : Prop := 0 ≤ v ∧ v ≤ 4611686018427387904
theorem encs_snoc (vs : List Int) (v : Int) : encs (vs ++ [v]) = encs vs ++ Wm.put 8 v := by simp [encs]
theorem encs_len (vs : List Int) : (encs vs).length ≤ 9 * vs.length := by
  induction vs with
  | nil => simp [encs]
  | cons v vs ih => simp only [encs, List.flatMap_cons, List.length_append, List.length_cons] at *; have := Wm.put_le 8 v; omega
theorem encs_bytes (vs : List Int) (h : ∀ x ∈ vs, okv x) : ∀ i, 0 ≤ (encs vs).getD i 0 ∧ (encs vs).getD i 0 ≤ 255 := by
  intro i
  by_cases hi : i < (encs vs).length
  · have hm : (encs vs).getD i 0 ∈ encs vs := by simp [List.getD, hi]
    unfold encs at hm
    obtain ⟨v, hv, hx⟩ := List.mem_flatMap.1 hm
    have := h v hv
    exact Wm.put_bytes 8 v this.1 (by have := this.2; simp; omega) _ hx
  · simp [List.getD, hi]

theorem encs_take (vs : List Int) (h : ∀ x ∈ vs, okv x) (k : Nat) (hk : k < vs.length) :
    Wm.tk (encs vs) ((encs (vs.take k)).length : Int) = (vs.getD k 0, ((encs (vs.take (k + 1))).length : Int), 0) := by
  have e : vs = vs.take k ++ [vs.getD k 0] ++ vs.drop (k + 1) := by
    have h1 : vs.getD k 0 = vs[k] := by simp [List.getD, hk]
    rw [h1]; simp
  have ht : vs.take (k + 1) = vs.take k ++ [vs.getD k 0] := by
    have h1 : vs.getD k 0 = vs[k] := by simp [List.getD, hk]
    rw [h1, List.take_succ_eq_append_getElem hk]
  have hx := h (vs.getD k 0) (by simp [List.getD, hk])
  have e2 : encs vs = encs (vs.take k) ++ Wm.put 8 (vs.getD k 0) ++ encs (vs.drop (k + 1)) :=
    (congrArg encs e).trans (by simp [encs])
  rw [e2, Wm.tk_put _ _ _ hx.1 (by unfold Wm.maxCount; exact hx.2), ht, encs_snoc]
  simp

theorem encs_all (vs : List Int) : Wm.tk (encs vs) ((encs (vs.take vs.length)).length : Int) = (0, 0, 10) := by
  rw [List.take_length]; exact Wm.tk_end _

def clamp (v : Int) : Int := if v < 0 then 0 else if 4611686018427387904 < v then 4611686018427387904 else v
theorem clamp_ok (v : Int) : okv (clamp v) := by unfold okv clamp; split <;> (try split) <;> omega

theorem into_any (v : Int) (w : World) : Calls Try.prog 6 #[.int .i64 v, .int .i64 0, .int .i64 4611686018427387904] w fun e w' => e = .returned (.int .i64 (clamp v)) ∧ w = w' := by
  by_cases h0 : v < 0
  · have e : clamp v = 0 := by unfold clamp; rw [if_pos h0]
    rw [e]; clear e
    go_enter Try.func6, Try.ntmps6
    go_wp2
    go_ret
    exact ⟨rfl, rfl⟩
  · by_cases h1 : 4611686018427387904 < v
    · have e : clamp v = 4611686018427387904 := by unfold clamp; rw [if_neg h0, if_pos h1]
      rw [e]; clear e
      go_enter Try.func6, Try.ntmps6
      go_wp2
      go_ret
      exact ⟨rfl, rfl⟩
    · have e : clamp v = v := by unfold clamp; rw [if_neg h0, if_neg h1]
      rw [e]; clear e
      go_enter Try.func6, Try.ntmps6
      go_wp2
      go_ret
      exact ⟨rfl, rfl⟩

theorem num_any (v : Int) (w : World) : Calls Try.prog 8 #[.int .i64 v] w fun e w' => e = .returned (.int .i64 v) ∧ w = w' := by
  go_enter Try.func8, Try.ntmps8
  go_wp2
  go_ret
  exact ⟨rfl, rfl⟩

theorem Own.shape {w : World} {base : Nat} {v : Value} {bs : List Int} (h : Own w base v bs) (h0 : 0 < bs.length) : ∃ g cap, v = .slice (some ⟨g, 0, none⟩) bs.length cap := by
  rcases h.2 with ⟨_, h1⟩ | ⟨g, cap, cur, hv, _⟩
  · omega
  · exact ⟨g, cap, hv⟩

theorem Own.mono {w : World} {base base' : Nat} {v : Value} {bs : List Int} (h : Own w base v bs) (hb : base' ≤ base) : Own w base' v bs := by
  refine ⟨h.1, ?_⟩
  rcases h.2 with h | ⟨g, cap, cur, hv, hg, h⟩
  · exact .inl h
  · exact .inr ⟨g, cap, cur, hv, by omega, h⟩

theorem Own.rd {w : World} {base : Nat} {ao : Option Addr} {n cap : Nat} {bs : List Int} (h : Own w base (.slice ao n cap) bs) (hr : ∀ i, 0 ≤ bs.getD i 0 ∧ bs.getD i 0 ≤ 255) : Rd w ao n bs := by
  rcases h.2 with ⟨h1, h2⟩ | ⟨g, cap', cur, hv, _⟩
  · simp at h1
    exact ⟨by omega, .inl (by omega), hr⟩
  · simp only [Value.slice.injEq] at hv
    obtain ⟨rfl, rfl, rfl⟩ := hv
    refine ⟨rfl, .inr ⟨g, 0, rfl, fun i hi => ?_⟩, hr⟩
    have := World.ownsRow.cellAt h i (by omega)
    rw [Nat.zero_add, this]
    simp [List.getD, hi]

theorem putInt_yes (ao : Option Addr) (len cap : Nat) (bs : List Int) (n : Int) (w : World) (hr : Rd w ao len bs) (hlen : len ≤ 140737488355300) (hn : okv n) :
    Calls Try.prog 7 #[.slice ao len cap, .int .i64 n] w fun e w' => ∃ g cap' m, e = .returned (.tuple #[.slice (some ⟨g, 0, none⟩) m cap', .int .i64 0]) ∧ Hid (m = (bs ++ Wm.put 8 n).length) ∧ len + 1 ≤ m ∧ m ≤ len + 9 ∧ Own w' w.heap.size (.slice (some ⟨g, 0, none⟩) m cap') (bs ++ Wm.put 8 n) ∧ Below w.heap.size w w' := by
  refine (putInt_any ao len cap bs n w hr hlen).mono fun e w' h => ?_
  rcases h with ⟨h, _⟩ | ⟨_, v', rfl, ho, hb⟩
  · exact absurd hn h
  · have h1 := Wm.put_ne 8 n
    have h2 := Wm.put_le 8 n
    have h3 := hr.1
    obtain ⟨g, cap', rfl⟩ := ho.shape (by simp; omega)
    exact ⟨g, cap', _, rfl, rfl, by simp; omega, by simp; omega, ho, hb⟩
end Go.Proofs.Ytbjpbcanmpimnaa.Wk
