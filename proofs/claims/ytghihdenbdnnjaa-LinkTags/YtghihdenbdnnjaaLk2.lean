import Derived.Test.YtghihdenbdnnjaaLk1
namespace Go.Proofs.Ytghihdenbdnnjaa.Ln
open Go.RowKit Mb
set_option linter.unusedVariables false
set_option maxRecDepth 100000
set_option linter.unusedSimpArgs false
def ep0 : Ep := ⟨0, 0, fun _ => none, 0, fun _ => none, false⟩
def px0 (win space : Nat) : Px := ⟨win, space, fun _ => ep0, fun _ => [], fun _ => [], fun _ => [], fun _ => []⟩
section
variable {w w' W : World} {B : Nat} {X X' : Wr} {P : Px}
theorem e0_pu (b : Nat) : (E0 b).pu = ep0 := rfl
theorem hf0 (win : Nat) : Hf win ep0 ep0 [] [] [] [] := ⟨rfl, Nat.le_refl _, fun n => by show none = _; rw [if_neg (by simp; omega)], rfl, rfl, Nat.le_refl _, fun n c h => (by cases h), rfl, by show 0 ≤ 0 + win; omega, fun x h => (by cases h), fun x h => (by cases h), fun x h => (by cases h)⟩
theorem px0_inv (win space : Nat) : (px0 win space).Inv := fun s hs => hf0 win
theorem px0_sz (win space : Nat) : (px0 win space).Sz 0 := fun s hs => ⟨Nat.le_refl _, Nat.le_refl _, Nat.le_refl _⟩
theorem Mx.Ok.lower {M : Mx} {B' : Nat} (h : M.Ok w B) (hB : B' ≤ B) : M.Ok w B' := by
  have bl : ∀ b : Bd, Body w B b → Body w B' b := fun b hb => ⟨hb.bk, hb.by_, hb.pos, hb.le, Nat.le_trans hB hb.lo⟩
  have sl : ∀ S : St, S.Ok w B → S.Ok w B' := fun S hS => ⟨fun hL => ⟨(hS.row hL).1, Nat.le_trans hB (hS.row hL).2⟩, fun n b hb => bl b (hS.el n b hb), hS.inw, hS.inj, hS.le, hS.p62⟩
  exact { h with el := fun q e he => { h.el q e he with lo := Nat.le_trans hB (h.el q e he).lo, oo := sl _ (h.el q e he).oo, ii := sl _ (h.el q e he).ii }, lo := ⟨Nat.le_trans hB h.lo.1, Nat.le_trans hB h.lo.2⟩ }
structure Gm (w : World) (B win space j : Nat) (M : Mx) : Prop where
  ok : M.Ok w B
  es : ∃ b, M.es (pid (1 - j)) = some (E0 b)
  tag : M.tag = tg9
  win_ : M.win = win
  room : M.room = space
  self : M.self = pid j
def stc (s win space : Nat) (m : Nat → Mx) : Array Value := #[if 0 < s then mp (m 0) else .pointer none, if 1 < s then mp (m 1) else .pointer none, .int .i64 (win : Int), .int .i64 (space : Int), .slice none 0 0, .slice none 0 0, .slice none 0 0, .slice none 0 0, .slice none 0 0, .slice none 0 0, .slice none 0 0, .slice none 0 0]
structure StS (w wr : World) (wb win space s : Nat) (m : Nat → Mx) : Prop where
  blk : wr.heap[wb]? = some (.cells (stc s win space m) 42 (0, 0))
  bel : Below w.heap.size w wr
  lo : w.heap.size ≤ wb
  mo : ∀ j, j < s → Gm wr w.heap.size win space j (m j)
  ap : ∀ i j, i < s → j < s → i ≠ j → ∀ k, (m i).own k → (m j).own k → False
theorem StS.next {w1 w5 : World} {wr : World} {wb win space s : Nat} {m : Nat → Mx} {M : Mx} (h : StS w wr wb win space s m) (hs : s < 2) (hb : Below wr.heap.size wr w5) (hM : M.Ok w5 wr.heap.size) (hes : ∃ b, M.es (pid (1 - s)) = some (E0 b)) (ht : M.tag = tg9) (hw : M.win = win) (hr : M.room = space) (hsf : M.self = pid s) : StS w (w5.setCell ⟨wb, s, none⟩ (mp M)) wb win space (s + 1) (upd m s M) := by
  have hk : Kept w5 (w5.setCell ⟨wb, s, none⟩ (mp M)) (fun j => j = wb) := kset _ _ _ _ rfl
  have hb5 : w5.heap[wb]? = some (.cells (stc s win space m) 42 (0, 0)) := (hb.block _ (lt_heap h.blk)).trans h.blk
  have hws := h.bel.size
  have hnw : ∀ M' : Mx, ∀ B', M'.Ok w5 B' → ¬ M'.own wb := fun M' B' hM' => hM'.ne_t hb5 (by decide) (by decide) (by decide) (by decide) (by decide)
  refine ⟨?_, ?_, h.lo, fun j hj => ?_, fun i j hi hj hij k h1 h2 => ?_⟩
  · refine blk_set hb5 ?_
    rcases s2 hs with rfl | rfl
    · simp [stc, upd]
    · simp [stc, upd]
  · exact ⟨h.bel.os ▸ hb.os, h.bel.tape ▸ hb.tape, h.bel.output ▸ hb.output, by simp; exact Nat.le_trans hws hb.size, fun i hi => (hk.block i (by have := hb.size; omega) (by show ¬ i = wb; have := h.lo; omega)).trans ((hb.block i (by omega)).trans (h.bel.block i hi))⟩
  · by_cases e : j = s
    · subst e
      rw [upd_same]
      exact ⟨(hM.lower hws).keep hk (fun q hq e => hnw M _ hM (by rw [← show q = wb from e]; exact hq)), hes, ht, hw, hr, hsf⟩
    · rw [upd_ne _ _ e]
      have hg := h.mo j (by omega)
      have hg5 := hg.ok.still hb
      exact ⟨hg5.keep hk (fun q hq e => hnw _ _ hg5 (by rw [← show q = wb from e]; exact hq)), hg.es, hg.tag, hg.win_, hg.room, hg.self⟩
  · by_cases e1 : i = s
    · have e2 : j ≠ s := fun e2 => hij (by rw [e1, e2])
      rw [e1, upd_same] at h1
      rw [upd_ne _ _ e2] at h2
      have := hM.loj h1
      have := (h.mo j (by omega)).ok.lt h2
      omega
    · rw [upd_ne _ _ e1] at h1
      by_cases e2 : j = s
      · rw [e2, upd_same] at h2
        have := hM.loj h2
        have := (h.mo i (by omega)).ok.lt h1
        omega
      · rw [upd_ne _ _ e2] at h2
        exact h.ap i j (by omega) (by omega) hij k h1 h2
structure StO (w w' : World) (win space : Nat) (e : Ending) : Prop where
  out : ∃ X : Wr, e = .returned (.pointer (some ⟨X.b, 0, none⟩)) ∧ X.Ok w' w.heap.size ∧ X.pu = px0 win space ∧ Below w.heap.size w w'
theorem StS.fin {wr : World} {wb win space : Nat} {m : Nat → Mx} (h : StS w wr wb win space 2 m) (h1 : 1 ≤ win) (h5 : win ≤ 5) (h2 : win ≤ space) (h3 : space ≤ 13) : StO w wr win space (.returned (.pointer (some ⟨wb, 0, none⟩))) := by
  have hx : ∀ j, ∃ b, j < 2 → (m j).es (pid (1 - j)) = some (E0 b) := fun j => by
    by_cases hj : j < 2
    · obtain ⟨b, hb⟩ := (h.mo j hj).es; exact ⟨b, fun _ => hb⟩
    · exact ⟨0, fun hh => absurd hh hj⟩
  refine ⟨⟨⟨wb, m, fun j => E0 (Classical.choose (hx j)), win, space, fun _ => .slice none 0 0, fun _ => [], fun _ => [], fun _ => [], fun _ => []⟩, rfl, ⟨?_, h.lo, fun s hs => (h.mo s hs).ok, fun s hs => Classical.choose_spec (hx s) hs, fun s hs => ⟨(h.mo s hs).tag, (h.mo s hs).win_, (h.mo s hs).room⟩, fun j a b => h.ap 0 1 (by omega) (by omega) (by omega) j a b, fun i _ _ => ?_, fun i j _ _ _ _ _ k hk => (by cases hk), fun y hy => ?_, ⟨h1, h5, h2, h3⟩, fun s hs => (h.mo s hs).self⟩, ?_, h.bel⟩⟩
  · exact h.blk
  · have e1 : ∀ (X : Wr), X.p = (fun _ => []) → X.o = (fun _ => []) → X.f = (fun _ => []) → X.a = (fun _ => []) → X.rowN i = 0 ∧ X.rowC i = [] := fun X p1 p2 p3 p4 => by
      unfold Wr.rowN Wr.rowC
      rw [p1, p2, p3, p4]
      repeat' split
      all_goals exact ⟨rfl, rfl⟩
    have e2 := e1 ⟨wb, m, fun j => E0 (Classical.choose (hx j)), win, space, fun _ => .slice none 0 0, fun _ => [], fun _ => [], fun _ => [], fun _ => []⟩ rfl rfl rfl rfl
    rw [e2.1, e2.2]
    exact ⟨by simp, .inl ⟨rfl, rfl⟩⟩
  · obtain ⟨t, _, hy | hy | ⟨_, hy⟩⟩ := hy <;> cases hy
  · rfl
theorem okp_s {s : Nat} (hs : s < 2) : okP 7 (pid s) 0 [2 + 3 * (1 - (s : Int))] = true := by
  rcases s2 hs with rfl | rfl <;> decide
end
end Go.Proofs.Ytghihdenbdnnjaa.Ln
