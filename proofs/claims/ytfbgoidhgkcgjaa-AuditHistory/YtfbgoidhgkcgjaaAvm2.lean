import Derived.Test.YtfbgoidhgkcgjaaAvk
namespace Go.Proofs.Ytfbgoidhgkcgjaa.Lo
open Go.RowKit Go.Maps
set_option linter.unusedVariables false
set_option linter.unusedSimpArgs false
section
variable {w w' W : World} {B : Nat} {P : Nat → Prop}
theorem flm_set (e2 : Mk) (c : Nat) (v : Value) (hc : c < 26) : ∀ (l : List Mk) (i : Nat), i < l.length → (l.getD i mk0).cs.set c v = e2.cs → (flm l).set (i * 26 + c) v = flm (l.set i e2) := by
  intro l
  induction l with
  | nil => intro i hi; simp at hi
  | cons e l ih =>
    intro i hi he
    have e1 : ∀ (x : Mk) (y : List Mk), flm (x :: y) = x.cs ++ flm y := fun x y => by simp [flm]
    cases i with
    | zero =>
      rw [e1, Nat.zero_mul, Nat.zero_add, List.set_append_left _ _ (by rw [Mk.len]; omega), List.set_cons_zero, e1, ← he]
      rfl
    | succ i =>
      rw [e1, List.set_append_right _ _ (by rw [Mk.len]; omega), Mk.len, show (i + 1) * 26 + c - 26 = i * 26 + c by omega, ih i (by simpa using hi) (by simpa using he), List.set_cons_succ, e1]
theorem OwM.set {g n cc : Nat} {l : List Mk} (h : OwM w B (.slice (some ⟨g, 0, none⟩) n cc) l) {i c : Nat} (hi : i < n) (hc : c < 26) {v : Value} {e2 : Mk} (he : (l.getD i mk0).cs.set c v = e2.cs) : OwM (w.setCell ⟨g, i * 26 + c, none⟩ v) B (.slice (some ⟨g, 0, none⟩) n cc) (l.set i e2) := by
  have hl := h.rd.len
  obtain ⟨h1, h2⟩ := h
  rcases h2 with ⟨e, e0⟩ | ⟨g', cap, cur, e, hb, hh, hcp, hm, hs, ht⟩
  · cases e
  · simp only [Value.slice.injEq, Option.some.injEq, Addr.mk.injEq, and_true] at e
    obtain ⟨rfl, e2', rfl⟩ := e
    refine ⟨by rw [flm_len], .inr ⟨g, cc, cur.setIfInBounds (i * 26 + c) v, by simp [hl], hb, heap_setCell_same w g _ cur _ _ hh, by simpa [hl] using hcp, hm, by simpa using hs, ?_⟩⟩
    rw [← flm_set e2 c v hc l i (by omega) he, ← ht]
    simp [List.take_set]
theorem getM_set {l : List Mk} {i : Nat} {e : Mk} (h : i < l.length) : (l.set i e).getD i mk0 = e := by
  rw [List.getD_eq_getElem?_getD, List.getElem?_set]
  simp [h]
set_option maxRecDepth 100000 in
set_option maxHeartbeats 4000000 in
theorem turned_any (la : Option Addr) (n lc : Nat) (l : List Mk) (w : World) (ho : OwM w B (.slice la n lc) l) (hn : n ≤ 140737488355328) (hok : ∀ e ∈ l, Okm e) : Calls Try.prog 10 #[.slice la n lc] w fun r w' => r = .returned (.tuple #[]) ∧ ∃ l2, OwM w' B (.slice la n lc) l2 ∧ (∀ e ∈ l2, Okm e) ∧ Mb.Kept w w' (fun q => (Value.slice la n lc).ownBlock = some q) := by
  by_cases h0 : n = 0
  · subst h0
    have g1 : ¬ (0 : Int) < ((0 : Nat) : Int) := by omega
    have HO : Hid (OwM w B (.slice la 0 lc) l ∧ ∀ e ∈ l, Okm e) := (show _ ∧ _ from ⟨ho, hok⟩)
    clear ho hok
    go_enter Try.func10, Try.ntmps10
    go_wp2_with fail
    (first | go_end0 | ((try simp only [Exit.inBlock, Exit.then]); refine bodyPost_ret (results_none rfl _ _ _) rfl ?_))
    exact ⟨rfl, l, HO.out.1, HO.out.2, Mb.Kept.refl _ _⟩
  · have g1 : (0 : Int) < (n : Int) := by omega
    obtain ⟨g, hg⟩ := ow_some (n := n) (c := lc) (by have h1 := ho; unfold OwM at h1; rw [ho.rd.len] at h1; exact h1) (by omega)
    subst hg
    have hl : l.length = n := ho.rd.len
    obtain ⟨m, hmv, hm⟩ : ∃ m : Nat, m < n ∧ (n : Int).tdiv 2 = (m : Int) := ⟨n / 2, by omega, by rw [Int.tdiv_eq_ediv_of_nonneg (by omega)]; omega⟩
    have m1 : (0 : Int) ≤ (m : Int) := Int.natCast_nonneg _
    have m2 : (m : Int) < (n : Int) := by omega
    have m3 : wrap64 (m : Int) = (m : Int) := by unfold wrap64; omega
    obtain ⟨e, he⟩ : ∃ e, l.getD m mk0 = e := ⟨_, rfl⟩
    obtain ⟨v13, hv13⟩ : ∃ v, IntKind.i64.wrap (e.n + 1) = v := ⟨_, rfl⟩
    obtain ⟨v11, hv11⟩ : ∃ v, IntKind.i64.wrap (e.sq + 1) = v := ⟨_, rfl⟩
    obtain ⟨v17, hv17⟩ : ∃ v, IntKind.i64.wrap (e.cm.c2 + 1) = v := ⟨_, rfl⟩
    have hb13 : i64B v13 := by rw [← hv13, IntKind.wrap_i64]; unfold i64B; omega
    have rd : ∀ {X : World} {k : List Mk}, OwM X B (.slice (some ⟨g, 0, none⟩) n lc) k → ∀ {c : Nat} {v : Value}, (k.getD m mk0).cs[c]? = some v → X.cell? ⟨g, m * 26 + c, none⟩ = some v := fun {X} {k} h {c} {v} hv => by
      rcases h.rd.row with h0 | ⟨b, off, e, hc⟩
      · omega
      · cases e
        have := hc m hmv c v hv
        rwa [Nat.zero_add] at this
    have fz : ∀ {X : World} {k : List Mk}, OwM X B (.slice (some ⟨g, 0, none⟩) n lc) k → ∀ {c : Nat}, X.frozen? ⟨g, c, none⟩ = false := fun {X} {k} h {c} => (Ln.own_ty h (g := g) rfl).elim fun C hC => frozen_of_row _ g c C _ hC
    have z13 : w.cell? ⟨g, m * 26 + 13, none⟩ = some (.int .i64 e.n) := rd ho (by rw [he]; rfl)
    have f13 : w.frozen? ⟨g, m * 26 + 13, none⟩ = false := fz ho
    obtain ⟨w1, hw1⟩ : ∃ x, w.setCell ⟨g, m * 26 + 13, none⟩ (.int .i64 v13) = x := ⟨_, rfl⟩
    have o1 : OwM w1 B (.slice (some ⟨g, 0, none⟩) n lc) (l.set m { e with n := v13 }) := hw1 ▸ ho.set hmv (by omega) (by rw [he]; rfl)
    have z11 : w1.cell? ⟨g, m * 26 + 11, none⟩ = some (.int .i64 e.sq) := rd o1 (by rw [getM_set (by omega)]; rfl)
    have f11 : w1.frozen? ⟨g, m * 26 + 11, none⟩ = false := fz o1
    obtain ⟨w2, hw2⟩ : ∃ x, w1.setCell ⟨g, m * 26 + 11, none⟩ (.int .i64 v11) = x := ⟨_, rfl⟩
    have o2 : OwM w2 B (.slice (some ⟨g, 0, none⟩) n lc) ((l.set m { e with n := v13 }).set m { e with n := v13, sq := v11 }) := hw2 ▸ o1.set hmv (by omega) (by rw [getM_set (by omega)]; rfl)
    have z17 : w2.cell? ⟨g, m * 26 + 17, none⟩ = some (.int .i64 e.cm.c2) := rd o2 (by rw [getM_set (by simp; omega)]; rfl)
    have f17 : w2.frozen? ⟨g, m * 26 + 17, none⟩ = false := fz o2
    obtain ⟨w3, hw3⟩ : ∃ x, w2.setCell ⟨g, m * 26 + 17, none⟩ (.int .i64 v17) = x := ⟨_, rfl⟩
    have o3 : OwM w3 B (.slice (some ⟨g, 0, none⟩) n lc) (((l.set m { e with n := v13 }).set m { e with n := v13, sq := v11 }).set m { e with n := v13, sq := v11, cm := { e.cm with c2 := v17 } }) := hw3 ▸ o2.set hmv (by omega) (by rw [getM_set (by simp; omega)]; rfl)
    have hk3 : Mb.Kept w w3 (fun q => q = g) := by
      rw [← hw3, ← hw2, ← hw1]
      exact ((Mb.kset (P := fun q => q = g) w g _ _ rfl).trans (Mb.kset _ g _ _ rfl)).trans (Mb.kset _ g _ _ rfl)
    have HF : Hid (∃ l2, OwM w3 B (.slice (some ⟨g, 0, none⟩) n lc) l2 ∧ (∀ e ∈ l2, Okm e) ∧ Mb.Kept w w3 (fun q => (Value.slice (some ⟨g, 0, none⟩) n lc).ownBlock = some q)) := (show ∃ _, _ from by
      refine ⟨_, o3, fun x hx => ?_, hk3.mono (fun k _ h => by have h' : k = g := h; subst h'; rfl)⟩
      have hoe := hok e (he ▸ getD_memM (l := l) (i := m) (by omega))
      rw [List.set_set, List.set_set] at hx
      rcases List.mem_or_eq_of_mem_set hx with hx | rfl
      · exact hok x hx
      · exact ⟨hb13, hoe.k, hoe.v, hoe.o⟩)
    clear ho o1 o2 o3 hk3 rd fz hok hb13 he
    go_enter Try.func10, Try.ntmps10
    go_wp2_with fail
    (first | go_end0 | ((try simp only [Exit.inBlock, Exit.then]); refine bodyPost_ret (results_none rfl _ _ _) rfl ?_))
    exact ⟨rfl, HF.out⟩
end
end Go.Proofs.Ytfbgoidhgkcgjaa.Lo
