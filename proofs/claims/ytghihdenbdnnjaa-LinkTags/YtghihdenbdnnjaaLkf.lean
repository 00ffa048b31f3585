import Derived.Test.YtghihdenbdnnjaaLke
namespace Go.Proofs.Ytghihdenbdnnjaa.Ln
open Go.RowKit Mb
set_option linter.unusedVariables false
set_option maxRecDepth 100000
set_option linter.unusedSimpArgs false
section
variable {w w' W : World} {B : Nat} {S S' : St}
def St.pass (S : St) (u : Nat) : St := { S with p := max S.p u, f := fun n => if n ≤ u then none else S.f n }
theorem pass_le (h : S.Ok w B) {u : Nat} (hu : u ≤ S.p) : S.pass u = S := by
  obtain ⟨p, L, rb, f⟩ := S
  unfold St.pass
  simp only at hu ⊢
  rw [Nat.max_eq_left hu]
  congr 1
  funext n
  by_cases e : n ≤ u
  · rw [if_pos e]; exact (h.none_le (n := n) (by show n ≤ p; omega)).symm
  · rw [if_neg e]
theorem pass_nxt {i : Nat} (hi : S.p ≤ i) : (S.pass i).nxt = S.pass (i + 1) := by
  unfold St.pass St.nxt
  simp only
  rw [Nat.max_eq_right hi, Nat.max_eq_right (by omega)]
  congr 1
  funext n
  by_cases e : n = i + 1
  · rw [e, upd_same, if_pos (Nat.le_refl _)]
  · rw [upd_ne _ _ e]
    by_cases e2 : n ≤ i
    · rw [if_pos e2, if_pos (by omega)]
    · rw [if_neg e2, if_neg (by omega)]
structure PassO (w w' : World) (B : Nat) (S : St) (eb off u : Nat) (cs : Array Value) : Prop where
  ok : (S.pass u).Ok w' B
  kept : Kept w w' (fun j => j = eb ∨ (0 < S.L ∧ j = S.rb))
  hd : ∃ cs', w'.heap[eb]? = some (.cells cs' 82 (0, 0)) ∧ cs'.size = cs.size ∧ cs'[off]? = some (.int .i64 ((max S.p u : Nat) : Int)) ∧ ∀ i, i ≠ off → cs'[i]? = cs[i]?
def pvOf (w : World) (eb off : Nat) : Nat := (w.cell? ⟨eb, off, none⟩).elim 0 fun v => (intOf v).toNat
theorem PassO.refl {eb off : Nat} {cs : Array Value} (h : S.Ok w B) (hE : w.heap[eb]? = some (.cells cs 82 (0, 0))) (hp : cs[off]? = some (.int .i64 (S.p : Int))) : PassO w w B S eb off S.p cs :=
  ⟨by rw [pass_le h (Nat.le_refl _)]; exact h, Kept.refl _ _, ⟨cs, hE, rfl, by rw [Nat.max_self]; exact hp, fun _ _ => rfl⟩⟩
theorem zc_one : ∀ u ∈ [Value.int .i64 0, .slice none 0 0], u.oneCell' = true := cs_one 0 none
set_option maxHeartbeats 1000000 in
theorem pass_any {eb off u : Nat} {cs : Array Value} (h : S.Ok w B) (hE : w.heap[eb]? = some (.cells cs 82 (0, 0))) (hp : cs[off]? = some (.int .i64 (S.p : Int))) (hr : cs[off + 1]? = some S.ring) (h1 : u ≤ S.p + S.L) (h62 : u ≤ 4611686018427387904) : Calls Try.prog 42 #[.pointer (some ⟨eb, off, none⟩), .int .i64 (u : Int)] w fun e w' => e = .returned (.tuple #[]) ∧ PassO w w' B S eb off u cs := by
  have hle := h.le
  have hp62 := h.p62
  have H0 : Hid (PassO w w B S eb off S.p cs) := PassO.refl h hE hp
  have Hr : Hid (cs[off + 1]? = some S.ring) := hr
  have Hoff : Hid (off < cs.size) := (show off < cs.size from by rcases Array.getElem?_eq_some_iff.1 hp with ⟨hh, _⟩; exact hh)
  have HU : Hid (u ≤ S.p → PassO w w B S eb off u cs) := fun hu => ⟨by rw [pass_le h hu]; exact h, Kept.refl _ _, ⟨cs, hE, rfl, by rw [Nat.max_eq_left hu]; exact hp, fun _ _ => rfl⟩⟩
  have HEn : Hid (u ≤ S.p → ∀ wr, PassO w wr B S eb off S.p cs → PassO w wr B S eb off u cs) := fun hu wr hh => ⟨by have := hh.ok; rw [pass_le h (Nat.le_refl _)] at this; rw [pass_le h hu]; exact this, hh.kept, by have := hh.hd; rw [Nat.max_self] at this; rw [Nat.max_eq_left hu]; exact this⟩
  clear h hE hp hr
  go_enter Try.func42, Try.ntmps42
  go_wp2
  go_loopw [4] (fun v4 wr => ∃ i : Nat, S.p ≤ i ∧ (i ≤ u ∨ i = S.p) ∧ Hid (PassO w wr B S eb off i cs)) (fun _ wr => u - pvOf wr eb off)
  case atStart => exact ⟨S.p, Nat.le_refl _, .inr rfl, H0⟩
  case round =>
    obtain ⟨i, hi, hiu, hs⟩ := hrel
    obtain ⟨cs1, hE1, hsz1, hp1, hr1⟩ := hs.out.hd
    rw [Nat.max_eq_right hi] at hp1
    have c0 : wr.cell? ⟨eb, off, none⟩ = some (.int .i64 (i : Int)) := (blk_cell hE1 off).trans hp1
    have f0 := frozen_of_row wr eb off _ _ hE1
    have Hpv : Hid (pvOf wr eb off = i) := (show pvOf wr eb off = i from by unfold pvOf; rw [c0]; rfl)
    by_cases hlt : i < u
    · have hL : 0 < S.L := by omega
      have hok := hs.out.ok
      have hri : (S.pass i).ring = .slice (some ⟨S.rb, 0, none⟩) S.L S.L := ring_pos (S := S.pass i) hL
      have hri0 : S.ring = .slice (some ⟨S.rb, 0, none⟩) S.L S.L := ring_pos hL
      have hltd : decide ((i : Int) < (u : Int)) = true := by rw [decide_eq_true_eq]; omega
      generalize hV : wr.setCell ⟨eb, off, none⟩ (.int .i64 ((i : Int) + 1)) = V
      have hEV : V.heap[eb]? = some (.cells (cs1.setIfInBounds off (.int .i64 ((i : Int) + 1))) 82 (0, 0)) := by rw [← hV]; exact blk_set hE1 rfl
      have kV : Kept wr V (fun j => j = eb) := by rw [← hV]; exact kset _ _ _ _ rfl
      have hne := hok.ne_t hE1 (by decide) (by decide)
      have hokV : (S.pass i).Ok V B := hok.keep kV (fun j hj e => hne (by rw [← e]; exact hj))
      have hofs : off < cs1.size := by rw [hsz1]; exact Hoff.out
      have x0 : V.cell? ⟨eb, off, none⟩ = some (.int .i64 ((i : Int) + 1)) := by rw [blk_cell hEV]; simp [hofs]
      have x1 : V.cell? ⟨eb, off + 1, none⟩ = some (.slice (some ⟨S.rb, 0, none⟩) S.L S.L) := by
        rw [blk_cell hEV, Array.getElem?_setIfInBounds, if_neg (by omega), hr1 _ (by omega), Hr.out, hri0]
      have hrow := (hokV.row hL).1
      have hokD : (S.pass i).Ok V.drew B := hokV.still (Below.refl _ _).drew
      have hmx : (S.pass i).p = i := Nat.max_eq_right hi
      obtain ⟨m, hm⟩ : ∃ m, (i + 1) % S.L = m := ⟨_, rfl⟩
      have hmL : m < S.L := by rw [← hm]; exact Nat.mod_lt _ hL
      have HP : Hid (∀ w', Calls Try.prog 46 #[.slice (some ⟨S.rb, 0, none⟩) S.L S.L, .int .i64 ((i : Int) + 1)] w' fun e w2 => e = .returned (.pointer (some ⟨S.rb, m * 2, none⟩)) ∧ w' = w2) := fun w' => by rw [← hm, show (i : Int) + 1 = ((i + 1 : Nat) : Int) by omega]; exact place_any hL (by omega) hle
      have HT : Hid (V.drew.there S.rb (m * 2) 2) := (show V.drew.there S.rb (m * 2) 2 from (hokD.row hL).1.there _ _ (by show m * 2 + 2 ≤ S.L * 2; omega))
      have kD : Kept V.drew (V.drew.setCells S.rb (m * 2) [.int .i64 0, .slice none 0 0]) (fun j => j = S.rb) := ksets (P := fun j => j = S.rb) rfl _ _ _
      have hner : eb ≠ S.rb := fun e => hne (.inl ⟨hL, e⟩)
      have HX : Hid ((V.drew.setCells S.rb (m * 2) [.int .i64 0, .slice none 0 0]).cell? ⟨eb, off, none⟩ = some (.int .i64 ((i : Int) + 1)) ∧ (V.drew.setCells S.rb (m * 2) [.int .i64 0, .slice none 0 0]).cell? ⟨eb, off + 1, none⟩ = some (.slice (some ⟨S.rb, 0, none⟩) S.L S.L)) := (show _ ∧ _ from ⟨kept_cell kD hner (below_at (Below.refl _ _).drew x0), kept_cell kD hner (below_at (Below.refl _ _).drew x1)⟩)
      have HN : Hid (PassO w (V.drew.setCells S.rb (m * 2) [.int .i64 0, .slice none 0 0]) B S eb off (i + 1) cs) := by
        have e1 := hokD.nxt hL (by rw [hmx]; omega)
        rw [pass_nxt hi, hmx] at e1
        have e2 : (S.pass i).L = S.L := rfl
        rw [e2, hm] at e1
        refine ⟨e1, ?_, ⟨cs1.setIfInBounds off (.int .i64 ((i : Int) + 1)), kD.obj (((Below.refl _ V).drew.block _ (lt_heap hEV)).trans hEV) hner, by simp [hsz1], ?_, fun j hj => ?_⟩⟩
        · exact ((hs.out.kept.trans (kV.mono fun j _ e => .inl e)).trans (Kept.ofBelow (Below.refl _ _).drew _)).trans (kD.mono fun j _ e => .inr ⟨hL, e⟩)
        · rw [Nat.max_eq_right (by omega), Array.getElem?_setIfInBounds]; simp [hofs]
        · rw [Array.getElem?_setIfInBounds, if_neg (fun e => hj e.symm), hr1 j hj]
      have HM : Hid (pvOf (V.drew.setCells S.rb (m * 2) [.int .i64 0, .slice none 0 0]) eb off = i + 1) := (show pvOf _ eb off = i + 1 from by unfold pvOf; rw [HX.out.1]; simp [intOf])
      clear hrow hok hokV hokD hE1 hEV kV kD hs hmx hm hri hri0 hr1 hp1 hsz1 hofs
      go_wp2
      refine wp_region_held_drew (S := (fun w' => w'.cell? ⟨eb, off, none⟩ = some (.int .i64 ((i : Int) + 1)) ∧ w'.cell? ⟨eb, off + 1, none⟩ = some (.slice (some ⟨S.rb, 0, none⟩) S.L S.L))) (by kernel_rfl) ⟨below_at (Below.refl _ _).drew x0, below_at (Below.refl _ _).drew x1⟩ (fun hHeld => ?_)
      simp only [Act.put, List.size_toArray, List.length_cons, List.length_nil, Nat.zero_add]
      refine wpAnyH_take (i := 0) (v := .pointer (some ⟨eb, off, none⟩)) rfl (by kernel_rfl) (by kernel_rfl) (by kernel_rfl) (fun _ _ _ h => h) (Or.inl ⟨by rfl, fun w' hS => by go_simp⟩) hHeld ?_
      simp only [Act.put, List.getElem_toArray, List.getElem_cons_zero, List.getElem_cons_succ, List.setIfInBounds_toArray, List.set_cons_zero, List.set_cons_succ]
      refine wpAnyH_take (i := 1) (v := .pointer (some ⟨eb, off, none⟩)) rfl (by kernel_rfl) (by kernel_rfl) (by kernel_rfl) (fun _ _ _ h => h) (Or.inl ⟨by rfl, fun w' hS => by go_simp⟩) hHeld ?_
      simp only [Act.put, List.getElem_toArray, List.getElem_cons_zero, List.getElem_cons_succ, List.setIfInBounds_toArray, List.set_cons_zero, List.set_cons_succ]
      refine wpAnyH_take (i := 2) (v := .pointer (some ⟨eb, off + 1, none⟩)) rfl (by kernel_rfl) (by kernel_rfl) (by kernel_rfl) (fun _ _ _ h => h) (Or.inl ⟨by rfl, fun w' hS => by go_simp⟩) hHeld ?_
      simp only [Act.put, List.getElem_toArray, List.getElem_cons_zero, List.getElem_cons_succ, List.setIfInBounds_toArray, List.set_cons_zero, List.set_cons_succ]
      refine wpAnyH_take (i := 3) (v := .slice (some ⟨S.rb, 0, none⟩) S.L S.L) rfl (by kernel_rfl) (by kernel_rfl) (by kernel_rfl) (fun _ _ _ h => h) (Or.inl ⟨by rfl, fun w' hS => by (obtain ⟨s0, s1⟩ := hS; go_simp)⟩) hHeld ?_
      simp only [Act.put, List.getElem_toArray, List.getElem_cons_zero, List.getElem_cons_succ, List.setIfInBounds_toArray, List.set_cons_zero, List.set_cons_succ]
      refine wpAnyH_take (i := 4) (v := .pointer (some ⟨eb, off, none⟩)) rfl (by kernel_rfl) (by kernel_rfl) (by kernel_rfl) (fun _ _ _ h => h) (Or.inl ⟨by rfl, fun w' hS => by go_simp⟩) hHeld ?_
      simp only [Act.put, List.getElem_toArray, List.getElem_cons_zero, List.getElem_cons_succ, List.setIfInBounds_toArray, List.set_cons_zero, List.set_cons_succ]
      refine wpAnyH_take (i := 5) (v := .pointer (some ⟨eb, off, none⟩)) rfl (by kernel_rfl) (by kernel_rfl) (by kernel_rfl) (fun _ _ _ h => h) (Or.inl ⟨by rfl, fun w' hS => by go_simp⟩) hHeld ?_
      simp only [Act.put, List.getElem_toArray, List.getElem_cons_zero, List.getElem_cons_succ, List.setIfInBounds_toArray, List.set_cons_zero, List.set_cons_succ]
      refine wpAnyH_take (i := 6) (v := .pointer (some ⟨eb, off, none⟩)) rfl (by kernel_rfl) (by kernel_rfl) (by kernel_rfl) (fun _ _ _ h => h) (Or.inl ⟨by rfl, fun w' hS => by go_simp⟩) hHeld ?_
      simp only [Act.put, List.getElem_toArray, List.getElem_cons_zero, List.getElem_cons_succ, List.setIfInBounds_toArray, List.set_cons_zero, List.set_cons_succ]
      refine wpAnyH_take (i := 7) (v := .int .i64 ((i : Int) + 1)) rfl (by kernel_rfl) (by kernel_rfl) (by kernel_rfl) (fun _ _ _ h => h) (Or.inl ⟨by rfl, fun w' hS => by (obtain ⟨s0, s1⟩ := hS; go_simp)⟩) hHeld ?_
      simp only [Act.put, List.getElem_toArray, List.getElem_cons_zero, List.getElem_cons_succ, List.setIfInBounds_toArray, List.set_cons_zero, List.set_cons_succ]
      refine wpAnyH_take (i := 9) (v := .agg #[.int .i64 0, .slice none 0 0]) rfl (by kernel_rfl) (by kernel_rfl) (by kernel_rfl) (fun _ _ _ h => h) (Or.inl ⟨by rfl, fun w' hS => by go_simp⟩) hHeld ?_
      simp only [Act.put, List.getElem_toArray, List.getElem_cons_zero, List.getElem_cons_succ, List.setIfInBounds_toArray, List.set_cons_zero, List.set_cons_succ]
      refine wpAnyH_ready (rs := [8]) (by kernel_rfl) (by simp) ?_
      refine AllReadyH.cons rfl (fun K hK => ?_) AllReadyH.nil
      go_simp
      refine (HP.out _).mono ?_
      rintro e w2 ⟨rfl, rfl⟩
      refine hK.out _ _ ⟨below_at (Below.refl _ _).drew x0, below_at (Below.refl _ _).drew x1⟩ (fun hHeld => ?_)
      clear hK K
      refine wpAnyH_take (i := 10) (v := .pointer (some ⟨S.rb, m * 2, none⟩)) rfl (by kernel_rfl) (by kernel_rfl) (by kernel_rfl) (fun _ _ _ h => h) (Or.inl ⟨by rfl, fun w' hS => by go_simp⟩) hHeld ?_
      simp only [Act.put, List.getElem_toArray, List.getElem_cons_zero, List.getElem_cons_succ, List.setIfInBounds_toArray, List.set_cons_zero, List.set_cons_succ]
      refine wpAnyH_ready (rs := [11]) (by kernel_rfl) (by simp) ?_
      refine AllReadyH.cons rfl (fun K hK => ?_) AllReadyH.nil
      refine step_storeL rfl 91 (.tmp 27) (.tmp 26) rfl (L := [.int .i64 0, .slice none 0 0]) rfl rfl HT.out info_cell zc_one ?_
      refine hK.out _ _ (by exact HX.out) (fun hHeld => ?_)
      clear hK K
      refine wpAnyH_done (by kernel_rfl) ?_ _
      clear hHeld
      simp only [Act.put]
      go_wp2
      go_roundw
      case rel => exact ⟨i + 1, by omega, .inl (by omega), HN⟩
      case measure => rw [HM.out, Hpv.out]; omega
    · have hltd : decide ((i : Int) < (u : Int)) = false := by rw [decide_eq_false_iff_not]; omega
      have HE : Hid (PassO w wr B S eb off u cs) := (show PassO w wr B S eb off u cs from by
        rcases hiu with h3 | h3
        · obtain rfl : i = u := by omega
          exact hs.out
        · rw [h3] at hs
          exact HEn.out (by omega) wr hs.out)
      clear hs hE1 hr1
      go_wp2
      go_end0
      exact ⟨rfl, HE.out⟩
end
end Go.Proofs.Ytghihdenbdnnjaa.Ln
