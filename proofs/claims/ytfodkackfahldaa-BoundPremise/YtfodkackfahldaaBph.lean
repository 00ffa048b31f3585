import Derived.Test.YtfodkackfahldaaBpg
namespace Go.Proofs.Ytfodkackfahldaa.Lo
open Go.RowKit
set_option linter.unusedVariables false
set_option linter.unusedSimpArgs false

def kiB (xs : List Int) (p q : Nat) : Int := if xs.getD p 0 = xs.getD q 0 then 9 else 8
def spG (f : Nat → Int) (N : Nat) (xs : List Int) (k : Nat) : Nat → Int := fun j => if 17 ≤ j ∧ j - 17 < k ∧ (j - 17) % 16 < N then paB (f j) (kiB xs ((j - 17) / 16) ((j - 17) % 16)) 0 else f j
theorem Nb.congr {w : World} {b : Nat} {f g : Nat → Int} (h : Nb w b f) (e : ∀ i, i < 292 → f i = g i) : Nb w b g := by
  obtain ⟨C, h1, h2, h3⟩ := h
  exact ⟨C, h1, h2, fun i hi => by rw [← e i hi]; exact h3 i hi⟩
theorem spG_zero (f : Nat → Int) (N : Nat) (xs : List Int) (i : Nat) : spG f N xs 0 i = f i := by
  unfold spG
  rw [if_neg (by omega)]
theorem spG_row {N j : Nat} (f : Nat → Int) (xs : List Int) (hN : N ≤ 16) (i : Nat) : spG f N xs (j * 16 + N) i = spG f N xs ((j + 1) * 16) i := by
  unfold spG
  by_cases e : 17 ≤ i ∧ i - 17 < j * 16 + N ∧ (i - 17) % 16 < N
  · rw [if_pos e, if_pos (by omega)]
  · rw [if_neg e, if_neg (by omega)]
theorem spG_step {N j k : Nat} (f : Nat → Int) (xs : List Int) (hN : N ≤ 16) (hj : j < N) (hk : k < N) (i : Nat) : upF (spG f N xs (j * 16 + k)) (17 + j * 16 + k) (paB (f (17 + j * 16 + k)) (kiB xs j k) 0) i = spG f N xs (j * 16 + (k + 1)) i := by
  by_cases e : i = 17 + j * 16 + k
  · subst e
    rw [upF_at]
    unfold spG
    rw [if_pos (by omega)]
    have e1 : (17 + j * 16 + k - 17) / 16 = j := by omega
    have e2 : (17 + j * 16 + k - 17) % 16 = k := by omega
    rw [e1, e2]
  · rw [upF_ne _ _ e]
    unfold spG
    by_cases e2 : 17 ≤ i ∧ i - 17 < j * 16 + k ∧ (i - 17) % 16 < N
    · rw [if_pos e2, if_pos (by omega)]
    · rw [if_neg e2, if_neg (by omega)]
theorem spG_at {N j k : Nat} (f : Nat → Int) (xs : List Int) : spG f N xs (j * 16 + k) (17 + j * 16 + k) = f (17 + j * 16 + k) := by
  unfold spG
  rw [if_neg (by omega)]
theorem spG_0 {N k : Nat} (f : Nat → Int) (xs : List Int) : spG f N xs k 0 = f 0 := by
  unfold spG
  rw [if_neg (by omega)]
def Sd (w : World) (B : Nat) (ao : Option Addr) (n c : Nat) (xs : List Int) : Prop := Ri w ao n c xs ∧ (0 < n → ∀ a, ao = some a → a.block < B)
theorem Sd.at_ {w w' : World} {B n c j : Nat} {ao : Option Addr} {xs : List Int} (h : Sd w B ao n c xs) (hb : Below B w w') (hj : j < n) : ∃ b off, ao = some ⟨b, off, none⟩ ∧ ∀ i, i < n → w'.cell? ⟨b, off + i, none⟩ = some (.int .i64 (xs.getD i 0)) := by
  obtain ⟨⟨_, _, h3⟩, h4⟩ := h
  rcases h3 with h | ⟨b, off, rfl, hc⟩
  · omega
  · exact ⟨b, off, rfl, fun i hi => by rw [hb.cell (p := ⟨b, off + i, none⟩) (h4 (by omega) ⟨b, off, none⟩ rfl)]; exact hc i hi⟩
set_option maxRecDepth 100000 in
set_option maxHeartbeats 2000000 in
theorem split_any (b B : Nat) (f : Nat → Int) (N : Nat) (ao : Option Addr) (c : Nat) (xs : List Int) (w : World) (h : Nb w b f) (hB : B ≤ b) (hN : f 0 = (N : Int)) (n1 : 1 ≤ N) (n2 : N ≤ 16) (hP : ∀ j, 17 ≤ j → j < 273 → -16 ≤ f j ∧ f j ≤ 16) (hs : Sd w B ao N c xs) : Calls Try.prog 48 #[.pointer (some ⟨b, 0, none⟩), .slice ao N c] w fun e w' => e = .returned (.tuple #[]) ∧ Nb w' b (spG f N xs (N * 16)) ∧ Below B w w' := by
  have c0 := h.cell (i := 0) (by omega)
  rw [hN] at c0
  have hlt := h.lt
  have HH : Hid (Nb w b f) := h
  have HF : Hid (f 0 = (N : Int)) := hN
  have HP : Hid (∀ j, 17 ≤ j → j < 273 → -16 ≤ f j ∧ f j ≤ 16) := hP
  have HS : Hid (Sd w B ao N c xs) := hs
  clear h hN hP hs
  go_enter Try.func48, Try.ntmps48
  go_wp2_with fail
  go_loopw [11] (fun x wr => ∃ (j : Nat), j ≤ N ∧ x = .int .i64 j ∧ Hid (Nb wr b (spG f N xs (j * 16))) ∧ Hid (Below B w wr)) (fun x _ => N - (intOf x).toNat)
  case atStart => exact ⟨0, Nat.zero_le _, rfl, (show Nb _ _ _ from HH.out.congr fun i _ => (spG_zero f N xs i).symm), Below.refl _ _⟩
  case round =>
    obtain ⟨j, hj, rfl, hnb, hbl⟩ := hrel
    by_cases hjn : j < N
    · have c00 := hnb.out.cell (i := 0) (by omega)
      rw [spG_0, HF.out] at c00
      have j1 : (0 : Int) ≤ (j : Int) := Int.natCast_nonneg _
      have j2 : (j : Int) < 16 := by omega
      have j3 : (j : Int) < (N : Int) := by omega
      go_wp2_with fail
      go_loopw [18] (fun x wr => ∃ (i : Nat), i ≤ N ∧ x = .int .i64 i ∧ Hid (Nb wr b (spG f N xs (j * 16 + i))) ∧ Hid (Below B w wr)) (fun x _ => N - (intOf x).toNat)
      case atStart => exact ⟨0, Nat.zero_le _, rfl, hnb, hbl⟩
      case round =>
        obtain ⟨i, hi, rfl, hnc, hbi⟩ := hrel
        by_cases hiN : i < N
        · have i1 : (0 : Int) ≤ (i : Int) := Int.natCast_nonneg _
          have i2 : (i : Int) < 16 := by omega
          have i3 : (i : Int) < (N : Int) := by omega
          obtain ⟨sb, so, rfl, hsc⟩ := HS.out.at_ hbi.out hiN
          have s1 := hsc i hiN
          have s2 := hsc j hjn
          have cx := hnc.out.cell (i := 17 + j * 16 + i) (by omega)
          rw [spG_at] at cx
          have hpx := HP.out (17 + j * 16 + i) (by omega) (by omega)
          have HQ : Hid (∀ k, kiB xs j i = k → upF (spG f N xs (j * 16 + i)) (17 + j * 16 + i) (paB (f (17 + j * 16 + i)) k 0) = upF (spG f N xs (j * 16 + i)) (17 + j * 16 + i) (paB (f (17 + j * 16 + i)) (kiB xs j i) 0)) := (show ∀ k, _ from fun k hk => by rw [hk])
          have HST : Hid (∀ t, upF (spG f N xs (j * 16 + i)) (17 + j * 16 + i) (paB (f (17 + j * 16 + i)) (kiB xs j i) 0) t = spG f N xs (j * 16 + (i + 1)) t) := (show ∀ t, _ from fun t => spG_step f xs n2 hjn hiN t)
          clear hsc hnb c0 c00
          by_cases es : xs.getD j 0 = xs.getD i 0
          · have hki : kiB xs j i = 9 := by unfold kiB; rw [if_pos es]
            rw [hki] at HST
            rw [es] at s2
            generalize xs.getD i 0 = y at *
            clear es hki HQ
            go_wp2_with fail
            go_quiet (fail)
            go_wp2_with fail
            have H2 : Hid (Nb (wr.drewN nq) b (spG f N xs (j * 16 + i))) := (show Nb _ _ _ from hnc.out.drewN nq)
            have HB2 : Hid (Below B w (wr.drewN nq)) := below_drewN hbi.out nq
            generalize wr.drewN nq = V at *
            have H3 : Hid (Nb V.drew b (spG f N xs (j * 16 + i))) := (show Nb _ _ _ from H2.out.on (Below.refl _ _).drew)
            have HB3 : Hid (Below B w V.drew) := HB2.out.drew
            have hvl : b < V.drew.heap.size := H3.out.lt
            have c3 := H2.out.cell (i := 17 + j * 16 + i) (by omega)
            rw [spG_at] at c3
            clear cx s1 s2
            go_region_with (first | (go_at_call 46; refine (path_any _ _ _ _ _ _ _ _ _ _ _ _ _ _ _ (by omega)).mono ?_; rintro e w' ⟨rfl, hb1⟩; have H4 : Hid (Nb w' b (spG f N xs (j * 16 + i))) := (show Nb _ _ _ from H3.out.on hb1); have HB4 : Hid (Below B w w') := HB3.out.trans (hb1.mono (by omega)); have c4 := H4.out.cell (i := 17 + j * 16 + i) (by omega); have z4 := H4.out.fz (17 + j * 16 + i); clear hb1) | fail)
            have H5 : Hid (Nb (w'.setCell ⟨b, 17 + j * 16 + i, none⟩ (.int .i64 (paB (f (17 + j * 16 + i)) 9 0))) b (spG f N xs (j * 16 + (i + 1)))) := (show Nb _ _ _ from (H4.out.set (by omega) _).congr fun t _ => HST.out t)
            have HB5 : Hid (Below B w (w'.setCell ⟨b, 17 + j * 16 + i, none⟩ (.int .i64 (paB (f (17 + j * 16 + i)) 9 0)))) := HB4.out.setCell hB _
            clear c4 z4 H4 HB4 c3 H3 HB3 H2 HB2 HST
            go_wp2_with fail
            go_roundw
            case rel => exact ⟨i + 1, by omega, by go_num, H5, HB5⟩
            case measure => simp [intOf]; omega
          · have hki : kiB xs j i = 8 := by unfold kiB; rw [if_neg es]
            rw [hki] at HST
            have es' : (xs.getD j 0 == xs.getD i 0) = false := by rw [beq_eq_false_iff_ne]; exact es
            generalize xs.getD i 0 = y at *
            generalize xs.getD j 0 = z at *
            clear es hki HQ
            go_wp2_with fail
            go_quiet (fail)
            go_wp2_with fail
            have H2 : Hid (Nb (wr.drewN nq) b (spG f N xs (j * 16 + i))) := (show Nb _ _ _ from hnc.out.drewN nq)
            have HB2 : Hid (Below B w (wr.drewN nq)) := below_drewN hbi.out nq
            generalize wr.drewN nq = V at *
            have H3 : Hid (Nb V.drew b (spG f N xs (j * 16 + i))) := (show Nb _ _ _ from H2.out.on (Below.refl _ _).drew)
            have HB3 : Hid (Below B w V.drew) := HB2.out.drew
            have hvl : b < V.drew.heap.size := H3.out.lt
            have c3 := H2.out.cell (i := 17 + j * 16 + i) (by omega)
            rw [spG_at] at c3
            clear cx s1 s2
            go_region_with (first | (go_at_call 46; refine (path_any _ _ _ _ _ _ _ _ _ _ _ _ _ _ _ (by omega)).mono ?_; rintro e w' ⟨rfl, hb1⟩; have H4 : Hid (Nb w' b (spG f N xs (j * 16 + i))) := (show Nb _ _ _ from H3.out.on hb1); have HB4 : Hid (Below B w w') := HB3.out.trans (hb1.mono (by omega)); have c4 := H4.out.cell (i := 17 + j * 16 + i) (by omega); have z4 := H4.out.fz (17 + j * 16 + i); clear hb1) | fail)
            have H5 : Hid (Nb (w'.setCell ⟨b, 17 + j * 16 + i, none⟩ (.int .i64 (paB (f (17 + j * 16 + i)) 8 0))) b (spG f N xs (j * 16 + (i + 1)))) := (show Nb _ _ _ from (H4.out.set (by omega) _).congr fun t _ => HST.out t)
            have HB5 : Hid (Below B w (w'.setCell ⟨b, 17 + j * 16 + i, none⟩ (.int .i64 (paB (f (17 + j * 16 + i)) 8 0)))) := HB4.out.setCell hB _
            clear c4 z4 H4 HB4 c3 H3 HB3 H2 HB2 HST
            go_wp2_with fail
            go_roundw
            case rel => exact ⟨i + 1, by omega, by go_num, H5, HB5⟩
            case measure => simp [intOf]; omega
        · have hiN' : i = N := by omega
          subst hiN'
          have HA : Hid (Nb wr b (spG f i xs ((j + 1) * 16))) := (show Nb _ _ _ from hnc.out.congr fun t _ => spG_row f xs n2 t)
          clear hnc hnb
          go_wp2_with fail
          go_roundw
          case rel => exact ⟨j + 1, by omega, by go_num, HA, hbi⟩
          case measure => simp [intOf]; omega
    · have hjN : j = N := by omega
      subst hjN
      go_wp2_with fail
      (first | go_end0 | ((try simp only [Exit.inBlock, Exit.then]); refine bodyPost_ret (results_none rfl _ _ _) rfl ?_))
      exact ⟨rfl, hnb.out, hbl.out⟩
end Go.Proofs.Ytfodkackfahldaa.Lo
