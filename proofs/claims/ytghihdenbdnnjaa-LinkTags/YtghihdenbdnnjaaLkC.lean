import Derived.Test.YtghihdenbdnnjaaLkB
namespace Go.Proofs.Ytghihdenbdnnjaa.Ln
open Go.RowKit Mb
set_option linter.unusedVariables false
set_option maxRecDepth 100000
set_option linter.unusedSimpArgs false
section
variable {w w' W : World} {B : Nat} {X X' : Wr} {P : Px} {s T : Nat}
set_option maxHeartbeats 4000000 in
theorem turn_any (h : X.Ok w B) (hI : X.pu.Inv) (hT : X.pu.Sz T) (hT1 : 1 ≤ T) (hT2 : T ≤ 990) (hB : B ≤ w.heap.size) : Calls Try.prog 21 #[.pointer (some ⟨X.b, 0, none⟩)] w fun e w' => XO w w' X B X.pu.turn e := by
  obtain ⟨P, hP0⟩ : ∃ P, X.pu = P := ⟨_, rfl⟩
  obtain ⟨b0, hb0⟩ : ∃ b, X.b = b := ⟨_, rfl⟩
  have hw5 : P.win ≤ 5 := by rw [← hP0]; exact h.w1.2.1
  rw [hP0] at hI hT
  have HI : Hid (P.Inv) := hI
  have HT : Hid (P.Sz T) := hT
  have H0 : Hid (∃ Xi, TnS w w X B (hP P 0) Xi) := (show ∃ Xi, TnS _ _ _ _ _ Xi from ⟨X, Xstep.refl h, hP0⟩)
  have HB0 : Hid (X.b = b0) := hb0
  rw [hP0, hb0]
  clear hI hT h hP0 hb0
  go_enter Try.func21, Try.ntmps21
  go_wp2
  go_loopw [3, 4] (fun v3 _ wr => ∃ s : Nat, s ≤ 2 ∧ v3 = .int .i64 (s : Int) ∧ Hid (∃ Xi, TnS w wr X B (hP P s) Xi)) (fun v3 _ _ => 2 - (intOf v3).toNat)
  case atStart => exact ⟨0, by omega, rfl, H0⟩
  case round =>
    clear H0
    obtain ⟨s, hs2, rfl, hst⟩ := hrel
    obtain ⟨Xi, hX⟩ := hst.out
    clear hst
    by_cases hs : s < 2
    · have i1 : (0 : Int) ≤ (s : Int) := Int.natCast_nonneg _
      have i2 : (s : Int) < 2 := by omega
      have hXb : Xi.b = b0 := hX.st.b.trans HB0.out
      have hblk := hX.st.ok.blk
      rw [hXb] at hblk
      have hBw : B ≤ wr.heap.size := Nat.le_trans hB hX.st.kept.size
      have k8 : wr.cell? ⟨b0, 8 + s, none⟩ = some (Xi.v (8 + s)) := by have := hX.st.ok.cr (i := 8 + s) (by omega) (by omega); rw [hXb] at this; exact this
      have f8 := frozen_of_row wr b0 (8 + s) _ _ hblk
      have z1 := zapF_step hX.st.ok hs
      rw [hXb] at z1
      generalize hW1 : wr.setCell ⟨b0, 8 + s, none⟩ (.slice none 0 0) = W1 at z1
      have hb1 : (Xi.zapF s).b = b0 := z1.b.trans hXb
      have hblk1 := z1.ok.blk
      rw [hb1] at hblk1
      have k10 : W1.cell? ⟨b0, 10 + s, none⟩ = some ((Xi.zapF s).v (10 + s)) := by have := z1.ok.cr (i := 10 + s) (by omega) (by omega); rw [hb1] at this; exact this
      have f10 := frozen_of_row W1 b0 (10 + s) _ _ hblk1
      have z2 := zapA_step z1.ok hs
      rw [hb1] at z2
      generalize hW2 : W1.setCell ⟨b0, 10 + s, none⟩ (.slice none 0 0) = W2 at z2
      obtain ⟨Q0, hQ0⟩ : ∃ Q, ((hP P s).clrF s).clrA s = Q := ⟨_, rfl⟩
      have hS2 : TnS w W2 X B Q0 ((Xi.zapF s).zapA s) := (hX.go z1 rfl).go z2 (by rw [zapA_pu, zapF_pu, hX.pu]; exact hQ0)
      have hbb : ((Xi.zapF s).zapA s).b = b0 := z2.b.trans hb1
      generalize (Xi.zapF s).zapA s = X2 at hS2 hbb
      have HSh : Hid (Calls Try.prog 9 #[.pointer (some ⟨b0, 0, none⟩), .int .i64 (s : Int)] W2 fun e w' => XO W2 w' X2 B (X2.pu.show s) e) := (show Calls _ _ _ _ _ from by
        have := wshow_any hS2.st.ok (by rw [hS2.pu, ← hQ0]; exact ((hP_inv HI.out s).clrF s).clrA s) (T := T) (by rw [hS2.pu, ← hQ0]; exact ((hP_sz HT.out hT1 hw5 s).clrF s).clrA s) (by omega) (Nat.le_trans hB hS2.st.kept.size) hs
        rw [hbb] at this
        exact this)
      have HS2 : Hid (TnS w W2 X B Q0 X2) := hS2
      have HQ0 : Hid (((hP P s).clrF s).clrA s = Q0) := hQ0
      have Hbb : Hid (X2.b = b0) := hbb
      clear z1 z2 hblk hblk1 hb1 hXb hX hS2 hbb hQ0
      go_wp2_with (first | (go_at_call 9; refine HSh.out.mono ?_) | fail)
      rintro e w3 hx
      obtain ⟨he, X3, hxs, hpu⟩ := hx
      subst he
      obtain ⟨Q, hQ⟩ : ∃ Q, (hP P s).fresh s = Q := ⟨_, rfl⟩
      have hS3 : TnS w w3 X B (Q.carries s 0) X3 := HS2.out.go hxs (by rw [hpu, HS2.out.pu, ← HQ0.out]; exact hQ)
      obtain ⟨n, hn⟩ : ∃ n, (Q.f s).length = n := ⟨_, rfl⟩
      have HQi : Hid (Q.Inv) := (show Px.Inv _ from by rw [← hQ]; exact (hP_inv HI.out s).fresh hs)
      have HQt : Hid (Q.Sz T) := (show Px.Sz _ _ from by rw [← hQ]; exact (hP_sz HT.out hT1 hw5 s).fresh hT1 (by
        unfold hP
        split
        · exact hw5
        · split
          · rw [(half_same P 0).1]; exact hw5
          · rw [(half_same _ 1).1, (half_same P 0).1]; exact hw5) s)
      have hn5 : n ≤ 5 * T := by have := (HQt.out s hs).2.1; omega
      have HL0 : Hid (∃ Xi, TnS w w3 X B (Q.carries s 0) Xi) := (show ∃ Xi, TnS _ _ _ _ _ Xi from ⟨X3, hS3⟩)
      have HQn : Hid (Q.carries s n = hP P (s + 1)) := (show _ = _ from by rw [hP_next P hs]; unfold Px.half; rw [hQ, hn])
      have Hn : Hid ((Q.f s).length = n) := hn
      clear hS3 hxs hpu hQ hn HSh HS2 HQ0 Hbb k8 f8 k10 f10 hW1 hW2
      go_wp2
      go_loopw [4] (fun v4 wr => ∃ i : Nat, i ≤ n ∧ v4 = .int .i64 (i : Int) ∧ Hid (∃ Xi, TnS w wr X B (Q.carries s i) Xi)) (fun v4 _ => n - (intOf v4).toNat)
      case atStart => exact ⟨0, by omega, rfl, HL0⟩
      case round =>
        clear HL0
        obtain ⟨i, hi1, rfl, hst⟩ := hrel
        obtain ⟨Xj, hX⟩ := hst.out
        clear hst
        have hXb : Xj.b = b0 := hX.st.b.trans HB0.out
        obtain ⟨fa, fc, hfv⟩ := row_shape (hX.st.ok.rowf hs)
        have hfl : (Xj.f s).length = n := by
          have e1 : Xj.pu.f s = Q.f s := by rw [hX.pu, (carries_same Q s i).1]
          have e2 : (Xj.f s).map fbs = Q.f s := e1
          rw [← Hn.out, ← e2, List.length_map]
        rw [hfl] at hfv
        have k8 : wr.cell? ⟨b0, 8 + s, none⟩ = some (.slice fa n fc) := by have := hX.st.ok.cr (i := 8 + s) (by omega) (by omega); rw [hXb, hfv] at this; exact this
        by_cases hlt : i < n
        · have i3 : (i : Int) < (n : Int) := by omega
          have i4 : (0 : Int) ≤ (i : Int) := Int.natCast_nonneg _
          have HCa : Hid (Calls Try.prog 10 #[.pointer (some ⟨b0, 0, none⟩), .int .i64 (s : Int), .int .i64 (i : Int)] wr fun e w' => XO wr w' Xj B (Xj.pu.carry s (i : Int)) e) := (show Calls _ _ _ _ _ from by
            have := wcarry_any hX.st.ok (by rw [hX.pu]; exact HQi.out.carries hs i) (T := T) (by rw [hX.pu]; exact HQt.out.carries s i) (by omega) (Nat.le_trans hB hX.st.kept.size) hs (n := (i : Int)) (by omega) (by omega)
            rw [hXb] at this
            exact this)
          have HX : Hid (TnS w wr X B (Q.carries s i) Xj) := hX
          clear hX hXb hfv hfl
          go_wp2_with (first | (go_at_call 10; refine HCa.out.mono ?_) | fail)
          rintro e w4 hx
          obtain ⟨he, X4, hxs, hpu⟩ := hx
          subst he
          have HN : Hid (∃ Xi, TnS w w4 X B (Q.carries s (i + 1)) Xi) := (show ∃ Xi, TnS _ _ _ _ _ Xi from ⟨X4, HX.out.go hxs (by rw [hpu, HX.out.pu, carries_succ])⟩)
          clear hxs hpu HX HCa k8
          go_wp2
          exact ⟨⟨i + 1, by omega, by go_num, HN⟩, by simp [intOf]; omega⟩
        · have i3 : ¬ (i : Int) < (n : Int) := by omega
          have hin : i = n := by omega
          rw [hin] at hX
          have HN : Hid (∃ Xi, TnS w wr X B (hP P (s + 1)) Xi) := (show ∃ Xi, TnS _ _ _ _ _ Xi from ⟨Xj, by rw [← HQn.out]; exact hX⟩)
          clear hX hXb hfv hfl hin hlt
          go_wp2
          exact ⟨⟨s + 1, by omega, by go_num, HN⟩, by simp [intOf]; omega⟩
    · have hse : s = 2 := by omega
      rw [hse] at hX
      have HL0 : Hid (∃ Xi, TnS w wr X B (bP P 0) Xi) := (show ∃ Xi, TnS _ _ _ _ _ Xi from ⟨Xi, hX⟩)
      have n2 : ¬ (s : Int) < 2 := by omega
      clear hX hse hs hs2
      go_wp2
      go_loopw [5] (fun v5 wr => ∃ s : Nat, s ≤ 2 ∧ v5 = .int .i64 (s : Int) ∧ Hid (∃ Xi, TnS w wr X B (bP P s) Xi)) (fun v5 _ => 2 - (intOf v5).toNat)
      case atStart => exact ⟨0, by omega, rfl, HL0⟩
      case round =>
        clear HL0
        obtain ⟨s', hs2, rfl, hst⟩ := hrel
        obtain ⟨Xj, hX⟩ := hst.out
        clear hst
        have hXb : Xj.b = b0 := hX.st.b.trans HB0.out
        by_cases hs : s' < 2
        · have i1 : (0 : Int) ≤ (s' : Int) := Int.natCast_nonneg _
          have i2 : (s' : Int) < 2 := by omega
          have HOw : Hid (Calls Try.prog 33 #[.pointer (some ⟨b0, 0, none⟩), .int .i64 (s' : Int)] wr fun e w' => XO wr w' Xj B (Xj.pu.owe s') e) := (show Calls _ _ _ _ _ from by
            have := wowe_any hX.st.ok (by rw [hX.pu]; exact bP_inv HI.out s') (T := T + 1) (by rw [hX.pu]; exact bP_sz HT.out hT1 hw5 hs) (by omega) (Nat.le_trans hB hX.st.kept.size) hs
            rw [hXb] at this
            exact this)
          have HX : Hid (TnS w wr X B (bP P s') Xj) := hX
          clear hX hXb
          go_wp2_with (first | (go_at_call 33; refine HOw.out.mono ?_) | fail)
          rintro e w4 hx
          obtain ⟨he, X4, hxs, hpu⟩ := hx
          subst he
          have hS4 : TnS w w4 X B ((bP P s').owe s') X4 := HX.out.go hxs (by rw [hpu, HX.out.pu])
          have HAn : Hid (Calls Try.prog 34 #[.pointer (some ⟨b0, 0, none⟩), .int .i64 (s' : Int), .int .i64 0] w4 fun e w' => XO w4 w' X4 B (X4.pu.answer s' 0) e) := (show Calls _ _ _ _ _ from by
            have := wanswer_any hS4.st.ok (by rw [hS4.pu]; exact (bP_inv HI.out s').owe hs) hs (n := 0) (by omega) (by omega)
            rw [hS4.st.b, HB0.out] at this
            exact this)
          have HS4 : Hid (TnS w w4 X B ((bP P s').owe s') X4) := hS4
          clear hS4 hxs hpu HX HOw
          go_wp2_with (first | (go_at_call 34; refine HAn.out.mono ?_) | fail)
          rintro e w5 hx
          obtain ⟨he, X5, hxs, hpu⟩ := hx
          subst he
          have HN : Hid (∃ Xi, TnS w w5 X B (bP P (s' + 1)) Xi) := (show ∃ Xi, TnS _ _ _ _ _ Xi from ⟨X5, HS4.out.go hxs (by rw [hpu, HS4.out.pu, bP_next P hs]; rfl)⟩)
          clear hxs hpu HS4 HAn
          go_wp2
          exact ⟨⟨s' + 1, by omega, by go_num, HN⟩, by simp [intOf]; omega⟩
        · have hse : s' = 2 := by omega
          rw [hse] at hX
          have HZ : Hid (XO w wr X B P.turn (.returned (.bool true))) := (show XO _ _ _ _ _ _ from ⟨rfl, Xj, hX.st, hX.pu⟩)
          have n3 : ¬ (s' : Int) < 2 := by omega
          clear hX hse hs hs2 hXb
          go_wp2
          go_ret
          exact HZ.out
end
end Go.Proofs.Ytghihdenbdnnjaa.Ln
