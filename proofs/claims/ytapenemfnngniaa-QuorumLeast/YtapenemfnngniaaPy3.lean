import Derived.Test.YtapenemfnngniaaPx3
namespace Go.Proofs.Ytapenemfnngniaa.Qm
open Go.RowKit Mb
set_option linter.unusedVariables false
set_option maxRecDepth 100000
set_option linter.unusedSimpArgs false
section
variable {w w' W : World} {B : Nat}
def xF (x1 x2 x3 x4 x5 x6 x7 : Value) : Nat → Value
  | 1 => x1 | 2 => x2 | 3 => x3 | 4 => x4 | 5 => x5 | 6 => x6 | _ => x7
def eF (x1 x2 x3 x4 x5 x6 x7 : List El) : Nat → List El
  | 1 => x1 | 2 => x2 | 3 => x3 | 4 => x4 | 5 => x5 | 6 => x6 | _ => x7
def tF (t0 t1 t2 t3 t4 t5 t6 t7 : Nat) : Nat → Nat
  | 0 => t0 | 1 => t1 | 2 => t2 | 3 => t3 | 4 => t4 | 5 => t5 | 6 => t6 | _ => t7
theorem tF_up {t0 t1 t2 t3 t4 t5 t6 t7 : Nat} (h0 : t0 ≤ t1) (h1 : t1 ≤ t2) (h2 : t2 ≤ t3) (h3 : t3 ≤ t4) (h4 : t4 ≤ t5) (h5 : t5 ≤ t6) (h6 : t6 ≤ t7) : ∀ i, tF t0 t1 t2 t3 t4 t5 t6 t7 i ≤ tF t0 t1 t2 t3 t4 t5 t6 t7 (i + 1)
  | 0 => h0 | 1 => h1 | 2 => h2 | 3 => h3 | 4 => h4 | 5 => h5 | 6 => h6 | _ + 7 => Nat.le_refl _
theorem own_full {lo n : Nat} {v : Value} {xs : List Int} (h : w.ownsRow lo 3 1 v (n + 64) (ints xs)) : ∃ g c, v = .slice (some ⟨g, 0, none⟩) (n + 64) c ∧ RdI w (some ⟨g, 0, none⟩) (n + 64) c xs ∧ g < w.heap.size ∧ n ≤ c := by
  obtain ⟨g, c, rfl⟩ := own_some h (by omega)
  have h2 := own_rd h
  exact ⟨g, c, rfl, h2, (World.ownsRow.lt h g rfl).2, by have := h2.cap; omega⟩
theorem rdI_lt {ao : Option Addr} {n c : Nat} {xs : List Int} (h : RdI w ao n c xs) (hn : 0 < n) : ∀ b off, ao = some ⟨b, off, none⟩ → b < w.heap.size := fun b off e => by
  obtain ⟨b', off', e1, e2⟩ := h.at hn
  rw [e] at e1
  simp only [Option.some.injEq, Addr.mk.injEq] at e1
  have := World.block_lt_of_cell? w _ e2
  rw [e1.1]
  exact this
set_option maxHeartbeats 16000000 in
theorem least_any {ao : Option Addr} {n c : Nat} {xs : List Int} {bo : Option Addr} {m d : Nat} {ys : List Int} (hr : RdI w ao n c xs) (hr2 : RdI w bo m d ys) (hn : n ≤ 17592186043904) (hm : m ≤ 17592186043904) : Calls Try.prog 5 #[.slice ao n c, .slice bo m d] w fun e w' => e = .returned (.bool true) ∧ Below w.heap.size w w' := by
  have HR : Hid (RdI w ao n c xs) := hr
  have HR2 : Hid (RdI w bo m d ys) := hr2
  have HL1 := lent_any hr hn
  clear hr hr2
  go_enter Try.func5, Try.ntmps5
  go_wp2_with (fail)
  refine HL1.mono ?_
  rintro e w1 ⟨f, rfl, hf, hb1⟩
  obtain ⟨fb, fc, rfl, hfr, hfl, hfc⟩ := own_full hf
  have HL2 := lent_any (HR2.out.still hb1) hm
  clear hf
  go_wp2_with (fail)
  refine HL2.mono ?_
  rintro e w2 ⟨r, rfl, hr, hb2⟩
  obtain ⟨rb, rc, rfl, hrr, hrl, hrc⟩ := own_full hr
  have HBw : Hid (Below w.heap.size w w2) := bstep hb1 hb2
  have HF : Hid (RdI w2 (some ⟨fb, 0, none⟩) (n + 64) fc (xs ++ mks 64)) := hfr.still hb2
  have HFl : Hid (fb < w2.heap.size) := Nat.lt_of_lt_of_le hfl hb2.size
  have HG : Hid (RdI w2 (some ⟨rb, 0, none⟩) (m + 64) rc (ys ++ mks 64)) := hrr
  have HGl : Hid (rb < w2.heap.size) := hrl
  have HV1 : Hid (RdI w2 ao n c xs) := HR.out.still HBw.out
  have HV2 : Hid (RdI w2 bo m d ys) := HR2.out.still HBw.out
  have j1 : (n : Int) ≤ (fc : Int) := by omega
  have j0 : (0 : Int) ≤ (n : Int) := Int.natCast_nonneg _
  have j3 : (m : Int) ≤ (rc : Int) := by omega
  have j2 : (0 : Int) ≤ (m : Int) := Int.natCast_nonneg _
  clear hr hfr hrr hb1 hb2 hfl hrl hfc hrc HL1 HL2
  have HM1 : Hid (∀ V, Below w2.heap.size w2 V → Calls Try.prog 9 #[.slice (some ⟨fb, 0, none⟩) n fc] V fun e w' => ∃ x E, e = .returned (.tuple #[x, .int .i64 (chkE xs)]) ∧ E.map El.s = mnL xs ∧ Ll w' V.heap.size n x E ∧ Below V.heap.size V w' ∧ Ap E) := fun V hV => minT2 (by
    have h1 := (HF.out.still hV).take (m := n) (by omega)
    rw [← HV1.out.len, List.take_left, HV1.out.len] at h1
    exact h1)
  have HM2 : Hid (∀ V, Below w2.heap.size w2 V → Calls Try.prog 9 #[.slice (some ⟨rb, 0, none⟩) m rc] V fun e w' => ∃ x E, e = .returned (.tuple #[x, .int .i64 (chkE ys)]) ∧ E.map El.s = mnL ys ∧ Ll w' V.heap.size m x E ∧ Below V.heap.size V w' ∧ Ap E) := fun V hV => minT2 (by
    have h1 := (HG.out.still hV).take (m := m) (by omega)
    rw [← HV2.out.len, List.take_left, HV2.out.len] at h1
    exact h1)
  have HQ1 : Hid (∀ V, Below w2.heap.size w2 V → Calls Try.prog 13 #[.slice ao n c] V fun e w' => ∃ x E, e = .returned (.tuple #[x, .int .i64 (chkE xs)]) ∧ E.map El.s = mnL xs ∧ Ll w' V.heap.size n x E ∧ Below V.heap.size V w') := fun V hV => rminT (HV1.out.still hV)
  have HQ2 : Hid (∀ V, Below w2.heap.size w2 V → Calls Try.prog 13 #[.slice bo m d] V fun e w' => ∃ x E, e = .returned (.tuple #[x, .int .i64 (chkE ys)]) ∧ E.map El.s = mnL ys ∧ Ll w' V.heap.size m x E ∧ Below V.heap.size V w') := fun V hV => rminT (HV2.out.still hV)
  have HB2 : Hid (Below w2.heap.size w2 w2) := Below.refl _ _
  go_wp2_with (fail)
  refine (HM1.out _ HB2.out).mono ?_
  rintro e w3 ⟨x1, E1, rfl, hE1, hL1, hb1, hap1⟩
  have HA1 : Hid (∀ V, Below w3.heap.size w3 V → An V w2.heap.size w3.heap.size n x1 E1) := fun V hV => (An.of hL1 hap1).still hV
  have HE1 : Hid (E1.map El.s = mnL xs) := hE1
  have HB3 : Hid (Below w2.heap.size w2 w3) := bstep HB2.out hb1
  have HC1 : Hid (Below w2.heap.size w2 w3) := hb1
  clear hE1 hL1 hb1 hap1
  go_wp2_with (fail)
  refine (HM2.out _ HB3.out).mono ?_
  rintro e w4 ⟨x2, E2, rfl, hE2, hL2, hb2, hap2⟩
  have HA2 : Hid (∀ V, Below w4.heap.size w4 V → An V w3.heap.size w4.heap.size m x2 E2) := fun V hV => (An.of hL2 hap2).still hV
  have HE2 : Hid (E2.map El.s = mnL ys) := hE2
  have HB4 : Hid (Below w2.heap.size w2 w4) := bstep HB3.out hb2
  have HC2 : Hid (Below w3.heap.size w3 w4) := hb2
  clear hE2 hL2 hb2 hap2
  go_wp2_with (fail)
  refine (HM1.out _ HB4.out).mono ?_
  rintro e w5 ⟨x3, E3, rfl, hE3, hL3, hb3, hap3⟩
  have HA3 : Hid (∀ V, Below w5.heap.size w5 V → An V w4.heap.size w5.heap.size n x3 E3) := fun V hV => (An.of hL3 hap3).still hV
  have HE3 : Hid (E3.map El.s = mnL xs) := hE3
  have HB5 : Hid (Below w2.heap.size w2 w5) := bstep HB4.out hb3
  have HC3 : Hid (Below w4.heap.size w4 w5) := hb3
  clear hE3 hL3 hb3 hap3
  go_wp2_with (fail)
  refine (HM2.out _ HB5.out).mono ?_
  rintro e w6 ⟨x4, E4, rfl, hE4, hL4, hb4, hap4⟩
  have HA4 : Hid (∀ V, Below w6.heap.size w6 V → An V w5.heap.size w6.heap.size m x4 E4) := fun V hV => (An.of hL4 hap4).still hV
  have HE4 : Hid (E4.map El.s = mnL ys) := hE4
  have HB6 : Hid (Below w2.heap.size w2 w6) := bstep HB5.out hb4
  have HC4 : Hid (Below w5.heap.size w5 w6) := hb4
  clear hE4 hL4 hb4 hap4
  go_wp2_with (fail)
  refine (HM2.out _ HB6.out).mono ?_
  rintro e w7 ⟨x5, E5, rfl, hE5, hL5, hb5, hap5⟩
  have HA5 : Hid (∀ V, Below w7.heap.size w7 V → An V w6.heap.size w7.heap.size m x5 E5) := fun V hV => (An.of hL5 hap5).still hV
  have HE5 : Hid (E5.map El.s = mnL ys) := hE5
  have HB7 : Hid (Below w2.heap.size w2 w7) := bstep HB6.out hb5
  have HC5 : Hid (Below w6.heap.size w6 w7) := hb5
  clear hE5 hL5 hb5 hap5
  go_wp2_with (fail)
  refine (HQ1.out _ HB7.out).mono ?_
  rintro e w8 ⟨x6, E6, rfl, hE6, hL6, hb6⟩
  have HA6 : Hid (∀ V, Below w8.heap.size w8 V → An0 V w7.heap.size w8.heap.size n x6 E6) := fun V hV => (An0.of hL6).still hV
  have HE6 : Hid (E6.map El.s = mnL xs) := hE6
  have HB8 : Hid (Below w2.heap.size w2 w8) := bstep HB7.out hb6
  have HC6 : Hid (Below w7.heap.size w7 w8) := hb6
  clear hE6 hL6 hb6
  go_wp2_with (fail)
  refine (HQ2.out _ HB8.out).mono ?_
  rintro e w9 ⟨x7, E7, rfl, hE7, hL7, hb7⟩
  have HA7 : Hid (∀ V, Below w9.heap.size w9 V → An0 V w8.heap.size w9.heap.size m x7 E7) := fun V hV => (An0.of hL7).still hV
  have HE7 : Hid (E7.map El.s = mnL ys) := hE7
  have HB9 : Hid (Below w2.heap.size w2 w9) := bstep HB8.out hb7
  have HC7 : Hid (Below w8.heap.size w8 w9) := hb7
  clear hE7 hL7 hb7
  have HD : Hid (∃ D : Dt, D = ⟨n, m, xs, ys, fb, fc, rb, rc, ao, c, bo, d, w, xF x1 x2 x3 x4 x5 x6 x7, eF E1 E2 E3 E4 E5 E6 E7, tF w2.heap.size w3.heap.size w4.heap.size w5.heap.size w6.heap.size w7.heap.size w8.heap.size w9.heap.size⟩) := ⟨_, rfl⟩
  obtain ⟨D, hD⟩ := HD.out
  clear HD
  have c9 : Below w9.heap.size w9 w9 := Below.refl _ _
  have c8 : Below w8.heap.size w8 w9 := HC7.out
  have c7 : Below w7.heap.size w7 w9 := bstep HC6.out c8
  have c6 : Below w6.heap.size w6 w9 := bstep HC5.out c7
  have c5 : Below w5.heap.size w5 w9 := bstep HC4.out c6
  have c4 : Below w4.heap.size w4 w9 := bstep HC3.out c5
  have c3 : Below w3.heap.size w3 w9 := bstep HC2.out c4
  have HP : Hid (Sv D w9) := by
    subst hD
    exact ⟨⟨bstep HBw.out HB9.out, HBw.out.size, Nat.le_refl _, HF.out.still HB9.out, HFl.out, HG.out.still HB9.out, HGl.out, HV1.out.still HB9.out, fun h0 => rdI_lt HV1.out h0, HV2.out.still HB9.out, fun h0 => rdI_lt HV2.out h0,
      tF_up HC1.out.size HC2.out.size HC3.out.size HC4.out.size HC5.out.size HC6.out.size HC7.out.size, hn, hm, HA6.out _ c8, HA7.out _ c9, HE6.out, HE7.out⟩, HA1.out _ c3, HA2.out _ c4, HA3.out _ c5, HA4.out _ c6, HA5.out _ c7, HE1.out, HE2.out, HE3.out, HE4.out, HE5.out⟩
  have en : D.n = n := by rw [hD]
  have em : D.m = m := by rw [hD]
  have ef : D.fb = fb ∧ D.fc = fc ∧ D.rb = rb ∧ D.rc = rc := by rw [hD]; exact ⟨rfl, rfl, rfl, rfl⟩
  have ev : D.vo = ao ∧ D.vc = c ∧ D.oo = bo ∧ D.oc = d := by rw [hD]; exact ⟨rfl, rfl, rfl, rfl⟩
  have ex : D.x 1 = x1 ∧ D.x 2 = x2 ∧ D.x 3 = x3 ∧ D.x 4 = x4 ∧ D.x 5 = x5 ∧ D.x 6 = x6 ∧ D.x 7 = x7 := by rw [hD]; exact ⟨rfl, rfl, rfl, rfl, rfl, rfl, rfl⟩
  have ex0 : D.w0 = w ∧ D.xs = xs ∧ D.ys = ys := by rw [hD]; exact ⟨rfl, rfl, rfl⟩
  have hL16 : (∀ V, Sv D V → Calls Try.prog 15 #[x1, x6] V fun e w' => e = .returned (.bool true) ∧ Sv D w') := fun V hV => by
    have h1 := hV.lists16
    rw [ex.1, ex.2.2.2.2.2.1] at h1
    exact h1
  have hL36 : (∀ V, Sv D V → Calls Try.prog 15 #[x3, x6] V fun e w' => e = .returned (.bool true) ∧ Sv D w') := fun V hV => by
    have h1 := hV.lists36
    rw [ex.2.2.1, ex.2.2.2.2.2.1] at h1
    exact h1
  have hL27 : (∀ V, Sv D V → Calls Try.prog 15 #[x2, x7] V fun e w' => e = .returned (.bool true) ∧ Sv D w') := fun V hV => by
    have h1 := hV.lists27
    rw [ex.2.1, ex.2.2.2.2.2.2] at h1
    exact h1
  have hL47 : (∀ V, Sv D V → Calls Try.prog 15 #[x4, x7] V fun e w' => e = .returned (.bool true) ∧ Sv D w') := fun V hV => by
    have h1 := hV.lists47
    rw [ex.2.2.2.1, ex.2.2.2.2.2.2] at h1
    exact h1
  have hL57 : (∀ V, Sv D V → Calls Try.prog 15 #[x5, x7] V fun e w' => e = .returned (.bool true) ∧ Sv D w') := fun V hV => by
    have h1 := hV.lists57
    rw [ex.2.2.2.2.1, ex.2.2.2.2.2.2] at h1
    exact h1
  have HLs : Hid (∀ V a b, (a = x1 ∧ b = x6) ∨ (a = x3 ∧ b = x6) ∨ (a = x2 ∧ b = x7) ∨ (a = x4 ∧ b = x7) ∨ (a = x5 ∧ b = x7) → Sv D V → Calls Try.prog 15 #[a, b] V fun e w' => e = .returned (.bool true) ∧ Sv D w') := fun V a b h hV => by
    rcases h with ⟨rfl, rfl⟩ | ⟨rfl, rfl⟩ | ⟨rfl, rfl⟩ | ⟨rfl, rfl⟩ | ⟨rfl, rfl⟩
    · exact hL16 V hV
    · exact hL36 V hV
    · exact hL27 V hV
    · exact hL47 V hV
    · exact hL57 V hV
  have hG1 : (∀ V, Sv D V → Calls Try.prog 17 #[x1, x6] V fun e w' => e = .returned (.bool true) ∧ Sv D w') := fun V hV => by
    have h1 := hV.grown1
    rw [ex.1, ex.2.2.2.2.2.1] at h1
    exact h1
  have hG2 : (∀ V, Sv D V → Calls Try.prog 17 #[x2, x7] V fun e w' => e = .returned (.bool true) ∧ Sv D w') := fun V hV => by
    have h1 := hV.grown2
    rw [ex.2.1, ex.2.2.2.2.2.2] at h1
    exact h1
  have hK1 : (∀ V, Sv D V → Calls Try.prog 16 #[.slice (some ⟨fb, 0, none⟩) (n + 64) fc, .slice ao n c] V fun e w' => e = .returned (.bool true) ∧ Sv D w') := fun V hV => by
    have h1 := kept_any hV.bs.f hV.bs.v hV.bs.n1
    rw [ef.1, ef.2.1, ev.1, ev.2.1, en] at h1
    exact h1.mono fun e w' ⟨h2, h3⟩ => ⟨h2, hV.still h3⟩
  have hK2 : (∀ V, Sv D V → Calls Try.prog 16 #[.slice (some ⟨rb, 0, none⟩) (m + 64) rc, .slice bo m d] V fun e w' => e = .returned (.bool true) ∧ Sv D w') := fun V hV => by
    have h1 := kept_any hV.bs.r hV.bs.o hV.bs.m1
    rw [ef.2.2.1, ef.2.2.2, ev.2.2.1, ev.2.2.2, em] at h1
    exact h1.mono fun e w' ⟨h2, h3⟩ => ⟨h2, hV.still h3⟩
  have HGs : Hid (∀ V a b, (a = x1 ∧ b = x6) ∨ (a = x2 ∧ b = x7) → Sv D V → Calls Try.prog 17 #[a, b] V fun e w' => e = .returned (.bool true) ∧ Sv D w') := fun V a b h hV => by
    rcases h with ⟨rfl, rfl⟩ | ⟨rfl, rfl⟩
    · exact hG1 V hV
    · exact hG2 V hV
  have HKs : Hid (∀ V a b, (a = .slice (some ⟨fb, 0, none⟩) (n + 64) fc ∧ b = .slice ao n c) ∨ (a = .slice (some ⟨rb, 0, none⟩) (m + 64) rc ∧ b = .slice bo m d) → Sv D V → Calls Try.prog 16 #[a, b] V fun e w' => e = .returned (.bool true) ∧ Sv D w') := fun V a b h hV => by
    rcases h with ⟨rfl, rfl⟩ | ⟨rfl, rfl⟩
    · exact hK1 V hV
    · exact hK2 V hV
  have HNu : Hid (∀ V x, Calls Try.prog 14 #[.int .i64 x] V fun e w' => e = .returned (.int .i64 x) ∧ V = w') := fun V x => num_any x
  have HEn : Hid (∀ V, Bs D V → Below w.heap.size w V) := fun V hV => by
    have h1 := hV.bw
    rw [ex0.1] at h1
    exact h1
  have HMl : Hid (∀ V, Bs D V → Calls Try.prog 9 #[.slice (some ⟨fb, 0, none⟩) n fc] V fun e w' => ∃ x, e = .returned (.tuple #[x, .int .i64 (chkE xs)]) ∧ Bs D w' ∧ ∀ V', Bs D V' → Below w'.heap.size w' V' → Calls Try.prog 15 #[x, x6] V' fun e w2 => e = .returned (.bool true) ∧ Bs D w2) := fun V hV => by
    have h1 := hV.last
    rw [ef.1, ef.2.1, en, ex0.2.1, ex.2.2.2.2.2.1] at h1
    exact h1
  have HKl : Hid (∀ V, Bs D V → Calls Try.prog 16 #[.slice (some ⟨fb, 0, none⟩) (n + 64) fc, .slice ao n c] V fun e w' => e = .returned (.bool true) ∧ Bs D w') := fun V hV => by
    have h1 := kept_any hV.f hV.v hV.n1
    rw [ef.1, ef.2.1, ev.1, ev.2.1, en] at h1
    exact h1.mono fun e w' ⟨h2, h3⟩ => ⟨h2, hV.still h3⟩
  have HX : Hid (D.x 1 = x1 ∧ D.x 2 = x2 ∧ D.x 3 = x3 ∧ D.x 4 = x4 ∧ D.x 5 = x5 ∧ D.x 6 = x6 ∧ D.x 7 = x7) := ex
  clear hL16 hL36 hL27 hL47 hL57 hG1 hG2 hK1 hK2 c3 c4 c5 c6 c7 c8 c9 hD en em ef ev ex ex0 HA1 HA2 HA3 HA4 HA5 HA6 HA7 HE1 HE2 HE3 HE4 HE5 HE6 HE7 HB2 HB3 HB4 HB5 HB6 HB7 HB8 HB9 HC1 HC2 HC3 HC4 HC5 HC6 HC7 HM1 HM2 HQ1 HQ2 HR HR2 HF HG HFl HGl HV1 HV2 HBw
  generalize chkE xs = ev1 at *
  generalize chkE ys = ev2 at *
  go_upto_region 15 with (first
    | (go_at_call 14; refine (HNu.out _ _).mono ?_; rintro e wn ⟨rfl, rfl⟩)
    | (go_at_call 15; refine (HLs.out _ _ _ (by first | exact .inl ⟨rfl, rfl⟩ | exact .inr (.inl ⟨rfl, rfl⟩) | exact .inr (.inr (.inl ⟨rfl, rfl⟩)) | exact .inr (.inr (.inr (.inl ⟨rfl, rfl⟩))) | exact .inr (.inr (.inr (.inr ⟨rfl, rfl⟩)))) HP.out).mono ?_; rintro e wn ⟨rfl, hbn⟩; replace HP : Hid (Sv D wn) := hbn; clear hbn)
    | (go_at_call 16; refine (HKs.out _ _ _ (by first | exact .inl ⟨rfl, rfl⟩ | exact .inr ⟨rfl, rfl⟩) HP.out).mono ?_; rintro e wn ⟨rfl, hbn⟩; replace HP : Hid (Sv D wn) := hbn; clear hbn)
    | (go_at_call 17; refine (HGs.out _ _ _ (by first | exact .inl ⟨rfl, rfl⟩ | exact .inr ⟨rfl, rfl⟩) HP.out).mono ?_; rintro e wn ⟨rfl, hbn⟩; replace HP : Hid (Sv D wn) := hbn; clear hbn)
    | fail)
  have HTb : Hid (∀ V, Sv D V → D.t 0 ≤ V.heap.size) := fun V hV => by
    have h1 := ups hV.bs.up 0 7
    simp only [Nat.zero_add] at h1
    exact Nat.le_trans h1 hV.bs.tl
  have HR0 : Hid (wn.ownsRow wn.heap.size 22 1 (.slice none 0 0) ([] : List El).length (([] : List El).map El.v)) := ⟨rfl, .inl ⟨rfl, rfl⟩⟩
  have HB0 : Hid (Below wn.heap.size wn wn) := Below.refl _ _
  have HLn : Hid ((D.E 1).length ≤ 65536 ∧ (D.E 2).length ≤ 65536 ∧ (D.E 3).length ≤ 65536 ∧ (D.E 4).length ≤ 65536 ∧ (D.E 5).length ≤ 65536) := ⟨mn_len HP.out.e1, mn_len HP.out.e2, mn_len HP.out.e3, mn_len HP.out.e4, mn_len HP.out.e5⟩
  obtain ⟨A0, hA0⟩ : ∃ A : List El, [] = A := ⟨_, rfl⟩
  rw [hA0] at HR0
  have HA0 : Hid (A0.length ≤ 0) := by rw [← hA0]; exact Nat.le_refl _
  have HX1 : Hid (wn.ownsRow (D.t 0) 22 1 x1 (D.E 1).length ((D.E 1).map El.v)) := by
    have h1 := (HP.out.still HB0.out).a1.ll.row
    rw [HX.out.1] at h1
    exact h1
  obtain ⟨A1, hA1⟩ : ∃ A : List El, A0 ++ D.E 1 = A := ⟨_, rfl⟩
  have HAe1 : Hid (A0 ++ D.E 1 = A1) := hA1
  have HA1 : Hid (A1.length ≤ 65536) := by
    have h1 := HLn.out
    have h2 := HA0.out
    show _ ≤ _
    rw [← hA1, List.length_append]
    omega
  have HLe1 : Hid (A0.length + (D.E 1).length ≤ 1000000) := by
    have h1 := HLn.out
    have h2 := HA0.out
    show _ ≤ _
    omega
  clear hA1
  go_wp2_with (first
    | (at_builtin; refine app_rows2 (w0 := wn) rfl (.tmp 174) (.tmp 175) rfl _ A0 rfl HR0.out HB0.out _ (D.E 1) rfl HX1.out HLe1.out A1 HAe1.out ?_)
    | fail)
  intro va1 wb1 HR1 HB1
  have HX2 : Hid (wb1.ownsRow (D.t 1) 22 1 x2 (D.E 2).length ((D.E 2).map El.v)) := by
    have h1 := (HP.out.still HB1.out).a2.ll.row
    rw [HX.out.2.1] at h1
    exact h1
  obtain ⟨A2, hA2⟩ : ∃ A : List El, A1 ++ D.E 2 = A := ⟨_, rfl⟩
  have HAe2 : Hid (A1 ++ D.E 2 = A2) := hA2
  have HA2 : Hid (A2.length ≤ 131072) := by
    have h1 := HLn.out
    have h2 := HA1.out
    show _ ≤ _
    rw [← hA2, List.length_append]
    omega
  have HLe2 : Hid (A1.length + (D.E 2).length ≤ 1000000) := by
    have h1 := HLn.out
    have h2 := HA1.out
    show _ ≤ _
    omega
  clear hA2
  go_wp2_with (first
    | (at_builtin; refine app_rows2 (w0 := wn) rfl (.tmp 177) (.tmp 178) rfl _ A1 rfl HR1.out HB1.out _ (D.E 2) rfl HX2.out HLe2.out A2 HAe2.out ?_)
    | fail)
  intro va2 wb2 HR2 HB2
  have HX3 : Hid (wb2.ownsRow (D.t 2) 22 1 x3 (D.E 3).length ((D.E 3).map El.v)) := by
    have h1 := (HP.out.still HB2.out).a3.ll.row
    rw [HX.out.2.2.1] at h1
    exact h1
  obtain ⟨A3, hA3⟩ : ∃ A : List El, A2 ++ D.E 3 = A := ⟨_, rfl⟩
  have HAe3 : Hid (A2 ++ D.E 3 = A3) := hA3
  have HA3 : Hid (A3.length ≤ 196608) := by
    have h1 := HLn.out
    have h2 := HA2.out
    show _ ≤ _
    rw [← hA3, List.length_append]
    omega
  have HLe3 : Hid (A2.length + (D.E 3).length ≤ 1000000) := by
    have h1 := HLn.out
    have h2 := HA2.out
    show _ ≤ _
    omega
  clear hA3
  go_wp2_with (first
    | (at_builtin; refine app_rows2 (w0 := wn) rfl (.tmp 180) (.tmp 181) rfl _ A2 rfl HR2.out HB2.out _ (D.E 3) rfl HX3.out HLe3.out A3 HAe3.out ?_)
    | fail)
  intro va3 wb3 HR3 HB3
  have HX4 : Hid (wb3.ownsRow (D.t 3) 22 1 x4 (D.E 4).length ((D.E 4).map El.v)) := by
    have h1 := (HP.out.still HB3.out).a4.ll.row
    rw [HX.out.2.2.2.1] at h1
    exact h1
  obtain ⟨A4, hA4⟩ : ∃ A : List El, A3 ++ D.E 4 = A := ⟨_, rfl⟩
  have HAe4 : Hid (A3 ++ D.E 4 = A4) := hA4
  have HA4 : Hid (A4.length ≤ 262144) := by
    have h1 := HLn.out
    have h2 := HA3.out
    show _ ≤ _
    rw [← hA4, List.length_append]
    omega
  have HLe4 : Hid (A3.length + (D.E 4).length ≤ 1000000) := by
    have h1 := HLn.out
    have h2 := HA3.out
    show _ ≤ _
    omega
  clear hA4
  go_wp2_with (first
    | (at_builtin; refine app_rows2 (w0 := wn) rfl (.tmp 183) (.tmp 184) rfl _ A3 rfl HR3.out HB3.out _ (D.E 4) rfl HX4.out HLe4.out A4 HAe4.out ?_)
    | fail)
  intro va4 wb4 HR4 HB4
  have HX5 : Hid (wb4.ownsRow (D.t 4) 22 1 x5 (D.E 5).length ((D.E 5).map El.v)) := by
    have h1 := (HP.out.still HB4.out).a5.ll.row
    rw [HX.out.2.2.2.2.1] at h1
    exact h1
  obtain ⟨A5, hA5⟩ : ∃ A : List El, A4 ++ D.E 5 = A := ⟨_, rfl⟩
  have HAe5 : Hid (A4 ++ D.E 5 = A5) := hA5
  have HA5 : Hid (A5.length ≤ 327680) := by
    have h1 := HLn.out
    have h2 := HA4.out
    show _ ≤ _
    rw [← hA5, List.length_append]
    omega
  have HLe5 : Hid (A4.length + (D.E 5).length ≤ 1000000) := by
    have h1 := HLn.out
    have h2 := HA4.out
    show _ ≤ _
    omega
  clear hA5
  go_wp2_with (first
    | (at_builtin; refine app_rows2 (w0 := wn) rfl (.tmp 186) (.tmp 187) rfl _ A4 rfl HR4.out HB4.out _ (D.E 5) rfl HX5.out HLe5.out A5 HAe5.out ?_)
    | fail)
  intro va5 wb5 HR5 HB5
  have HA : Hid (A5 = all5 D) := by
    show _ = _
    rw [← HAe5.out, ← HAe4.out, ← HAe3.out, ← HAe2.out, ← HAe1.out, ← hA0]
    rfl
  have HAl : Hid (Calls Try.prog 18 #[va5] wb5 fun e w' => e = .returned (.bool true) ∧ Bs D w') := by
    have hS := HP.out.still HB5.out
    have hR := HR5.out
    rw [HA.out] at hR
    have hA := hS.al (W0 := wn) hR (HTb.out _ HP.out)
    refine (alone_yes hA ?_ ?_ (HTb.out _ hS)).mono fun e w' ⟨h1, h2⟩ => ⟨h1, hS.bs.keep h2 hS.inE5⟩
    · have h1 := HLn.out
      unfold all5
      simp only [List.length_append, List.length_nil]
      omega
    · intro i hi
      rw [zi_len]
      have := listN_len ((all5 D).getD i el0).s 16
      omega
  clear HA hA0 HAe1 HAe2 HAe3 HAe4 HAe5 HA0 HA1 HA2 HA3 HA4 HA5 HX1 HX2 HX3 HX4 HX5 HLe1 HLe2 HLe3 HLe4 HLe5 HR0 HR1 HR2 HR3 HR4 HR5 HB0 HB1 HB2 HB3 HB4 HB5 HLs HGs HKs HTb HLn HP
  go_wp2_with (first
    | (go_at_call 18; refine HAl.out.mono ?_; rintro e wc ⟨rfl, hc⟩; have HQ : Hid (Bs D wc) := hc; clear hc)
    | (go_at_call 9; refine (HMl.out _ HQ.out).mono ?_; rintro e wd ⟨xl, rfl, hd, hl⟩; have HQ2 : Hid (Bs D wd) := hd; have HLl : Hid (∀ V', Bs D V' → Below wd.heap.size wd V' → Calls Try.prog 15 #[xl, x6] V' fun e w2 => e = .returned (.bool true) ∧ Bs D w2) := hl; clear hd hl)
    | (go_at_call 14; refine (HNu.out _ _).mono ?_; rintro e wx ⟨rfl, rfl⟩)
    | (go_at_call 15; refine (HLl.out _ HQ2.out (Below.refl _ _)).mono ?_; rintro e we ⟨rfl, he⟩; have HQ3 : Hid (Bs D we) := he; clear he)
    | (go_at_call 16; refine (HKl.out _ HQ3.out).mono ?_; rintro e wf ⟨rfl, hf⟩; have HQ4 : Hid (Bs D wf) := hf; clear hf)
    | fail)
  go_ret
  exact ⟨rfl, HEn.out _ HQ4.out⟩
end
end Go.Proofs.Ytapenemfnngniaa.Qm
