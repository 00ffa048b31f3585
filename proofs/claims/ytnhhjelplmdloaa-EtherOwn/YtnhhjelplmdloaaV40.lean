import Derived.Test.YtnhhjelplmdloaaV39
import Derived.Test.YtnhhjelplmdloaaV34
namespace Go.Proofs.Ytnhhjelplmdloaa.Et
open Go.RowKit Go.Maps
set_option linter.unusedVariables false
set_option linter.unusedSimpArgs false
set_option maxRecDepth 100000
section
variable {w w' w0 w1 w2 w3 : World} {B T s : Nat} {S S' S1 : St} {sb : Nat} {fb fo : Nat → Nat → Value} {P Q : Nat → Prop}
theorem hidJ {p : Prop} (h : p) : Hid p := h
structure St.Fit (S : St) : Prop where
  bn : S.b.n = S.N
  mn : S.m.n = S.N
  on : S.o.n = S.M
  ln : S.l.n = S.M
  bN : S.N ≤ 100000
  bM : S.M ≤ 1000
  lb : ∀ i, i < S.N → (S.vb i).n ≤ 40000
  lo : ∀ i, i < S.M → (S.vo i).n ≤ 1000
theorem Gf0 (q k : Nat) : Gf q (k * 5) = .int .i64 (-1 - (q : Int)) := by
  unfold Gf
  rw [show k * 5 / 5 = k by omega, show k * 5 % 5 = 0 by omega]; rfl
theorem Gf1 (q k : Nat) : Gf q (k * 5 + 1) = .int .i64 (k : Int) := by
  unfold Gf
  rw [show (k * 5 + 1) / 5 = k by omega, show (k * 5 + 1) % 5 = 1 by omega]; rfl
theorem Gf2 (q k : Nat) : Gf q (k * 5 + 2) = .int .i64 0 := by
  unfold Gf
  rw [show (k * 5 + 2) / 5 = k by omega, show (k * 5 + 2) % 5 = 2 by omega]; rfl
theorem Gf3 (q k : Nat) : Gf q (k * 5 + 3) = .int .i64 0 := by
  unfold Gf
  rw [show (k * 5 + 3) / 5 = k by omega, show (k * 5 + 3) % 5 = 3 by omega]; rfl
theorem Gf4 (q k : Nat) : Gf q (k * 5 + 4) = .slice none 0 0 := by
  unfold Gf
  rw [show (k * 5 + 4) / 5 = k by omega, show (k * 5 + 4) % 5 = 4 by omega]; rfl
theorem getB {y : Sl} {t i k : Nat} {G : Nat → Nat → Value} (h : w.ownsRow B t 1 y.v y.n (rv (y.n * 1) (G i))) (hk : k < y.n) : ∃ g, y.a = some ⟨g, 0, none⟩ ∧ w.cell? ⟨g, k, none⟩ = some (G i k) := row_get (by rw [Nat.mul_one] at h; exact h) hk
theorem St.Ok.c0 (h : S.Ok w B sb fb fo) : w.cell? ⟨sb, 0, none⟩ = some (.slice S.b.a S.b.n S.b.c) := blk_cell h.blk 0
theorem St.Ok.c1 (h : S.Ok w B sb fb fo) : w.cell? ⟨sb, 1, none⟩ = some (.slice S.m.a S.m.n S.m.c) := blk_cell h.blk 1
theorem St.Ok.c2 (h : S.Ok w B sb fb fo) : w.cell? ⟨sb, 2, none⟩ = some (.slice S.o.a S.o.n S.o.c) := blk_cell h.blk 2
theorem St.Ok.c3 (h : S.Ok w B sb fb fo) : w.cell? ⟨sb, 3, none⟩ = some (.slice S.l.a S.l.n S.l.c) := blk_cell h.blk 3
theorem cell_up {g p : Nat} {v : Value} (hb : Below w.heap.size w w') (h : w.cell? ⟨g, p, none⟩ = some v) : w'.cell? ⟨g, p, none⟩ = some v := below_at hb h
set_option maxHeartbeats 8000000 in
theorem whole_any {b f : Nat} (h : S.Ok w B sb Gb Gf) (t : S.Fit) (hb : b ≤ S.N) (hf : f ≤ S.M) : Calls Try.prog 24 #[.pointer (some ⟨sb, 0, none⟩), .int .i64 (b : Int), .int .i64 (f : Int)] w fun e w' => e = .returned (.bool true) ∧ Below w.heap.size w w' := by
  have HOk : Hid (S.Ok w B sb Gb Gf) := h
  have HT : Hid S.Fit := t
  obtain ⟨NN, hNN⟩ : ∃ NN, S.N = NN := ⟨_, rfl⟩
  obtain ⟨MM, hMM⟩ : ∃ MM, S.M = MM := ⟨_, rfl⟩
  have HNN : Hid (S.N = NN ∧ S.M = MM ∧ S.b.n = NN ∧ S.m.n = NN ∧ S.o.n = MM ∧ S.l.n = MM) := ⟨hNN, hMM, t.bn.trans hNN, t.mn.trans hNN, t.on.trans hMM, t.ln.trans hMM⟩
  have nN : NN ≤ 100000 := by rw [← hNN]; exact t.bN
  have nM : MM ≤ 1000 := by rw [← hMM]; exact t.bM
  rw [hNN] at hb
  rw [hMM] at hf
  have i1 : (0 : Int) ≤ (b : Int) := Int.natCast_nonneg _
  have i2 : (0 : Int) ≤ (f : Int) := Int.natCast_nonneg _
  have HC0 : Hid (∀ X, Below w.heap.size w X → X.cell? ⟨sb, 0, none⟩ = some (.slice S.b.a NN S.b.c)) := fun X hX => by have := cell_up hX h.c0; rwa [HNN.out.2.2.1] at this
  have HC1 : Hid (∀ X, Below w.heap.size w X → X.cell? ⟨sb, 1, none⟩ = some (.slice S.m.a NN S.m.c)) := fun X hX => by have := cell_up hX h.c1; rwa [HNN.out.2.2.2.1] at this
  have HC2 : Hid (∀ X, Below w.heap.size w X → X.cell? ⟨sb, 2, none⟩ = some (.slice S.o.a MM S.o.c)) := fun X hX => by have := cell_up hX h.c2; rwa [HNN.out.2.2.2.2.1] at this
  have HC3 : Hid (∀ X, Below w.heap.size w X → X.cell? ⟨sb, 3, none⟩ = some (.slice S.l.a MM S.l.c)) := fun X hX => by have := cell_up hX h.c3; rwa [HNN.out.2.2.2.2.2] at this
  have c0 := HC0.out w (Below.refl _ w)
  clear h t hNN hMM
  go_enter Try.func24, Try.ntmps24
  go_wp2_with fail
  go_loopw [7] (fun i wr => ∃ q : Nat, b ≤ q ∧ q ≤ NN ∧ i = .int .i64 (q : Int) ∧ Below w.heap.size w wr) (fun i _ => NN - (intOf i).toNat)
  case atStart => exact ⟨b, Nat.le_refl _, hb, rfl, Below.refl _ w⟩
  case round =>
    as_aux_lemma =>
    obtain ⟨q, hq0, hq, rfl, hbl⟩ := hrel
    have HB : Hid (Below w.heap.size w wr) := hbl
    clear c0
    have c0 := HC0.out wr hbl
    clear hbl
    have j1 : (0 : Int) ≤ (q : Int) := Int.natCast_nonneg _
    by_cases hlt : q < NN
    · have j2 : (q : Int) < (NN : Int) := by omega
      obtain ⟨mg, hma, hmq⟩ := row_get HOk.out.rm (i := q) (by rw [HNN.out.2.2.2.1]; exact hlt)
      obtain ⟨bg, hba, hbq⟩ := row_get HOk.out.rb (i := q) (by rw [HNN.out.2.2.1]; exact hlt)
      obtain ⟨⟨xa, xn, xc⟩, hx⟩ : ∃ x, S.vm q = x := ⟨_, rfl⟩
      obtain ⟨⟨ya, yn, yc⟩, hy⟩ : ∃ x, S.vb q = x := ⟨_, rfl⟩
      have hxy : xn = yn + 64 := by
        have h1 := HOk.out.gm.n q (by rw [HNN.out.2.2.2.1]; exact hlt)
        rw [hx, hy] at h1
        exact h1
      have hyn : yn ≤ 40000 := by
        have h1 := HT.out.lb q (by rw [HNN.out.1]; exact hlt)
        rw [hy] at h1
        exact h1
      have ro := HOk.out.gm.o q (by rw [HNN.out.2.2.2.1]; exact hlt)
      have rb := HOk.out.fb.o q (by rw [HNN.out.1]; exact hlt)
      rw [hx] at ro hmq
      rw [hy] at rb hbq
      have HRo : Hid (∀ k, k < xn → ∃ g, xa = some ⟨g, 0, none⟩ ∧ w.cell? ⟨g, k, none⟩ = some (.int .u8 (sgv q k))) := fun k hk => getB ro hk
      have HRb : Hid (∀ k, k < yn → ∃ g, ya = some ⟨g, 0, none⟩ ∧ w.cell? ⟨g, k, none⟩ = some (.int .u8 (sgv q k))) := fun k hk => getB rb hk
      rw [hba] at HC0
      rw [hma] at HC1
      clear c0
      have HC0 : Hid (∀ X, Below w.heap.size w X → X.cell? ⟨sb, 0, none⟩ = some (.slice (some ⟨bg, 0, none⟩) NN S.b.c)) := HC0
      have HC1 : Hid (∀ X, Below w.heap.size w X → X.cell? ⟨sb, 1, none⟩ = some (.slice (some ⟨mg, 0, none⟩) NN S.m.c)) := HC1
      have HCm : Hid (∀ X, Below w.heap.size w X → X.cell? ⟨mg, q, none⟩ = some (.slice xa xn xc)) := fun X hX => cell_up hX hmq
      have HCb : Hid (∀ X, Below w.heap.size w X → X.cell? ⟨bg, q, none⟩ = some (.slice ya yn yc)) := fun X hX => cell_up hX hbq
      have HSg : Hid (∀ (k : Nat), k ≤ 50000 → ∀ X, Calls Try.prog 44 #[.int .i64 (q : Int), .int .i64 (k : Int)] X fun e w' => e = .returned (.int .u8 (sgv q k)) ∧ X = w') := fun k hk X => sign_any q k (by omega) (by omega)
      clear hma hmq hba hbq hx hy ro rb
      have c0 := HC0.out wr HB.out
      go_wp2_with fail
      clear c0
      go_loopw [8] (fun i wr => ∃ k : Nat, k ≤ xn ∧ i = .int .i64 (k : Int) ∧ Below w.heap.size w wr) (fun i _ => xn - (intOf i).toNat)
      case atStart => exact ⟨0, Nat.zero_le _, rfl, HB.out⟩
      case round =>
        as_aux_lemma =>
        obtain ⟨k, hk, rfl, hbl⟩ := hrel
        have HB2 : Hid (Below w.heap.size w wr) := hbl
        have c1 := HC1.out wr hbl
        have cm := HCm.out wr hbl
        clear hbl HB
        have k1 : (0 : Int) ≤ (k : Int) := Int.natCast_nonneg _
        by_cases hlk : k < xn
        · have k2 : (k : Int) < (xn : Int) := by omega
          have HSg := HSg.out k (by omega)
          have HSg : Hid (∀ X, Calls Try.prog 44 #[.int .i64 (q : Int), .int .i64 (k : Int)] X fun e w' => e = .returned (.int .u8 (sgv q k)) ∧ X = w') := hidJ HSg
          obtain ⟨xg, hxa, hxc⟩ := HRo.out k hlk
          subst hxa
          have HCx : Hid (wr.cell? ⟨xg, k, none⟩ = some (.int .u8 (sgv q k))) := cell_up HB2.out hxc
          clear hxc
          go_upto_region 7 with fail
          clear c1 cm
          by_cases hky : k < yn
          · have k3 : (k : Int) < (yn : Int) := by omega
            obtain ⟨yg, hya, hyc⟩ := HRb.out k hky
            subst hya
            have HCy : Hid (wr.cell? ⟨yg, k, none⟩ = some (.int .u8 (sgv q k))) := cell_up HB2.out hyc
            clear hyc
            refine wp_region_held_drew (S := (fun w' => w'.cell? ⟨sb, 1, none⟩ = some (.slice (some ⟨mg, 0, none⟩) NN S.m.c) ∧ w'.cell? ⟨mg, q, none⟩ = some (.slice (some ⟨xg, 0, none⟩) xn xc) ∧ w'.cell? ⟨xg, k, none⟩ = some (.int .u8 (sgv q k)) ∧ w'.cell? ⟨sb, 0, none⟩ = some (.slice (some ⟨bg, 0, none⟩) NN S.b.c) ∧ w'.cell? ⟨bg, q, none⟩ = some (.slice (some ⟨yg, 0, none⟩) yn yc) ∧ w'.cell? ⟨yg, k, none⟩ = some (.int .u8 (sgv q k)))) (by kernel_rfl) ⟨(below_at (drew_bel _) (HC1.out wr HB2.out)), (below_at (drew_bel _) (HCm.out wr HB2.out)), (below_at (drew_bel _) HCx.out), (below_at (drew_bel _) (HC0.out wr HB2.out)), (below_at (drew_bel _) (HCb.out wr HB2.out)), (below_at (drew_bel _) HCy.out)⟩ (fun hHeld => ?_)
            simp only [Act.put, List.size_toArray, List.length_cons, List.length_nil, Nat.zero_add]
            refine takeD (i := 0) (d := 34) (v := .pointer (some ⟨sb, 0, none⟩)) rfl (by kernel_rfl) (by kernel_rfl) (by kernel_rfl) (by kernel_rfl) (fun _ _ _ h => h) (Or.inl ⟨by rfl, fun w' hS => by go_simp⟩) hHeld ?_
            simp only [Act.put, List.setIfInBounds_toArray, List.set_cons_zero, List.set_cons_succ]
            refine takeD (i := 1) (d := 35) (v := .pointer (some ⟨sb, 0, none⟩)) rfl (by kernel_rfl) (by kernel_rfl) (by kernel_rfl) (by kernel_rfl) (fun _ _ _ h => h) (Or.inl ⟨by rfl, fun w' hS => by go_simp⟩) hHeld ?_
            simp only [Act.put, List.setIfInBounds_toArray, List.set_cons_zero, List.set_cons_succ]
            refine takeD (i := 2) (d := 36) (v := .pointer (some ⟨sb, 1, none⟩)) rfl (by kernel_rfl) (by kernel_rfl) (by kernel_rfl) (by kernel_rfl) (fun _ _ _ h => h) (Or.inl ⟨by rfl, fun w' hS => by go_simp⟩) hHeld ?_
            simp only [Act.put, List.setIfInBounds_toArray, List.set_cons_zero, List.set_cons_succ]
            refine takeD (i := 3) (d := 37) (v := .slice (some ⟨mg, 0, none⟩) NN S.m.c) rfl (by kernel_rfl) (by kernel_rfl) (by kernel_rfl) (by kernel_rfl) (fun _ _ _ h => h) (Or.inl ⟨by rfl, fun w' hS => by (obtain ⟨s0, s1, s2, s3, s4, s5⟩ := hS; go_simp)⟩) hHeld ?_
            simp only [Act.put, List.setIfInBounds_toArray, List.set_cons_zero, List.set_cons_succ]
            refine takeD (i := 4) (d := 38) (v := .int .i64 (q : Int)) rfl (by kernel_rfl) (by kernel_rfl) (by kernel_rfl) (by kernel_rfl) (fun _ _ _ h => h) (Or.inl ⟨by rfl, fun w' hS => by go_simp⟩) hHeld ?_
            simp only [Act.put, List.setIfInBounds_toArray, List.set_cons_zero, List.set_cons_succ]
            refine takeD (i := 5) (d := 39) (v := .pointer (some ⟨mg, q, none⟩)) rfl (by kernel_rfl) (by kernel_rfl) (by kernel_rfl) (by kernel_rfl) (fun _ _ _ h => h) (Or.inl ⟨by rfl, fun w' hS => by go_simp⟩) hHeld ?_
            simp only [Act.put, List.setIfInBounds_toArray, List.set_cons_zero, List.set_cons_succ]
            refine takeD (i := 6) (d := 40) (v := .slice (some ⟨xg, 0, none⟩) xn xc) rfl (by kernel_rfl) (by kernel_rfl) (by kernel_rfl) (by kernel_rfl) (fun _ _ _ h => h) (Or.inl ⟨by rfl, fun w' hS => by (obtain ⟨s0, s1, s2, s3, s4, s5⟩ := hS; go_simp)⟩) hHeld ?_
            simp only [Act.put, List.setIfInBounds_toArray, List.set_cons_zero, List.set_cons_succ]
            refine takeD (i := 7) (d := 41) (v := .int .i64 (k : Int)) rfl (by kernel_rfl) (by kernel_rfl) (by kernel_rfl) (by kernel_rfl) (fun _ _ _ h => h) (Or.inl ⟨by rfl, fun w' hS => by go_simp⟩) hHeld ?_
            simp only [Act.put, List.setIfInBounds_toArray, List.set_cons_zero, List.set_cons_succ]
            refine takeD (i := 8) (d := 42) (v := .pointer (some ⟨xg, k, none⟩)) rfl (by kernel_rfl) (by kernel_rfl) (by kernel_rfl) (by kernel_rfl) (fun _ _ _ h => h) (Or.inl ⟨by rfl, fun w' hS => by go_simp⟩) hHeld ?_
            simp only [Act.put, List.setIfInBounds_toArray, List.set_cons_zero, List.set_cons_succ]
            refine takeD (i := 9) (d := 43) (v := .int .u8 (sgv q k)) rfl (by kernel_rfl) (by kernel_rfl) (by kernel_rfl) (by kernel_rfl) (fun _ _ _ h => h) (Or.inl ⟨by rfl, fun w' hS => by (obtain ⟨s0, s1, s2, s3, s4, s5⟩ := hS; go_simp)⟩) hHeld ?_
            simp only [Act.put, List.setIfInBounds_toArray, List.set_cons_zero, List.set_cons_succ]
            refine takeD (i := 10) (d := 44) (v := .int .i64 (q : Int)) rfl (by kernel_rfl) (by kernel_rfl) (by kernel_rfl) (by kernel_rfl) (fun _ _ _ h => h) (Or.inl ⟨by rfl, fun w' hS => by go_simp⟩) hHeld ?_
            simp only [Act.put, List.setIfInBounds_toArray, List.set_cons_zero, List.set_cons_succ]
            refine takeD (i := 11) (d := 45) (v := .int .i64 (k : Int)) rfl (by kernel_rfl) (by kernel_rfl) (by kernel_rfl) (by kernel_rfl) (fun _ _ _ h => h) (Or.inl ⟨by rfl, fun w' hS => by go_simp⟩) hHeld ?_
            simp only [Act.put, List.setIfInBounds_toArray, List.set_cons_zero, List.set_cons_succ]
            have hbD1 : Below wr.heap.size wr wr.drew := drew_bel _
            have q0 := below_at hbD1 (HC1.out wr HB2.out)
            have q1 := below_at hbD1 (HCm.out wr HB2.out)
            have q2 := below_at hbD1 HCx.out
            have q3 := below_at hbD1 (HC0.out wr HB2.out)
            have q4 := below_at hbD1 (HCb.out wr HB2.out)
            have q5 := below_at hbD1 HCy.out
            generalize wr.drew = D1 at *
            refine wpAnyH_ready (rs := [12]) (by kernel_rfl) (by simp) ?_
            refine AllReadyH.cons rfl (fun K hK => ?_) AllReadyH.nil
            go_simp
            refine (HSg.out D1).mono ?_
            rintro e W9 ⟨rfl, rfl⟩
            refine hK.out _ _ ⟨q0, q1, q2, q3, q4, q5⟩ (fun hHeld => ?_)
            clear hK K
            refine takeD (i := 13) (d := 47) (v := .bool false) rfl (by kernel_rfl) (by kernel_rfl) (by kernel_rfl) (by kernel_rfl) (fun _ _ _ h => h) (Or.inl ⟨by rfl, fun w' hS => by (go_simp <;> simp)⟩) hHeld ?_
            simp only [Act.put, List.setIfInBounds_toArray, List.set_cons_zero, List.set_cons_succ]
            refine takeD (i := 14) (d := 48) (v := .bool false) rfl (by kernel_rfl) (by kernel_rfl) (by kernel_rfl) (by kernel_rfl) (fun _ _ _ h => h) (Or.inl ⟨by rfl, fun w' hS => by go_simp⟩) hHeld ?_
            simp only [Act.put, List.setIfInBounds_toArray, List.set_cons_zero, List.set_cons_succ]
            refine takeD (i := 15) (d := 49) (v := .int .i64 (k : Int)) rfl (by kernel_rfl) (by kernel_rfl) (by kernel_rfl) (by kernel_rfl) (fun _ _ _ h => h) (Or.inl ⟨by kernel_rfl, fun w' hS => by go_simp⟩) hHeld ?_
            simp only [Act.put, List.setIfInBounds_toArray, List.set_cons_zero, List.set_cons_succ]
            refine takeD (i := 16) (d := 50) (v := .pointer (some ⟨sb, 0, none⟩)) rfl (by kernel_rfl) (by kernel_rfl) (by kernel_rfl) (by kernel_rfl) (fun _ _ _ h => h) (Or.inl ⟨by kernel_rfl, fun w' hS => by go_simp⟩) hHeld ?_
            simp only [Act.put, List.setIfInBounds_toArray, List.set_cons_zero, List.set_cons_succ]
            refine takeD (i := 17) (d := 51) (v := .pointer (some ⟨sb, 0, none⟩)) rfl (by kernel_rfl) (by kernel_rfl) (by kernel_rfl) (by kernel_rfl) (fun _ _ _ h => h) (Or.inl ⟨by kernel_rfl, fun w' hS => by go_simp⟩) hHeld ?_
            simp only [Act.put, List.setIfInBounds_toArray, List.set_cons_zero, List.set_cons_succ]
            refine takeD (i := 18) (d := 52) (v := .pointer (some ⟨sb, 0, none⟩)) rfl (by kernel_rfl) (by kernel_rfl) (by kernel_rfl) (by kernel_rfl) (fun _ _ _ h => h) (Or.inl ⟨by kernel_rfl, fun w' hS => by go_simp⟩) hHeld ?_
            simp only [Act.put, List.setIfInBounds_toArray, List.set_cons_zero, List.set_cons_succ]
            refine takeD (i := 19) (d := 53) (v := .slice (some ⟨bg, 0, none⟩) NN S.b.c) rfl (by kernel_rfl) (by kernel_rfl) (by kernel_rfl) (by kernel_rfl) (fun _ _ _ h => h) (Or.inl ⟨by kernel_rfl, fun w' hS => by (obtain ⟨s0, s1, s2, s3, s4, s5⟩ := hS; go_simp)⟩) hHeld ?_
            simp only [Act.put, List.setIfInBounds_toArray, List.set_cons_zero, List.set_cons_succ]
            refine takeD (i := 20) (d := 54) (v := .int .i64 (q : Int)) rfl (by kernel_rfl) (by kernel_rfl) (by kernel_rfl) (by kernel_rfl) (fun _ _ _ h => h) (Or.inl ⟨by kernel_rfl, fun w' hS => by go_simp⟩) hHeld ?_
            simp only [Act.put, List.setIfInBounds_toArray, List.set_cons_zero, List.set_cons_succ]
            refine takeD (i := 21) (d := 55) (v := .pointer (some ⟨bg, q, none⟩)) rfl (by kernel_rfl) (by kernel_rfl) (by kernel_rfl) (by kernel_rfl) (fun _ _ _ h => h) (Or.inl ⟨by kernel_rfl, fun w' hS => by go_simp⟩) hHeld ?_
            simp only [Act.put, List.setIfInBounds_toArray, List.set_cons_zero, List.set_cons_succ]
            refine takeD (i := 22) (d := 56) (v := .slice (some ⟨yg, 0, none⟩) yn yc) rfl (by kernel_rfl) (by kernel_rfl) (by kernel_rfl) (by kernel_rfl) (fun _ _ _ h => h) (Or.inl ⟨by kernel_rfl, fun w' hS => by (obtain ⟨s0, s1, s2, s3, s4, s5⟩ := hS; go_simp)⟩) hHeld ?_
            simp only [Act.put, List.setIfInBounds_toArray, List.set_cons_zero, List.set_cons_succ]
            refine takeD (i := 23) (d := 57) (v := .int .i64 (yn : Int)) rfl (by kernel_rfl) (by kernel_rfl) (by kernel_rfl) (by kernel_rfl) (fun _ _ _ h => h) (Or.inl ⟨by kernel_rfl, fun w' hS => by go_simp⟩) hHeld ?_
            simp only [Act.put, List.setIfInBounds_toArray, List.set_cons_zero, List.set_cons_succ]
            refine takeD (i := 24) (d := 58) (v := .bool true) rfl (by kernel_rfl) (by kernel_rfl) (by kernel_rfl) (by kernel_rfl) (fun _ _ _ h => h) (Or.inl ⟨by kernel_rfl, fun w' hS => by (go_simp <;> (simp <;> omega))⟩) hHeld ?_
            simp only [Act.put, List.setIfInBounds_toArray, List.set_cons_zero, List.set_cons_succ]
            refine takeD (i := 25) (d := 59) (v := .bool true) rfl (by kernel_rfl) (by kernel_rfl) (by kernel_rfl) (by kernel_rfl) (fun _ _ _ h => h) (Or.inl ⟨by kernel_rfl, fun w' hS => by go_simp⟩) hHeld ?_
            simp only [Act.put, List.setIfInBounds_toArray, List.set_cons_zero, List.set_cons_succ]
            refine takeD (i := 26) (d := 60) (v := .pointer (some ⟨sb, 0, none⟩)) rfl (by kernel_rfl) (by kernel_rfl) (by kernel_rfl) (by kernel_rfl) (fun _ _ _ h => h) (Or.inl ⟨by kernel_rfl, fun w' hS => by go_simp⟩) hHeld ?_
            simp only [Act.put, List.setIfInBounds_toArray, List.set_cons_zero, List.set_cons_succ]
            refine takeD (i := 27) (d := 61) (v := .pointer (some ⟨sb, 0, none⟩)) rfl (by kernel_rfl) (by kernel_rfl) (by kernel_rfl) (by kernel_rfl) (fun _ _ _ h => h) (Or.inl ⟨by kernel_rfl, fun w' hS => by go_simp⟩) hHeld ?_
            simp only [Act.put, List.setIfInBounds_toArray, List.set_cons_zero, List.set_cons_succ]
            refine takeD (i := 28) (d := 62) (v := .pointer (some ⟨sb, 0, none⟩)) rfl (by kernel_rfl) (by kernel_rfl) (by kernel_rfl) (by kernel_rfl) (fun _ _ _ h => h) (Or.inl ⟨by kernel_rfl, fun w' hS => by go_simp⟩) hHeld ?_
            simp only [Act.put, List.setIfInBounds_toArray, List.set_cons_zero, List.set_cons_succ]
            refine takeD (i := 29) (d := 63) (v := .slice (some ⟨bg, 0, none⟩) NN S.b.c) rfl (by kernel_rfl) (by kernel_rfl) (by kernel_rfl) (by kernel_rfl) (fun _ _ _ h => h) (Or.inl ⟨by kernel_rfl, fun w' hS => by (obtain ⟨s0, s1, s2, s3, s4, s5⟩ := hS; go_simp)⟩) hHeld ?_
            simp only [Act.put, List.setIfInBounds_toArray, List.set_cons_zero, List.set_cons_succ]
            refine takeD (i := 30) (d := 64) (v := .int .i64 (q : Int)) rfl (by kernel_rfl) (by kernel_rfl) (by kernel_rfl) (by kernel_rfl) (fun _ _ _ h => h) (Or.inl ⟨by kernel_rfl, fun w' hS => by go_simp⟩) hHeld ?_
            simp only [Act.put, List.setIfInBounds_toArray, List.set_cons_zero, List.set_cons_succ]
            refine takeD (i := 31) (d := 65) (v := .pointer (some ⟨bg, q, none⟩)) rfl (by kernel_rfl) (by kernel_rfl) (by kernel_rfl) (by kernel_rfl) (fun _ _ _ h => h) (Or.inl ⟨by kernel_rfl, fun w' hS => by go_simp⟩) hHeld ?_
            simp only [Act.put, List.setIfInBounds_toArray, List.set_cons_zero, List.set_cons_succ]
            refine takeD (i := 32) (d := 66) (v := .slice (some ⟨yg, 0, none⟩) yn yc) rfl (by kernel_rfl) (by kernel_rfl) (by kernel_rfl) (by kernel_rfl) (fun _ _ _ h => h) (Or.inl ⟨by kernel_rfl, fun w' hS => by (obtain ⟨s0, s1, s2, s3, s4, s5⟩ := hS; go_simp)⟩) hHeld ?_
            simp only [Act.put, List.setIfInBounds_toArray, List.set_cons_zero, List.set_cons_succ]
            refine takeD (i := 33) (d := 67) (v := .int .i64 (k : Int)) rfl (by kernel_rfl) (by kernel_rfl) (by kernel_rfl) (by kernel_rfl) (fun _ _ _ h => h) (Or.inl ⟨by kernel_rfl, fun w' hS => by go_simp⟩) hHeld ?_
            simp only [Act.put, List.setIfInBounds_toArray, List.set_cons_zero, List.set_cons_succ]
            refine takeD (i := 34) (d := 68) (v := .pointer (some ⟨yg, k, none⟩)) rfl (by kernel_rfl) (by kernel_rfl) (by kernel_rfl) (by kernel_rfl) (fun _ _ _ h => h) (Or.inl ⟨by kernel_rfl, fun w' hS => by go_simp⟩) hHeld ?_
            simp only [Act.put, List.setIfInBounds_toArray, List.set_cons_zero, List.set_cons_succ]
            refine takeD (i := 35) (d := 69) (v := .int .u8 (sgv q k)) rfl (by kernel_rfl) (by kernel_rfl) (by kernel_rfl) (by kernel_rfl) (fun _ _ _ h => h) (Or.inl ⟨by kernel_rfl, fun w' hS => by (obtain ⟨s0, s1, s2, s3, s4, s5⟩ := hS; go_simp)⟩) hHeld ?_
            simp only [Act.put, List.setIfInBounds_toArray, List.set_cons_zero, List.set_cons_succ]
            refine takeD (i := 36) (d := 70) (v := .int .i64 (q : Int)) rfl (by kernel_rfl) (by kernel_rfl) (by kernel_rfl) (by kernel_rfl) (fun _ _ _ h => h) (Or.inl ⟨by kernel_rfl, fun w' hS => by go_simp⟩) hHeld ?_
            simp only [Act.put, List.setIfInBounds_toArray, List.set_cons_zero, List.set_cons_succ]
            refine takeD (i := 37) (d := 71) (v := .int .i64 (k : Int)) rfl (by kernel_rfl) (by kernel_rfl) (by kernel_rfl) (by kernel_rfl) (fun _ _ _ h => h) (Or.inl ⟨by kernel_rfl, fun w' hS => by go_simp⟩) hHeld ?_
            simp only [Act.put, List.setIfInBounds_toArray, List.set_cons_zero, List.set_cons_succ]
            refine wpAnyH_ready (rs := [38]) (by kernel_rfl) (by simp) ?_
            refine AllReadyH.cons rfl (fun K hK => ?_) AllReadyH.nil
            go_simp
            refine (HSg.out D1).mono ?_
            rintro e W9 ⟨rfl, rfl⟩
            refine hK.out _ _ ⟨q0, q1, q2, q3, q4, q5⟩ (fun hHeld => ?_)
            clear hK K
            refine takeD (i := 39) (d := 73) (v := .bool false) rfl (by kernel_rfl) (by kernel_rfl) (by kernel_rfl) (by kernel_rfl) (fun _ _ _ h => h) (Or.inl ⟨by kernel_rfl, fun w' hS => by (go_simp <;> simp)⟩) hHeld ?_
            simp only [Act.put, List.setIfInBounds_toArray, List.set_cons_zero, List.set_cons_succ]
            refine takeD (i := 40) (d := 74) (v := .bool false) rfl (by kernel_rfl) (by kernel_rfl) (by kernel_rfl) (by kernel_rfl) (fun _ _ _ h => h) (Or.inl ⟨by kernel_rfl, fun w' hS => by go_simp⟩) hHeld ?_
            simp only [Act.put, List.setIfInBounds_toArray, List.set_cons_zero, List.set_cons_succ]
            refine takeD (i := 41) (d := 75) (v := .bool false) rfl (by kernel_rfl) (by kernel_rfl) (by kernel_rfl) (by kernel_rfl) (fun _ _ _ h => h) (Or.inl ⟨by rfl, fun w' hS => by go_simp⟩) hHeld ?_
            simp only [Act.put, List.setIfInBounds_toArray, List.set_cons_zero, List.set_cons_succ]
            refine wpAnyH_done (by kernel_rfl) ?_ _
            clear hHeld
            have HQ : Hid (Below w.heap.size w D1) := bstep HB2.out hbD1
            clear q0 q1 q2 q3 q4 q5 hbD1
            go_wp2_with (fail)
            exact ⟨⟨k + 1, by omega, by go_num, HQ.out⟩, by simp [intOf]; omega⟩
          · have k3 : ¬ (k : Int) < (yn : Int) := by omega
            refine wp_region_held_drew (S := (fun w' => w'.cell? ⟨sb, 1, none⟩ = some (.slice (some ⟨mg, 0, none⟩) NN S.m.c) ∧ w'.cell? ⟨mg, q, none⟩ = some (.slice (some ⟨xg, 0, none⟩) xn xc) ∧ w'.cell? ⟨xg, k, none⟩ = some (.int .u8 (sgv q k)) ∧ w'.cell? ⟨sb, 0, none⟩ = some (.slice (some ⟨bg, 0, none⟩) NN S.b.c) ∧ w'.cell? ⟨bg, q, none⟩ = some (.slice ya yn yc))) (by kernel_rfl) ⟨(below_at (drew_bel _) (HC1.out wr HB2.out)), (below_at (drew_bel _) (HCm.out wr HB2.out)), (below_at (drew_bel _) HCx.out), (below_at (drew_bel _) (HC0.out wr HB2.out)), (below_at (drew_bel _) (HCb.out wr HB2.out))⟩ (fun hHeld => ?_)
            simp only [Act.put, List.size_toArray, List.length_cons, List.length_nil, Nat.zero_add]
            refine takeD (i := 0) (d := 34) (v := .pointer (some ⟨sb, 0, none⟩)) rfl (by kernel_rfl) (by kernel_rfl) (by kernel_rfl) (by kernel_rfl) (fun _ _ _ h => h) (Or.inl ⟨by rfl, fun w' hS => by go_simp⟩) hHeld ?_
            simp only [Act.put, List.setIfInBounds_toArray, List.set_cons_zero, List.set_cons_succ]
            refine takeD (i := 1) (d := 35) (v := .pointer (some ⟨sb, 0, none⟩)) rfl (by kernel_rfl) (by kernel_rfl) (by kernel_rfl) (by kernel_rfl) (fun _ _ _ h => h) (Or.inl ⟨by rfl, fun w' hS => by go_simp⟩) hHeld ?_
            simp only [Act.put, List.setIfInBounds_toArray, List.set_cons_zero, List.set_cons_succ]
            refine takeD (i := 2) (d := 36) (v := .pointer (some ⟨sb, 1, none⟩)) rfl (by kernel_rfl) (by kernel_rfl) (by kernel_rfl) (by kernel_rfl) (fun _ _ _ h => h) (Or.inl ⟨by rfl, fun w' hS => by go_simp⟩) hHeld ?_
            simp only [Act.put, List.setIfInBounds_toArray, List.set_cons_zero, List.set_cons_succ]
            refine takeD (i := 3) (d := 37) (v := .slice (some ⟨mg, 0, none⟩) NN S.m.c) rfl (by kernel_rfl) (by kernel_rfl) (by kernel_rfl) (by kernel_rfl) (fun _ _ _ h => h) (Or.inl ⟨by rfl, fun w' hS => by (obtain ⟨s0, s1, s2, s3, s4⟩ := hS; go_simp)⟩) hHeld ?_
            simp only [Act.put, List.setIfInBounds_toArray, List.set_cons_zero, List.set_cons_succ]
            refine takeD (i := 4) (d := 38) (v := .int .i64 (q : Int)) rfl (by kernel_rfl) (by kernel_rfl) (by kernel_rfl) (by kernel_rfl) (fun _ _ _ h => h) (Or.inl ⟨by rfl, fun w' hS => by go_simp⟩) hHeld ?_
            simp only [Act.put, List.setIfInBounds_toArray, List.set_cons_zero, List.set_cons_succ]
            refine takeD (i := 5) (d := 39) (v := .pointer (some ⟨mg, q, none⟩)) rfl (by kernel_rfl) (by kernel_rfl) (by kernel_rfl) (by kernel_rfl) (fun _ _ _ h => h) (Or.inl ⟨by rfl, fun w' hS => by go_simp⟩) hHeld ?_
            simp only [Act.put, List.setIfInBounds_toArray, List.set_cons_zero, List.set_cons_succ]
            refine takeD (i := 6) (d := 40) (v := .slice (some ⟨xg, 0, none⟩) xn xc) rfl (by kernel_rfl) (by kernel_rfl) (by kernel_rfl) (by kernel_rfl) (fun _ _ _ h => h) (Or.inl ⟨by rfl, fun w' hS => by (obtain ⟨s0, s1, s2, s3, s4⟩ := hS; go_simp)⟩) hHeld ?_
            simp only [Act.put, List.setIfInBounds_toArray, List.set_cons_zero, List.set_cons_succ]
            refine takeD (i := 7) (d := 41) (v := .int .i64 (k : Int)) rfl (by kernel_rfl) (by kernel_rfl) (by kernel_rfl) (by kernel_rfl) (fun _ _ _ h => h) (Or.inl ⟨by rfl, fun w' hS => by go_simp⟩) hHeld ?_
            simp only [Act.put, List.setIfInBounds_toArray, List.set_cons_zero, List.set_cons_succ]
            refine takeD (i := 8) (d := 42) (v := .pointer (some ⟨xg, k, none⟩)) rfl (by kernel_rfl) (by kernel_rfl) (by kernel_rfl) (by kernel_rfl) (fun _ _ _ h => h) (Or.inl ⟨by rfl, fun w' hS => by go_simp⟩) hHeld ?_
            simp only [Act.put, List.setIfInBounds_toArray, List.set_cons_zero, List.set_cons_succ]
            refine takeD (i := 9) (d := 43) (v := .int .u8 (sgv q k)) rfl (by kernel_rfl) (by kernel_rfl) (by kernel_rfl) (by kernel_rfl) (fun _ _ _ h => h) (Or.inl ⟨by rfl, fun w' hS => by (obtain ⟨s0, s1, s2, s3, s4⟩ := hS; go_simp)⟩) hHeld ?_
            simp only [Act.put, List.setIfInBounds_toArray, List.set_cons_zero, List.set_cons_succ]
            refine takeD (i := 10) (d := 44) (v := .int .i64 (q : Int)) rfl (by kernel_rfl) (by kernel_rfl) (by kernel_rfl) (by kernel_rfl) (fun _ _ _ h => h) (Or.inl ⟨by rfl, fun w' hS => by go_simp⟩) hHeld ?_
            simp only [Act.put, List.setIfInBounds_toArray, List.set_cons_zero, List.set_cons_succ]
            refine takeD (i := 11) (d := 45) (v := .int .i64 (k : Int)) rfl (by kernel_rfl) (by kernel_rfl) (by kernel_rfl) (by kernel_rfl) (fun _ _ _ h => h) (Or.inl ⟨by rfl, fun w' hS => by go_simp⟩) hHeld ?_
            simp only [Act.put, List.setIfInBounds_toArray, List.set_cons_zero, List.set_cons_succ]
            have hbD1 : Below wr.heap.size wr wr.drew := drew_bel _
            have q0 := below_at hbD1 (HC1.out wr HB2.out)
            have q1 := below_at hbD1 (HCm.out wr HB2.out)
            have q2 := below_at hbD1 HCx.out
            have q3 := below_at hbD1 (HC0.out wr HB2.out)
            have q4 := below_at hbD1 (HCb.out wr HB2.out)
            generalize wr.drew = D1 at *
            refine wpAnyH_ready (rs := [12]) (by kernel_rfl) (by simp) ?_
            refine AllReadyH.cons rfl (fun K hK => ?_) AllReadyH.nil
            go_simp
            refine (HSg.out D1).mono ?_
            rintro e W9 ⟨rfl, rfl⟩
            refine hK.out _ _ ⟨q0, q1, q2, q3, q4⟩ (fun hHeld => ?_)
            clear hK K
            refine takeD (i := 13) (d := 47) (v := .bool false) rfl (by kernel_rfl) (by kernel_rfl) (by kernel_rfl) (by kernel_rfl) (fun _ _ _ h => h) (Or.inl ⟨by rfl, fun w' hS => by (go_simp <;> simp)⟩) hHeld ?_
            simp only [Act.put, List.setIfInBounds_toArray, List.set_cons_zero, List.set_cons_succ]
            refine takeD (i := 14) (d := 48) (v := .bool false) rfl (by kernel_rfl) (by kernel_rfl) (by kernel_rfl) (by kernel_rfl) (fun _ _ _ h => h) (Or.inl ⟨by rfl, fun w' hS => by go_simp⟩) hHeld ?_
            simp only [Act.put, List.setIfInBounds_toArray, List.set_cons_zero, List.set_cons_succ]
            refine takeD (i := 15) (d := 49) (v := .int .i64 (k : Int)) rfl (by kernel_rfl) (by kernel_rfl) (by kernel_rfl) (by kernel_rfl) (fun _ _ _ h => h) (Or.inl ⟨by kernel_rfl, fun w' hS => by go_simp⟩) hHeld ?_
            simp only [Act.put, List.setIfInBounds_toArray, List.set_cons_zero, List.set_cons_succ]
            refine takeD (i := 16) (d := 50) (v := .pointer (some ⟨sb, 0, none⟩)) rfl (by kernel_rfl) (by kernel_rfl) (by kernel_rfl) (by kernel_rfl) (fun _ _ _ h => h) (Or.inl ⟨by kernel_rfl, fun w' hS => by go_simp⟩) hHeld ?_
            simp only [Act.put, List.setIfInBounds_toArray, List.set_cons_zero, List.set_cons_succ]
            refine takeD (i := 17) (d := 51) (v := .pointer (some ⟨sb, 0, none⟩)) rfl (by kernel_rfl) (by kernel_rfl) (by kernel_rfl) (by kernel_rfl) (fun _ _ _ h => h) (Or.inl ⟨by kernel_rfl, fun w' hS => by go_simp⟩) hHeld ?_
            simp only [Act.put, List.setIfInBounds_toArray, List.set_cons_zero, List.set_cons_succ]
            refine takeD (i := 18) (d := 52) (v := .pointer (some ⟨sb, 0, none⟩)) rfl (by kernel_rfl) (by kernel_rfl) (by kernel_rfl) (by kernel_rfl) (fun _ _ _ h => h) (Or.inl ⟨by kernel_rfl, fun w' hS => by go_simp⟩) hHeld ?_
            simp only [Act.put, List.setIfInBounds_toArray, List.set_cons_zero, List.set_cons_succ]
            refine takeD (i := 19) (d := 53) (v := .slice (some ⟨bg, 0, none⟩) NN S.b.c) rfl (by kernel_rfl) (by kernel_rfl) (by kernel_rfl) (by kernel_rfl) (fun _ _ _ h => h) (Or.inl ⟨by kernel_rfl, fun w' hS => by (obtain ⟨s0, s1, s2, s3, s4⟩ := hS; go_simp)⟩) hHeld ?_
            simp only [Act.put, List.setIfInBounds_toArray, List.set_cons_zero, List.set_cons_succ]
            refine takeD (i := 20) (d := 54) (v := .int .i64 (q : Int)) rfl (by kernel_rfl) (by kernel_rfl) (by kernel_rfl) (by kernel_rfl) (fun _ _ _ h => h) (Or.inl ⟨by kernel_rfl, fun w' hS => by go_simp⟩) hHeld ?_
            simp only [Act.put, List.setIfInBounds_toArray, List.set_cons_zero, List.set_cons_succ]
            refine takeD (i := 21) (d := 55) (v := .pointer (some ⟨bg, q, none⟩)) rfl (by kernel_rfl) (by kernel_rfl) (by kernel_rfl) (by kernel_rfl) (fun _ _ _ h => h) (Or.inl ⟨by kernel_rfl, fun w' hS => by go_simp⟩) hHeld ?_
            simp only [Act.put, List.setIfInBounds_toArray, List.set_cons_zero, List.set_cons_succ]
            refine takeD (i := 22) (d := 56) (v := .slice ya yn yc) rfl (by kernel_rfl) (by kernel_rfl) (by kernel_rfl) (by kernel_rfl) (fun _ _ _ h => h) (Or.inl ⟨by kernel_rfl, fun w' hS => by (obtain ⟨s0, s1, s2, s3, s4⟩ := hS; go_simp)⟩) hHeld ?_
            simp only [Act.put, List.setIfInBounds_toArray, List.set_cons_zero, List.set_cons_succ]
            refine takeD (i := 23) (d := 57) (v := .int .i64 (yn : Int)) rfl (by kernel_rfl) (by kernel_rfl) (by kernel_rfl) (by kernel_rfl) (fun _ _ _ h => h) (Or.inl ⟨by kernel_rfl, fun w' hS => by go_simp⟩) hHeld ?_
            simp only [Act.put, List.setIfInBounds_toArray, List.set_cons_zero, List.set_cons_succ]
            refine takeD (i := 24) (d := 58) (v := .bool false) rfl (by kernel_rfl) (by kernel_rfl) (by kernel_rfl) (by kernel_rfl) (fun _ _ _ h => h) (Or.inl ⟨by kernel_rfl, fun w' hS => by (go_simp <;> (simp <;> omega))⟩) hHeld ?_
            simp only [Act.put, List.setIfInBounds_toArray, List.set_cons_zero, List.set_cons_succ]
            refine takeD (i := 25) (d := 59) (v := .bool false) rfl (by kernel_rfl) (by kernel_rfl) (by kernel_rfl) (by kernel_rfl) (fun _ _ _ h => h) (Or.inl ⟨by kernel_rfl, fun w' hS => by go_simp⟩) hHeld ?_
            simp only [Act.put, List.setIfInBounds_toArray, List.set_cons_zero, List.set_cons_succ]
            refine takeD (i := 26) (d := 60) (v := undef) rfl (by kernel_rfl) (by kernel_rfl) (by kernel_rfl) (by kernel_rfl) (fun _ _ _ h => h) (Or.inr ⟨by kernel_rfl, rfl⟩) hHeld ?_
            simp only [Act.put, List.setIfInBounds_toArray, List.set_cons_zero, List.set_cons_succ]
            refine takeD (i := 27) (d := 61) (v := undef) rfl (by kernel_rfl) (by kernel_rfl) (by kernel_rfl) (by kernel_rfl) (fun _ _ _ h => h) (Or.inr ⟨by kernel_rfl, rfl⟩) hHeld ?_
            simp only [Act.put, List.setIfInBounds_toArray, List.set_cons_zero, List.set_cons_succ]
            refine takeD (i := 28) (d := 62) (v := undef) rfl (by kernel_rfl) (by kernel_rfl) (by kernel_rfl) (by kernel_rfl) (fun _ _ _ h => h) (Or.inr ⟨by kernel_rfl, rfl⟩) hHeld ?_
            simp only [Act.put, List.setIfInBounds_toArray, List.set_cons_zero, List.set_cons_succ]
            refine takeD (i := 29) (d := 63) (v := undef) rfl (by kernel_rfl) (by kernel_rfl) (by kernel_rfl) (by kernel_rfl) (fun _ _ _ h => h) (Or.inr ⟨by kernel_rfl, rfl⟩) hHeld ?_
            simp only [Act.put, List.setIfInBounds_toArray, List.set_cons_zero, List.set_cons_succ]
            refine takeD (i := 30) (d := 64) (v := undef) rfl (by kernel_rfl) (by kernel_rfl) (by kernel_rfl) (by kernel_rfl) (fun _ _ _ h => h) (Or.inr ⟨by kernel_rfl, rfl⟩) hHeld ?_
            simp only [Act.put, List.setIfInBounds_toArray, List.set_cons_zero, List.set_cons_succ]
            refine takeD (i := 31) (d := 65) (v := undef) rfl (by kernel_rfl) (by kernel_rfl) (by kernel_rfl) (by kernel_rfl) (fun _ _ _ h => h) (Or.inr ⟨by kernel_rfl, rfl⟩) hHeld ?_
            simp only [Act.put, List.setIfInBounds_toArray, List.set_cons_zero, List.set_cons_succ]
            refine takeD (i := 32) (d := 66) (v := undef) rfl (by kernel_rfl) (by kernel_rfl) (by kernel_rfl) (by kernel_rfl) (fun _ _ _ h => h) (Or.inr ⟨by kernel_rfl, rfl⟩) hHeld ?_
            simp only [Act.put, List.setIfInBounds_toArray, List.set_cons_zero, List.set_cons_succ]
            refine takeD (i := 33) (d := 67) (v := undef) rfl (by kernel_rfl) (by kernel_rfl) (by kernel_rfl) (by kernel_rfl) (fun _ _ _ h => h) (Or.inr ⟨by kernel_rfl, rfl⟩) hHeld ?_
            simp only [Act.put, List.setIfInBounds_toArray, List.set_cons_zero, List.set_cons_succ]
            refine takeD (i := 34) (d := 68) (v := undef) rfl (by kernel_rfl) (by kernel_rfl) (by kernel_rfl) (by kernel_rfl) (fun _ _ _ h => h) (Or.inr ⟨by kernel_rfl, rfl⟩) hHeld ?_
            simp only [Act.put, List.setIfInBounds_toArray, List.set_cons_zero, List.set_cons_succ]
            refine takeD (i := 35) (d := 69) (v := undef) rfl (by kernel_rfl) (by kernel_rfl) (by kernel_rfl) (by kernel_rfl) (fun _ _ _ h => h) (Or.inr ⟨by kernel_rfl, rfl⟩) hHeld ?_
            simp only [Act.put, List.setIfInBounds_toArray, List.set_cons_zero, List.set_cons_succ]
            refine takeD (i := 36) (d := 70) (v := undef) rfl (by kernel_rfl) (by kernel_rfl) (by kernel_rfl) (by kernel_rfl) (fun _ _ _ h => h) (Or.inr ⟨by kernel_rfl, rfl⟩) hHeld ?_
            simp only [Act.put, List.setIfInBounds_toArray, List.set_cons_zero, List.set_cons_succ]
            refine takeD (i := 37) (d := 71) (v := undef) rfl (by kernel_rfl) (by kernel_rfl) (by kernel_rfl) (by kernel_rfl) (fun _ _ _ h => h) (Or.inr ⟨by kernel_rfl, rfl⟩) hHeld ?_
            simp only [Act.put, List.setIfInBounds_toArray, List.set_cons_zero, List.set_cons_succ]
            refine takeD (i := 38) (d := 72) (v := undef) rfl (by kernel_rfl) (by kernel_rfl) (by kernel_rfl) (by kernel_rfl) (fun _ _ _ h => h) (Or.inr ⟨by kernel_rfl, rfl⟩) hHeld ?_
            simp only [Act.put, List.setIfInBounds_toArray, List.set_cons_zero, List.set_cons_succ]
            refine takeD (i := 39) (d := 73) (v := undef) rfl (by kernel_rfl) (by kernel_rfl) (by kernel_rfl) (by kernel_rfl) (fun _ _ _ h => h) (Or.inr ⟨by kernel_rfl, rfl⟩) hHeld ?_
            simp only [Act.put, List.setIfInBounds_toArray, List.set_cons_zero, List.set_cons_succ]
            refine takeD (i := 40) (d := 74) (v := .bool false) rfl (by kernel_rfl) (by kernel_rfl) (by kernel_rfl) (by kernel_rfl) (fun _ _ _ h => h) (Or.inl ⟨by kernel_rfl, fun w' hS => by go_simp⟩) hHeld ?_
            simp only [Act.put, List.setIfInBounds_toArray, List.set_cons_zero, List.set_cons_succ]
            refine takeD (i := 41) (d := 75) (v := .bool false) rfl (by kernel_rfl) (by kernel_rfl) (by kernel_rfl) (by kernel_rfl) (fun _ _ _ h => h) (Or.inl ⟨by rfl, fun w' hS => by go_simp⟩) hHeld ?_
            simp only [Act.put, List.setIfInBounds_toArray, List.set_cons_zero, List.set_cons_succ]
            refine wpAnyH_done (by kernel_rfl) ?_ _
            clear hHeld
            have HQ : Hid (Below w.heap.size w D1) := bstep HB2.out hbD1
            clear q0 q1 q2 q3 q4 hbD1
            go_wp2_with (fail)
            exact ⟨⟨k + 1, by omega, by go_num, HQ.out⟩, by simp [intOf]; omega⟩
        · obtain rfl : k = xn := by omega
          go_wp2_with fail
          exact ⟨⟨q + 1, by omega, by omega, by go_num, HB2.out⟩, by simp [intOf]; omega⟩
    · obtain rfl : NN = q := by omega
      clear hlt hq hq0 hb
      obtain ⟨Wb, hWb⟩ : ∃ W0, W0 = wr := ⟨_, rfl⟩
      subst hWb
      have c2 := HC2.out Wb HB.out
      go_wp2_with fail
      go_loopw [9] (fun i wr => ∃ q : Nat, f ≤ q ∧ q ≤ MM ∧ i = .int .i64 (q : Int) ∧ Below w.heap.size w wr) (fun i _ => MM - (intOf i).toNat)
      case atStart => exact ⟨f, Nat.le_refl _, hf, rfl, HB.out⟩
      case round =>
        as_aux_lemma =>
        obtain ⟨q, hq0, hq, rfl, hbl⟩ := hrel
        clear HB
        have HB : Hid (Below w.heap.size w wr) := hbl
        clear c0 c2
        have c2 := HC2.out wr hbl
        clear hbl
        have j1 : (0 : Int) ≤ (q : Int) := Int.natCast_nonneg _
        by_cases hlt : q < MM
        · have j2 : (q : Int) < (MM : Int) := by omega
          obtain ⟨mg, hma, hmq⟩ := row_get HOk.out.rl (i := q) (by rw [HNN.out.2.2.2.2.2]; exact hlt)
          obtain ⟨bg, hba, hbq⟩ := row_get HOk.out.ro (i := q) (by rw [HNN.out.2.2.2.2.1]; exact hlt)
          obtain ⟨⟨xa, xn, xc⟩, hx⟩ : ∃ x, S.vl q = x := ⟨_, rfl⟩
          obtain ⟨⟨ya, yn, yc⟩, hy⟩ : ∃ x, S.vo q = x := ⟨_, rfl⟩
          have hxy : xn = yn + 64 := by
            have h1 := HOk.out.gl.n q (by rw [HNN.out.2.2.2.2.2]; exact hlt)
            rw [hx, hy] at h1
            exact h1
          have hyn : yn ≤ 1000 := by
            have h1 := HT.out.lo q (by rw [HNN.out.2.1]; exact hlt)
            rw [hy] at h1
            exact h1
          have ro := HOk.out.gl.o q (by rw [HNN.out.2.2.2.2.2]; exact hlt)
          have rb := HOk.out.fo.o q (by rw [HNN.out.2.1]; exact hlt)
          rw [hx] at ro hmq
          rw [hy] at rb hbq
          have HRo : Hid (∀ k, k < xn → ∃ g, xa = some ⟨g, 0, none⟩ ∧ ∀ p, p < 5 → w.cell? ⟨g, k * 5 + p, none⟩ = some (Gf q (k * 5 + p))) := fun k hk => by
            obtain ⟨g, e1, -, e2⟩ := row_getF (y := ⟨xa, xn, xc⟩) ro hk (by omega)
            exact ⟨g, e1, e2⟩
          have HRb : Hid (∀ k, k < yn → ∃ g, ya = some ⟨g, 0, none⟩ ∧ ∀ p, p < 5 → w.cell? ⟨g, k * 5 + p, none⟩ = some (Gf q (k * 5 + p))) := fun k hk => by
            obtain ⟨g, e1, -, e2⟩ := row_getF (y := ⟨ya, yn, yc⟩) rb hk (by omega)
            exact ⟨g, e1, e2⟩
          rw [hba] at HC2
          rw [hma] at HC3
          clear c2
          have HC2 : Hid (∀ X, Below w.heap.size w X → X.cell? ⟨sb, 2, none⟩ = some (.slice (some ⟨bg, 0, none⟩) MM S.o.c)) := HC2
          have HC3 : Hid (∀ X, Below w.heap.size w X → X.cell? ⟨sb, 3, none⟩ = some (.slice (some ⟨mg, 0, none⟩) MM S.l.c)) := HC3
          have HCm : Hid (∀ X, Below w.heap.size w X → X.cell? ⟨mg, q, none⟩ = some (.slice xa xn xc)) := fun X hX => cell_up hX hmq
          have HCb : Hid (∀ X, Below w.heap.size w X → X.cell? ⟨bg, q, none⟩ = some (.slice ya yn yc)) := fun X hX => cell_up hX hbq
          clear hma hmq hba hbq hx hy ro rb
          have c2 := HC2.out wr HB.out
          go_wp2_with fail
          clear c2
          go_loopw [10] (fun i wr => ∃ k : Nat, k ≤ xn ∧ i = .int .i64 (k : Int) ∧ Below w.heap.size w wr) (fun i _ => xn - (intOf i).toNat)
          case atStart => exact ⟨0, Nat.zero_le _, rfl, HB.out⟩
          case round =>
            as_aux_lemma =>
            obtain ⟨k, hk, rfl, hbl⟩ := hrel
            have HB2 : Hid (Below w.heap.size w wr) := hbl
            have c3 := HC3.out wr hbl
            have cm := HCm.out wr hbl
            clear hbl HB
            have k1 : (0 : Int) ≤ (k : Int) := Int.natCast_nonneg _
            by_cases hlk : k < xn
            · have k2 : (k : Int) < (xn : Int) := by omega
              obtain ⟨xg, hxa, hxc⟩ := HRo.out k hlk
              subst hxa
              have HX : Hid (∀ p, p < 5 → wr.cell? ⟨xg, k * 5 + p, none⟩ = some (Gf q (k * 5 + p))) := fun p hp => cell_up HB2.out (hxc p hp)
              have x0 : wr.cell? ⟨xg, k * 5, none⟩ = some (.int .i64 (-1 - (q : Int))) := by have := HX.out 0 (by omega); rwa [Nat.add_zero, Gf0] at this
              have x1 : wr.cell? ⟨xg, k * 5 + 1, none⟩ = some (.int .i64 (k : Int)) := by have := HX.out 1 (by omega); rwa [Gf1] at this
              have x2 : wr.cell? ⟨xg, k * 5 + 2, none⟩ = some (.int .i64 0) := by have := HX.out 2 (by omega); rwa [Gf2] at this
              have x3 : wr.cell? ⟨xg, k * 5 + 3, none⟩ = some (.int .i64 0) := by have := HX.out 3 (by omega); rwa [Gf3] at this
              have x4 : wr.cell? ⟨xg, k * 5 + 4, none⟩ = some (.slice none 0 0) := by have := HX.out 4 (by omega); rwa [Gf4] at this
              clear hxc HX
              go_upto_region 16 with (first
                | (refine wl_allocZ rfl 43 rfl zFl ?_; intro W1 k1 b1 s1; have K1 : Hid (W1.heap[wr.heap.size]? = some (.cells f0.cs 43 (0, 0))) := k1; have B1 : Hid (Below wr.heap.size wr W1) := b1; clear k1 b1 s1)
                | (refine wl_storeZ rfl 43 _ _ rfl (L := (mkF q k).cs.toList) rfl rfl K1.out iFl rfl (fx_one (mkF q k)) ?_; intro W2 k2 kk2; have K2 : Hid (W2.heap[wr.heap.size]? = some (.cells (mkF q k).cs 43 (0, 0))) := k2; have KK2 : Hid (Mb.Kept W1 W2 (fun j => j = wr.heap.size)) := kk2; clear k2 kk2)
                | fail)
              have B2 : Hid (Below wr.heap.size wr W2) := (show Below wr.heap.size wr W2 from B1.out.trans (KK2.out.below B1.out.size (fun q hq e => by have e' : q = wr.heap.size := e; omega)))
              have HQ : Hid (Below w.heap.size w W2) := bstep HB2.out B2.out
              have z0 : W2.cell? ⟨wr.heap.size, 0, none⟩ = some (.int .i64 (-1 - (q : Int))) := blk_cell K2.out 0
              have z1 : W2.cell? ⟨wr.heap.size, 1, none⟩ = some (.int .i64 (k : Int)) := blk_cell K2.out 1
              have y2 := HC2.out W2 HQ.out
              have yb := HCb.out W2 HQ.out
              clear x0 x1 x2 x3 x4 c3 cm K1 B1 KK2 K2
              by_cases hky : k < yn
              · have k3 : (k : Int) < (yn : Int) := by omega
                obtain ⟨yg, hya, hyc⟩ := HRb.out k hky
                subst hya
                have HY : Hid (∀ p, p < 5 → W2.cell? ⟨yg, k * 5 + p, none⟩ = some (Gf q (k * 5 + p))) := fun p hp => cell_up HQ.out (hyc p hp)
                have y0 : W2.cell? ⟨yg, k * 5, none⟩ = some (.int .i64 (-1 - (q : Int))) := by have := HY.out 0 (by omega); rwa [Nat.add_zero, Gf0] at this
                have y1 : W2.cell? ⟨yg, k * 5 + 1, none⟩ = some (.int .i64 (k : Int)) := by have := HY.out 1 (by omega); rwa [Gf1] at this
                clear hyc HY
                go_wp2_with fail
                exact ⟨⟨k + 1, by omega, by go_num, HQ.out⟩, by simp [intOf]; omega⟩
              · have k3 : ¬ (k : Int) < (yn : Int) := by omega
                go_wp2_with fail
                exact ⟨⟨k + 1, by omega, by go_num, HQ.out⟩, by simp [intOf]; omega⟩
            · obtain rfl : k = xn := by omega
              go_wp2_with fail
              exact ⟨⟨q + 1, by omega, by omega, by go_num, HB2.out⟩, by simp [intOf]; omega⟩
        · obtain rfl : MM = q := by omega
          go_wp2_with fail
          go_ret
          exact ⟨rfl, HB.out⟩
end
end Go.Proofs.Ytnhhjelplmdloaa.Et
