import Derived.Test.YtdegjhkjmgimpaaV02
import Derived.Test.YtdegjhkjmgimpaaV36
namespace Go.Proofs.Ytdegjhkjmgimpaa.Ms
open Go.RowKit Go.Maps Mb
set_option linter.unusedVariables false
set_option linter.unusedSimpArgs false
set_option maxRecDepth 100000
section
variable {w w' w0 w1 w2 w3 : World} {B T s : Nat} {S S' S1 : St} {sb : Nat} {fb fo : Nat → Nat → Value} {P Q : Nat → Prop}
theorem hidJ {p : Prop} (h : p) : Hid p := h
structure St.Fit (S : St) : Prop where
  bn : S.b.n = S.N
  mn : S.m.n = S.N
  on : S.o.n = S.M
  ln : S.l.n = S.M
  bN : S.N ≤ 100000
  bM : S.M ≤ 1000
  lb : ∀ i, i < S.N → (S.vb i).n ≤ 1000
  lo : ∀ i, i < S.M → (S.vo i).n ≤ 1000
theorem getB {y : Sl} {t i k : Nat} {G : Nat → Nat → Value} (h : w.ownsRow B t 1 y.v y.n (rv (y.n * 1) (G i))) (hk : k < y.n) : ∃ g, y.a = some ⟨g, 0, none⟩ ∧ w.cell? ⟨g, k, none⟩ = some (G i k) := row_get (by rw [Nat.mul_one] at h; exact h) hk
theorem St.Ok.c0 (h : S.Ok w B sb fb fo) : w.cell? ⟨sb, 0, none⟩ = some (.slice S.b.a S.b.n S.b.c) := blk_cell h.blk 0
theorem St.Ok.c1 (h : S.Ok w B sb fb fo) : w.cell? ⟨sb, 1, none⟩ = some (.slice S.m.a S.m.n S.m.c) := blk_cell h.blk 1
theorem St.Ok.c2 (h : S.Ok w B sb fb fo) : w.cell? ⟨sb, 2, none⟩ = some (.slice S.o.a S.o.n S.o.c) := blk_cell h.blk 2
theorem St.Ok.c3 (h : S.Ok w B sb fb fo) : w.cell? ⟨sb, 3, none⟩ = some (.slice S.l.a S.l.n S.l.c) := blk_cell h.blk 3
theorem cell_up {g p : Nat} {v : Value} (hb : Below w.heap.size w w') (h : w.cell? ⟨g, p, none⟩ = some v) : w'.cell? ⟨g, p, none⟩ = some v := below_at hb h
theorem under_mb : Try.prog.underlying 79 = some (.struct (Try.prog.fieldsOf 79)) := by
  unfold Program.fieldsOf
  rw [Try.underlying79]
theorem stood_mb : Try.prog.stoodInHeld 79 = false := by kernel_rfl
theorem fields_mb : (Try.prog.fieldsOf 79).toList.map (fun f => (f.name, f.type, f.offset)) = [("Pid", 3, 0), ("Inc", 3, 1), ("Cid", 3, 2)] := by kernel_rfl
theorem eq_mbi (d : Nat) (xs : List Int) (hx : xs.length = 3) : (Op.equalIn (d + 2) 79 (.agg (ints xs).toArray) (.agg (ints xs).toArray)).run Try.prog w = .ok true w := by
  rw [run_equalIn_struct w (d + 1) 79 _ _ under_mb stood_mb, eqF_eq, fields_mb]
  simp only [eqF, ne_eq, reduceCtorEq, String.reduceEq, not_false_eq_true, if_true, Sem.run_bind, Sem.run_ite, Sem.run_pure, part_i xs 0 (by omega), part_i xs 1 (by omega), part_i xs 2 (by omega), Result.andThen_ok, run_equalIn_int w d 3 .i64 .i64 _ _ Try.underlying3]
  simp
theorem eq_mb (q k : Nat) : (Op.equalIn 10000 79 (.agg (mcs q k).toArray) (.agg (mcs q k).toArray)).run Try.prog w = .ok true w := eq_mbi 9998 [1000 + (q : Int), (k : Int), -9] rfl
theorem rng3 {g q k : Nat} (h : ∀ p, p < 3 → w.cell? ⟨g, k * 3 + p, none⟩ = some (Gf q (k * 3 + p))) : w.rangeAt g (k * 3) (mcs q k) := fun j v hv => by
  have hj : j < 3 := (List.getElem?_eq_some_iff.1 hv).1
  rw [h j hj]
  unfold Gf
  rw [show (k * 3 + j) / 3 = k by omega, show (k * 3 + j) % 3 = j by omega]
  simp [List.getD, hv]
theorem rng_up {g p : Nat} {L : List Value} (hb : Below w.heap.size w w') (h : w.rangeAt g p L) : w'.rangeAt g p L := fun j v hv => below_at hb (h j v hv)
theorem Lo.run_loadop {o : Oper} {ρ : Operand → Value} {w : World} (ty : TypeId) (x : Operand) (ho : o.op = .load ty x) {b off : Nat} (hx : ρ x = .pointer (some ⟨b, off, none⟩)) {cs : List Value} {d : TypeDesc} (hc : w.rangeAt b off cs) (hu : Try.prog.underlying ty = some d) (hd : d.isRow = true) (hi : (Try.prog.info? ty).map (·.size) = some cs.length) : (execOp ρ o).run Try.prog w = .ok (.value (.agg cs.toArray)) w := by
  unfold execOp
  simp only [ho, hx, Instr.loadAt, Instr.sureAddr, Sem.run_bind, Sem.run_pure, Result.andThen_ok, run_loadVar_mid w b off ty cs d hc hu hd hi]
set_option maxHeartbeats 8000000 in
theorem whole_any (h : S.Ok w B sb Gb Gf) (t : S.Fit) : Calls Try.prog 14 #[.pointer (some ⟨sb, 0, none⟩)] w fun e w' => e = .returned (.bool true) ∧ Below w.heap.size w w' := by
  have HOk : Hid (S.Ok w B sb Gb Gf) := h
  have HT : Hid S.Fit := t
  obtain ⟨NN, hNN⟩ : ∃ NN, S.N = NN := ⟨_, rfl⟩
  obtain ⟨MM, hMM⟩ : ∃ MM, S.M = MM := ⟨_, rfl⟩
  have HNN : Hid (S.N = NN ∧ S.M = MM ∧ S.b.n = NN ∧ S.m.n = NN ∧ S.o.n = MM ∧ S.l.n = MM) := ⟨hNN, hMM, t.bn.trans hNN, t.mn.trans hNN, t.on.trans hMM, t.ln.trans hMM⟩
  have nN : NN ≤ 100000 := by rw [← hNN]; exact t.bN
  have nM : MM ≤ 1000 := by rw [← hMM]; exact t.bM
  have HC0 : Hid (∀ X, Below w.heap.size w X → X.cell? ⟨sb, 0, none⟩ = some (.slice S.b.a NN S.b.c)) := fun X hX => by have := cell_up hX h.c0; rwa [HNN.out.2.2.1] at this
  have HC1 : Hid (∀ X, Below w.heap.size w X → X.cell? ⟨sb, 1, none⟩ = some (.slice S.m.a NN S.m.c)) := fun X hX => by have := cell_up hX h.c1; rwa [HNN.out.2.2.2.1] at this
  have HC2 : Hid (∀ X, Below w.heap.size w X → X.cell? ⟨sb, 2, none⟩ = some (.slice S.o.a MM S.o.c)) := fun X hX => by have := cell_up hX h.c2; rwa [HNN.out.2.2.2.2.1] at this
  have HC3 : Hid (∀ X, Below w.heap.size w X → X.cell? ⟨sb, 3, none⟩ = some (.slice S.l.a MM S.l.c)) := fun X hX => by have := cell_up hX h.c3; rwa [HNN.out.2.2.2.2.2] at this
  have c0 := HC0.out w (Below.refl _ w)
  clear h t hNN hMM
  go_enter Try.func14, Try.ntmps14
  go_wp2_with fail
  go_loopw [3] (fun i wr => ∃ q : Nat, q ≤ NN ∧ i = .int .i64 (q : Int) ∧ Below w.heap.size w wr) (fun i _ => NN - (intOf i).toNat)
  case atStart => exact ⟨0, Nat.zero_le _, rfl, Below.refl _ w⟩
  case round =>
    as_aux_lemma =>
    obtain ⟨q, hq, rfl, hbl⟩ := hrel
    have HB : Hid (Below w.heap.size w wr) := hbl
    clear c0
    have c0 := HC0.out wr hbl
    clear hbl
    have j1 : (0 : Int) ≤ (q : Int) := Int.natCast_nonneg _
    by_cases hlt : q < NN
    · have j2 : (q : Int) < (NN : Int) := by omega
      obtain ⟨mg, hma, hmq⟩ := row_get HOk.out.rm (i := q) (by rw [HNN.out.2.2.2.1]; exact hlt)
      obtain ⟨bg, hba, hbq⟩ := row_get HOk.out.rb (i := q) (by rw [HNN.out.2.2.1]; exact hlt)
      obtain ⟨⟨xa, xn, xc⟩, hx⟩ : ∃ x, S.vm q = x := ⟨_, rfl⟩
      obtain ⟨⟨ya, yn, yc⟩, hy⟩ : ∃ x, S.vb q = x := ⟨_, rfl⟩
      have hxy : xn = yn + 64 := by
        have h1 := HOk.out.gm.n q (by rw [HNN.out.2.2.2.1]; exact hlt)
        rw [hx, hy] at h1
        exact h1
      have hyn : yn ≤ 1000 := by
        have h1 := HT.out.lb q (by rw [HNN.out.1]; exact hlt)
        rw [hy] at h1
        exact h1
      have ro := HOk.out.gm.o q (by rw [HNN.out.2.2.2.1]; exact hlt)
      have rb := HOk.out.fb.o q (by rw [HNN.out.1]; exact hlt)
      rw [hx] at ro hmq
      rw [hy] at rb hbq
      have HRo : Hid (∀ k, k < xn → ∃ g, xa = some ⟨g, 0, none⟩ ∧ w.cell? ⟨g, k, none⟩ = some (.int .i64 (100 + (q : Int)))) := fun k hk => getB ro hk
      have HRb : Hid (∀ k, k < yn → ∃ g, ya = some ⟨g, 0, none⟩ ∧ w.cell? ⟨g, k, none⟩ = some (.int .i64 (100 + (q : Int)))) := fun k hk => getB rb hk
      rw [hba] at HC0
      rw [hma] at HC1
      clear c0
      have HC0 : Hid (∀ X, Below w.heap.size w X → X.cell? ⟨sb, 0, none⟩ = some (.slice (some ⟨bg, 0, none⟩) NN S.b.c)) := HC0
      have HC1 : Hid (∀ X, Below w.heap.size w X → X.cell? ⟨sb, 1, none⟩ = some (.slice (some ⟨mg, 0, none⟩) NN S.m.c)) := HC1
      have HCm : Hid (∀ X, Below w.heap.size w X → X.cell? ⟨mg, q, none⟩ = some (.slice xa xn xc)) := fun X hX => cell_up hX hmq
      have HCb : Hid (∀ X, Below w.heap.size w X → X.cell? ⟨bg, q, none⟩ = some (.slice ya yn yc)) := fun X hX => cell_up hX hbq
      clear hma hmq hba hbq hx hy ro rb
      have c0 := HC0.out wr HB.out
      go_wp2_with fail
      clear c0
      go_loopw [4] (fun i wr => ∃ k : Nat, k ≤ xn ∧ i = .int .i64 (k : Int) ∧ Below w.heap.size w wr) (fun i _ => xn - (intOf i).toNat)
      case atStart => exact ⟨0, Nat.zero_le _, rfl, HB.out⟩
      case round =>
        as_aux_lemma =>
        obtain ⟨k, hk, rfl, hbl⟩ := hrel
        have HB2 : Hid (Below w.heap.size w wr) := hbl
        have c1 := HC1.out wr hbl
        have cm := HCm.out wr hbl
        clear hbl HB
        have k1 : (0 : Int) ≤ (k : Int) := Int.natCast_nonneg _
        by_cases hlk : k < xn
        · have k2 : (k : Int) < (xn : Int) := by omega
          obtain ⟨xg, hxa, hxc⟩ := HRo.out k hlk
          subst hxa
          have x0 : wr.cell? ⟨xg, k, none⟩ = some (.int .i64 (100 + (q : Int))) := cell_up HB2.out hxc
          have c0 := HC0.out wr HB2.out
          have cb := HCb.out wr HB2.out
          clear hxc
          by_cases hky : k < yn
          · have k3 : (k : Int) < (yn : Int) := by omega
            obtain ⟨yg, hya, hyc⟩ := HRb.out k hky
            subst hya
            have y0 : wr.cell? ⟨yg, k, none⟩ = some (.int .i64 (100 + (q : Int))) := cell_up HB2.out hyc
            clear hyc
            go_wp2_with fail
            exact ⟨⟨k + 1, by omega, by go_num, HB2.out⟩, by simp [intOf]; omega⟩
          · have k3 : ¬ (k : Int) < (yn : Int) := by omega
            go_wp2_with fail
            exact ⟨⟨k + 1, by omega, by go_num, HB2.out⟩, by simp [intOf]; omega⟩
        · obtain rfl : k = xn := by omega
          go_wp2_with fail
          exact ⟨⟨q + 1, by omega, by go_num, HB2.out⟩, by simp [intOf]; omega⟩
    · obtain rfl : NN = q := by omega
      clear hlt hq
      obtain ⟨Wb, hWb⟩ : ∃ W0, W0 = wr := ⟨_, rfl⟩
      subst hWb
      have c2 := HC2.out Wb HB.out
      go_wp2_with fail
      go_loopw [5] (fun i wr => ∃ q : Nat, q ≤ MM ∧ i = .int .i64 (q : Int) ∧ Below w.heap.size w wr) (fun i _ => MM - (intOf i).toNat)
      case atStart => exact ⟨0, Nat.zero_le _, rfl, HB.out⟩
      case round =>
        as_aux_lemma =>
        obtain ⟨q, hq, rfl, hbl⟩ := hrel
        clear HB
        have HB : Hid (Below w.heap.size w wr) := hbl
        clear c0 c2
        have c2 := HC2.out wr hbl
        clear hbl
        have j1 : (0 : Int) ≤ (q : Int) := Int.natCast_nonneg _
        by_cases hlt : q < MM
        · have j2 : (q : Int) < (MM : Int) := by omega
          obtain ⟨mg, hma, hmq⟩ := row_get HOk.out.rl (i := q) (by rw [HNN.out.2.2.2.2.2]; exact hlt)
          obtain ⟨bg, hba, hbq⟩ := row_get HOk.out.ro (i := q) (by rw [HNN.out.2.2.2.2.1]; exact hlt)
          obtain ⟨⟨xa, xn, xc⟩, hx⟩ : ∃ x, S.vl q = x := ⟨_, rfl⟩
          obtain ⟨⟨ya, yn, yc⟩, hy⟩ : ∃ x, S.vo q = x := ⟨_, rfl⟩
          have hxy : xn = yn + 64 := by
            have h1 := HOk.out.gl.n q (by rw [HNN.out.2.2.2.2.2]; exact hlt)
            rw [hx, hy] at h1
            exact h1
          have hyn : yn ≤ 1000 := by
            have h1 := HT.out.lo q (by rw [HNN.out.2.1]; exact hlt)
            rw [hy] at h1
            exact h1
          have ro := HOk.out.gl.o q (by rw [HNN.out.2.2.2.2.2]; exact hlt)
          have rb := HOk.out.fo.o q (by rw [HNN.out.2.1]; exact hlt)
          rw [hx] at ro hmq
          rw [hy] at rb hbq
          have HRo : Hid (∀ k, k < xn → ∃ g, xa = some ⟨g, 0, none⟩ ∧ w.rangeAt g (k * 3) (mcs q k)) := fun k hk => by
            obtain ⟨g, e1, -, e2⟩ := row_getF (y := ⟨xa, xn, xc⟩) ro hk (by omega)
            exact ⟨g, e1, rng3 e2⟩
          have HRb : Hid (∀ k, k < yn → ∃ g, ya = some ⟨g, 0, none⟩ ∧ w.rangeAt g (k * 3) (mcs q k)) := fun k hk => by
            obtain ⟨g, e1, -, e2⟩ := row_getF (y := ⟨ya, yn, yc⟩) rb hk (by omega)
            exact ⟨g, e1, rng3 e2⟩
          rw [hba] at HC2
          rw [hma] at HC3
          clear c2
          have HC2 : Hid (∀ X, Below w.heap.size w X → X.cell? ⟨sb, 2, none⟩ = some (.slice (some ⟨bg, 0, none⟩) MM S.o.c)) := HC2
          have HC3 : Hid (∀ X, Below w.heap.size w X → X.cell? ⟨sb, 3, none⟩ = some (.slice (some ⟨mg, 0, none⟩) MM S.l.c)) := HC3
          have HCm : Hid (∀ X, Below w.heap.size w X → X.cell? ⟨mg, q, none⟩ = some (.slice xa xn xc)) := fun X hX => cell_up hX hmq
          have HCb : Hid (∀ X, Below w.heap.size w X → X.cell? ⟨bg, q, none⟩ = some (.slice ya yn yc)) := fun X hX => cell_up hX hbq
          clear hma hmq hba hbq hx hy ro rb
          have c2 := HC2.out wr HB.out
          go_wp2_with fail
          clear c2
          go_loopw [6] (fun i wr => ∃ k : Nat, k ≤ xn ∧ i = .int .i64 (k : Int) ∧ Below w.heap.size w wr) (fun i _ => xn - (intOf i).toNat)
          case atStart => exact ⟨0, Nat.zero_le _, rfl, HB.out⟩
          case round =>
            as_aux_lemma =>
            obtain ⟨k, hk, rfl, hbl⟩ := hrel
            have HB2 : Hid (Below w.heap.size w wr) := hbl
            have c3 := HC3.out wr hbl
            have cm := HCm.out wr hbl
            clear hbl HB
            have k1 : (0 : Int) ≤ (k : Int) := Int.natCast_nonneg _
            by_cases hlk : k < xn
            · have k2 : (k : Int) < (xn : Int) := by omega
              obtain ⟨xg, hxa, hxc⟩ := HRo.out k hlk
              subst hxa
              have HRx : Hid (∀ X, Below wr.heap.size wr X → X.rangeAt xg (k * 3) (mcs q k)) := fun X hX => rng_up (bstep HB2.out hX) hxc
              have HSg : Hid (∀ X, Calls Try.prog 25 #[.int .i64 (q : Int), .int .i64 (k : Int)] X fun e w' => e = .returned (.agg (mcs q k).toArray) ∧ Below X.heap.size X w') := fun X => sign_any q k (by omega) (by omega)
              clear hxc
              go_upto_region 15 with fail
              clear c3 cm
              by_cases hky : k < yn
              · have k3 : (k : Int) < (yn : Int) := by omega
                obtain ⟨yg, hya, hyc⟩ := HRb.out k hky
                subst hya
                have HRy : Hid (∀ X, Below wr.heap.size wr X → X.rangeAt yg (k * 3) (mcs q k)) := fun X hX => rng_up (bstep HB2.out hX) hyc
                clear hyc
                refine wp_region_held_drew (S := (fun w' => w'.cell? ⟨sb, 3, none⟩ = some (.slice (some ⟨mg, 0, none⟩) MM S.l.c) ∧ w'.cell? ⟨mg, q, none⟩ = some (.slice (some ⟨xg, 0, none⟩) xn xc) ∧ w'.cell? ⟨sb, 2, none⟩ = some (.slice (some ⟨bg, 0, none⟩) MM S.o.c) ∧ w'.cell? ⟨bg, q, none⟩ = some (.slice (some ⟨yg, 0, none⟩) yn yc) ∧ w'.rangeAt xg (k * 3) (mcs q k) ∧ w'.rangeAt yg (k * 3) (mcs q k))) (by kernel_rfl) ⟨(below_at (drew_bel _) (HC3.out wr HB2.out)), (below_at (drew_bel _) (HCm.out wr HB2.out)), (below_at (drew_bel _) (HC2.out wr HB2.out)), (below_at (drew_bel _) (HCb.out wr HB2.out)), (HRx.out _ (drew_bel _)), (HRy.out _ (drew_bel _))⟩ (fun hHeld => ?_)
                simp only [Act.put, List.size_toArray, List.length_cons, List.length_nil, Nat.zero_add]
                refine takeD (i := 0) (d := 89) (v := .pointer (some ⟨sb, 0, none⟩)) rfl (by kernel_rfl) (by kernel_rfl) (by kernel_rfl) (by kernel_rfl) (fun _ _ _ h => h) (Or.inl ⟨by rfl, fun w' hS => by go_simp⟩) hHeld ?_
                simp only [Act.put, sA9, sZ9, sC9]
                refine takeD (i := 1) (d := 90) (v := .pointer (some ⟨sb, 0, none⟩)) rfl (by kernel_rfl) (by kernel_rfl) (by kernel_rfl) (by kernel_rfl) (fun _ _ _ h => h) (Or.inl ⟨by rfl, fun w' hS => by go_simp⟩) hHeld ?_
                simp only [Act.put, sA9, sZ9, sC9]
                refine takeD (i := 2) (d := 91) (v := .pointer (some ⟨sb, 3, none⟩)) rfl (by kernel_rfl) (by kernel_rfl) (by kernel_rfl) (by kernel_rfl) (fun _ _ _ h => h) (Or.inl ⟨by rfl, fun w' hS => by go_simp⟩) hHeld ?_
                simp only [Act.put, sA9, sZ9, sC9]
                refine takeD (i := 3) (d := 92) (v := .slice (some ⟨mg, 0, none⟩) MM S.l.c) rfl (by kernel_rfl) (by kernel_rfl) (by kernel_rfl) (by kernel_rfl) (fun _ _ _ h => h) (Or.inl ⟨by rfl, fun w' hS => by (obtain ⟨s0, s1, s2, s3, s4, s5⟩ := hS; go_simp)⟩) hHeld ?_
                simp only [Act.put, sA9, sZ9, sC9]
                refine takeD (i := 4) (d := 93) (v := .int .i64 (q : Int)) rfl (by kernel_rfl) (by kernel_rfl) (by kernel_rfl) (by kernel_rfl) (fun _ _ _ h => h) (Or.inl ⟨by rfl, fun w' hS => by go_simp⟩) hHeld ?_
                simp only [Act.put, sA9, sZ9, sC9]
                refine takeD (i := 5) (d := 94) (v := .pointer (some ⟨mg, q, none⟩)) rfl (by kernel_rfl) (by kernel_rfl) (by kernel_rfl) (by kernel_rfl) (fun _ _ _ h => h) (Or.inl ⟨by rfl, fun w' hS => by go_simp⟩) hHeld ?_
                simp only [Act.put, sA9, sZ9, sC9]
                refine takeD (i := 6) (d := 95) (v := .slice (some ⟨xg, 0, none⟩) xn xc) rfl (by kernel_rfl) (by kernel_rfl) (by kernel_rfl) (by kernel_rfl) (fun _ _ _ h => h) (Or.inl ⟨by rfl, fun w' hS => by (obtain ⟨s0, s1, s2, s3, s4, s5⟩ := hS; go_simp)⟩) hHeld ?_
                simp only [Act.put, sA9, sZ9, sC9]
                refine takeD (i := 7) (d := 96) (v := .int .i64 (k : Int)) rfl (by kernel_rfl) (by kernel_rfl) (by kernel_rfl) (by kernel_rfl) (fun _ _ _ h => h) (Or.inl ⟨by rfl, fun w' hS => by go_simp⟩) hHeld ?_
                simp only [Act.put, sA9, sZ9, sC9]
                refine takeD (i := 8) (d := 97) (v := .pointer (some ⟨xg, k * 3, none⟩)) rfl (by kernel_rfl) (by kernel_rfl) (by kernel_rfl) (by kernel_rfl) (fun _ _ _ h => h) (Or.inl ⟨by rfl, fun w' hS => by go_simp⟩) hHeld ?_
                simp only [Act.put, sA9, sZ9, sC9]
                refine takeD (i := 9) (d := 98) (v := .agg (mcs q k).toArray) rfl (by kernel_rfl) (by kernel_rfl) (by kernel_rfl) (by kernel_rfl) (fun _ _ _ h => h) (Or.inl ⟨by rfl, fun w' hS => by (obtain ⟨s0, s1, s2, s3, s4, s5⟩ := hS; exact Lo.run_loadop 79 _ rfl rfl s4 Try.underlying79 rfl iMb)⟩) hHeld ?_
                simp only [Act.put, sA9, sZ9, sC9]
                refine takeD (i := 10) (d := 99) (v := .int .i64 (q : Int)) rfl (by kernel_rfl) (by kernel_rfl) (by kernel_rfl) (by kernel_rfl) (fun _ _ _ h => h) (Or.inl ⟨by rfl, fun w' hS => by go_simp⟩) hHeld ?_
                simp only [Act.put, sA9, sZ9, sC9]
                refine takeD (i := 11) (d := 100) (v := .int .i64 (k : Int)) rfl (by kernel_rfl) (by kernel_rfl) (by kernel_rfl) (by kernel_rfl) (fun _ _ _ h => h) (Or.inl ⟨by rfl, fun w' hS => by go_simp⟩) hHeld ?_
                simp only [Act.put, sA9, sZ9, sC9]
                have hbD1 : Below wr.heap.size wr wr.drew := drew_bel _
                have q0 := below_at hbD1 (HC3.out wr HB2.out)
                have q1 := below_at hbD1 (HCm.out wr HB2.out)
                have q2 := below_at hbD1 (HC2.out wr HB2.out)
                have q3 := below_at hbD1 (HCb.out wr HB2.out)
                generalize wr.drew = D1 at *
                refine wpAnyH_ready (rs := [12]) (by kernel_rfl) (by simp) ?_
                refine AllReadyH.cons rfl (fun K hK => ?_) AllReadyH.nil
                go_simp
                refine (HSg.out D1).mono ?_
                rintro e W9 ⟨rfl, b9⟩
                refine hK.out _ _ ⟨(below_at b9 q0), (below_at b9 q1), (below_at b9 q2), (below_at b9 q3), (HRx.out _ (bstep hbD1 b9)), (HRy.out _ (bstep hbD1 b9))⟩ (fun hHeld => ?_)
                clear hK K
                refine takeD (i := 13) (d := 102) (v := .bool false) rfl (by kernel_rfl) (by kernel_rfl) (by kernel_rfl) (by kernel_rfl) (fun _ _ _ h => h) (Or.inl ⟨by rfl, fun w' hS => by (exact run_neqop 79 _ _ _ rfl _ _ rfl rfl (by kernel_rfl) true (eq_mb q k))⟩) hHeld ?_
                simp only [Act.put, sA9, sZ9, sC9]
                refine takeD (i := 14) (d := 103) (v := .bool false) rfl (by kernel_rfl) (by kernel_rfl) (by kernel_rfl) (by kernel_rfl) (fun _ _ _ h => h) (Or.inl ⟨by rfl, fun w' hS => by go_simp⟩) hHeld ?_
                simp only [Act.put, sA9, sZ9, sC9]
                refine takeD (i := 15) (d := 104) (v := .int .i64 (k : Int)) rfl (by kernel_rfl) (by kernel_rfl) (by kernel_rfl) (by kernel_rfl) (fun _ _ _ h => h) (Or.inl ⟨by kernel_rfl, fun w' hS => by go_simp⟩) hHeld ?_
                simp only [Act.put, sA9, sZ9, sC9]
                refine takeD (i := 16) (d := 105) (v := .pointer (some ⟨sb, 0, none⟩)) rfl (by kernel_rfl) (by kernel_rfl) (by kernel_rfl) (by kernel_rfl) (fun _ _ _ h => h) (Or.inl ⟨by kernel_rfl, fun w' hS => by go_simp⟩) hHeld ?_
                simp only [Act.put, sA9, sZ9, sC9]
                refine takeD (i := 17) (d := 106) (v := .pointer (some ⟨sb, 0, none⟩)) rfl (by kernel_rfl) (by kernel_rfl) (by kernel_rfl) (by kernel_rfl) (fun _ _ _ h => h) (Or.inl ⟨by kernel_rfl, fun w' hS => by go_simp⟩) hHeld ?_
                simp only [Act.put, sA9, sZ9, sC9]
                refine takeD (i := 18) (d := 107) (v := .pointer (some ⟨sb, 2, none⟩)) rfl (by kernel_rfl) (by kernel_rfl) (by kernel_rfl) (by kernel_rfl) (fun _ _ _ h => h) (Or.inl ⟨by kernel_rfl, fun w' hS => by go_simp⟩) hHeld ?_
                simp only [Act.put, sA9, sZ9, sC9]
                refine takeD (i := 19) (d := 108) (v := .slice (some ⟨bg, 0, none⟩) MM S.o.c) rfl (by kernel_rfl) (by kernel_rfl) (by kernel_rfl) (by kernel_rfl) (fun _ _ _ h => h) (Or.inl ⟨by kernel_rfl, fun w' hS => by (obtain ⟨s0, s1, s2, s3, s4, s5⟩ := hS; go_simp)⟩) hHeld ?_
                simp only [Act.put, sA9, sZ9, sC9]
                refine takeD (i := 20) (d := 109) (v := .int .i64 (q : Int)) rfl (by kernel_rfl) (by kernel_rfl) (by kernel_rfl) (by kernel_rfl) (fun _ _ _ h => h) (Or.inl ⟨by kernel_rfl, fun w' hS => by go_simp⟩) hHeld ?_
                simp only [Act.put, sA9, sZ9, sC9]
                refine takeD (i := 21) (d := 110) (v := .pointer (some ⟨bg, q, none⟩)) rfl (by kernel_rfl) (by kernel_rfl) (by kernel_rfl) (by kernel_rfl) (fun _ _ _ h => h) (Or.inl ⟨by kernel_rfl, fun w' hS => by go_simp⟩) hHeld ?_
                simp only [Act.put, sA9, sZ9, sC9]
                refine takeD (i := 22) (d := 111) (v := .slice (some ⟨yg, 0, none⟩) yn yc) rfl (by kernel_rfl) (by kernel_rfl) (by kernel_rfl) (by kernel_rfl) (fun _ _ _ h => h) (Or.inl ⟨by kernel_rfl, fun w' hS => by (obtain ⟨s0, s1, s2, s3, s4, s5⟩ := hS; go_simp)⟩) hHeld ?_
                simp only [Act.put, sA9, sZ9, sC9]
                refine takeD (i := 23) (d := 112) (v := .int .i64 (yn : Int)) rfl (by kernel_rfl) (by kernel_rfl) (by kernel_rfl) (by kernel_rfl) (fun _ _ _ h => h) (Or.inl ⟨by kernel_rfl, fun w' hS => by go_simp⟩) hHeld ?_
                simp only [Act.put, sA9, sZ9, sC9]
                refine takeD (i := 24) (d := 113) (v := .bool true) rfl (by kernel_rfl) (by kernel_rfl) (by kernel_rfl) (by kernel_rfl) (fun _ _ _ h => h) (Or.inl ⟨by kernel_rfl, fun w' hS => by (go_simp <;> (simp <;> omega))⟩) hHeld ?_
                simp only [Act.put, sA9, sZ9, sC9]
                refine takeD (i := 25) (d := 114) (v := .bool true) rfl (by kernel_rfl) (by kernel_rfl) (by kernel_rfl) (by kernel_rfl) (fun _ _ _ h => h) (Or.inl ⟨by kernel_rfl, fun w' hS => by go_simp⟩) hHeld ?_
                simp only [Act.put, sA9, sZ9, sC9]
                refine takeD (i := 26) (d := 115) (v := .pointer (some ⟨sb, 0, none⟩)) rfl (by kernel_rfl) (by kernel_rfl) (by kernel_rfl) (by kernel_rfl) (fun _ _ _ h => h) (Or.inl ⟨by kernel_rfl, fun w' hS => by go_simp⟩) hHeld ?_
                simp only [Act.put, sA9, sZ9, sC9]
                refine takeD (i := 27) (d := 116) (v := .pointer (some ⟨sb, 0, none⟩)) rfl (by kernel_rfl) (by kernel_rfl) (by kernel_rfl) (by kernel_rfl) (fun _ _ _ h => h) (Or.inl ⟨by kernel_rfl, fun w' hS => by go_simp⟩) hHeld ?_
                simp only [Act.put, sA9, sZ9, sC9]
                refine takeD (i := 28) (d := 117) (v := .pointer (some ⟨sb, 2, none⟩)) rfl (by kernel_rfl) (by kernel_rfl) (by kernel_rfl) (by kernel_rfl) (fun _ _ _ h => h) (Or.inl ⟨by kernel_rfl, fun w' hS => by go_simp⟩) hHeld ?_
                simp only [Act.put, sA9, sZ9, sC9]
                refine takeD (i := 29) (d := 118) (v := .slice (some ⟨bg, 0, none⟩) MM S.o.c) rfl (by kernel_rfl) (by kernel_rfl) (by kernel_rfl) (by kernel_rfl) (fun _ _ _ h => h) (Or.inl ⟨by kernel_rfl, fun w' hS => by (obtain ⟨s0, s1, s2, s3, s4, s5⟩ := hS; go_simp)⟩) hHeld ?_
                simp only [Act.put, sA9, sZ9, sC9]
                refine takeD (i := 30) (d := 119) (v := .int .i64 (q : Int)) rfl (by kernel_rfl) (by kernel_rfl) (by kernel_rfl) (by kernel_rfl) (fun _ _ _ h => h) (Or.inl ⟨by kernel_rfl, fun w' hS => by go_simp⟩) hHeld ?_
                simp only [Act.put, sA9, sZ9, sC9]
                refine takeD (i := 31) (d := 120) (v := .pointer (some ⟨bg, q, none⟩)) rfl (by kernel_rfl) (by kernel_rfl) (by kernel_rfl) (by kernel_rfl) (fun _ _ _ h => h) (Or.inl ⟨by kernel_rfl, fun w' hS => by go_simp⟩) hHeld ?_
                simp only [Act.put, sA9, sZ9, sC9]
                refine takeD (i := 32) (d := 121) (v := .slice (some ⟨yg, 0, none⟩) yn yc) rfl (by kernel_rfl) (by kernel_rfl) (by kernel_rfl) (by kernel_rfl) (fun _ _ _ h => h) (Or.inl ⟨by kernel_rfl, fun w' hS => by (obtain ⟨s0, s1, s2, s3, s4, s5⟩ := hS; go_simp)⟩) hHeld ?_
                simp only [Act.put, sA9, sZ9, sC9]
                refine takeD (i := 33) (d := 122) (v := .int .i64 (k : Int)) rfl (by kernel_rfl) (by kernel_rfl) (by kernel_rfl) (by kernel_rfl) (fun _ _ _ h => h) (Or.inl ⟨by kernel_rfl, fun w' hS => by go_simp⟩) hHeld ?_
                simp only [Act.put, sA9, sZ9, sC9]
                refine takeD (i := 34) (d := 123) (v := .pointer (some ⟨yg, k * 3, none⟩)) rfl (by kernel_rfl) (by kernel_rfl) (by kernel_rfl) (by kernel_rfl) (fun _ _ _ h => h) (Or.inl ⟨by kernel_rfl, fun w' hS => by go_simp⟩) hHeld ?_
                simp only [Act.put, sA9, sZ9, sC9]
                refine takeD (i := 35) (d := 124) (v := .agg (mcs q k).toArray) rfl (by kernel_rfl) (by kernel_rfl) (by kernel_rfl) (by kernel_rfl) (fun _ _ _ h => h) (Or.inl ⟨by kernel_rfl, fun w' hS => by (obtain ⟨s0, s1, s2, s3, s4, s5⟩ := hS; exact Lo.run_loadop 79 _ rfl rfl s5 Try.underlying79 rfl iMb)⟩) hHeld ?_
                simp only [Act.put, sA9, sZ9, sC9]
                refine takeD (i := 36) (d := 125) (v := .int .i64 (q : Int)) rfl (by kernel_rfl) (by kernel_rfl) (by kernel_rfl) (by kernel_rfl) (fun _ _ _ h => h) (Or.inl ⟨by kernel_rfl, fun w' hS => by go_simp⟩) hHeld ?_
                simp only [Act.put, sA9, sZ9, sC9]
                refine takeD (i := 37) (d := 126) (v := .int .i64 (k : Int)) rfl (by kernel_rfl) (by kernel_rfl) (by kernel_rfl) (by kernel_rfl) (fun _ _ _ h => h) (Or.inl ⟨by kernel_rfl, fun w' hS => by go_simp⟩) hHeld ?_
                simp only [Act.put, sA9, sZ9, sC9]
                refine wpAnyH_ready (rs := [38]) (by kernel_rfl) (by simp) ?_
                refine AllReadyH.cons rfl (fun K hK => ?_) AllReadyH.nil
                go_simp
                refine (HSg.out W9).mono ?_
                rintro e W8 ⟨rfl, b8⟩
                refine hK.out _ _ ⟨(below_at b8 (below_at b9 q0)), (below_at b8 (below_at b9 q1)), (below_at b8 (below_at b9 q2)), (below_at b8 (below_at b9 q3)), (HRx.out _ (bstep (bstep hbD1 b9) b8)), (HRy.out _ (bstep (bstep hbD1 b9) b8))⟩ (fun hHeld => ?_)
                clear hK K
                refine takeD (i := 39) (d := 128) (v := .bool false) rfl (by kernel_rfl) (by kernel_rfl) (by kernel_rfl) (by kernel_rfl) (fun _ _ _ h => h) (Or.inl ⟨by kernel_rfl, fun w' hS => by (exact run_neqop 79 _ _ _ rfl _ _ rfl rfl (by kernel_rfl) true (eq_mb q k))⟩) hHeld ?_
                simp only [Act.put, sA9, sZ9, sC9]
                refine takeD (i := 40) (d := 129) (v := .bool false) rfl (by kernel_rfl) (by kernel_rfl) (by kernel_rfl) (by kernel_rfl) (fun _ _ _ h => h) (Or.inl ⟨by kernel_rfl, fun w' hS => by go_simp⟩) hHeld ?_
                simp only [Act.put, sA9, sZ9, sC9]
                refine takeD (i := 41) (d := 130) (v := .bool false) rfl (by kernel_rfl) (by kernel_rfl) (by kernel_rfl) (by kernel_rfl) (fun _ _ _ h => h) (Or.inl ⟨by rfl, fun w' hS => by go_simp⟩) hHeld ?_
                simp only [Act.put, sA9, sZ9, sC9]
                refine wpAnyH_done (by kernel_rfl) ?_ _
                clear hHeld
                have HQ : Hid (Below w.heap.size w W8) := bstep HB2.out (bstep (bstep hbD1 b9) b8)
                clear q0 q1 q2 q3 b9 b8 hbD1
                go_wp2_with (fail)
                exact ⟨⟨k + 1, by omega, by go_num, HQ.out⟩, by simp [intOf]; omega⟩
              · have k3 : ¬ (k : Int) < (yn : Int) := by omega
                refine wp_region_held_drew (S := (fun w' => w'.cell? ⟨sb, 3, none⟩ = some (.slice (some ⟨mg, 0, none⟩) MM S.l.c) ∧ w'.cell? ⟨mg, q, none⟩ = some (.slice (some ⟨xg, 0, none⟩) xn xc) ∧ w'.cell? ⟨sb, 2, none⟩ = some (.slice (some ⟨bg, 0, none⟩) MM S.o.c) ∧ w'.cell? ⟨bg, q, none⟩ = some (.slice ya yn yc) ∧ w'.rangeAt xg (k * 3) (mcs q k))) (by kernel_rfl) ⟨(below_at (drew_bel _) (HC3.out wr HB2.out)), (below_at (drew_bel _) (HCm.out wr HB2.out)), (below_at (drew_bel _) (HC2.out wr HB2.out)), (below_at (drew_bel _) (HCb.out wr HB2.out)), (HRx.out _ (drew_bel _))⟩ (fun hHeld => ?_)
                simp only [Act.put, List.size_toArray, List.length_cons, List.length_nil, Nat.zero_add]
                refine takeD (i := 0) (d := 89) (v := .pointer (some ⟨sb, 0, none⟩)) rfl (by kernel_rfl) (by kernel_rfl) (by kernel_rfl) (by kernel_rfl) (fun _ _ _ h => h) (Or.inl ⟨by rfl, fun w' hS => by go_simp⟩) hHeld ?_
                simp only [Act.put, sA9, sZ9, sC9]
                refine takeD (i := 1) (d := 90) (v := .pointer (some ⟨sb, 0, none⟩)) rfl (by kernel_rfl) (by kernel_rfl) (by kernel_rfl) (by kernel_rfl) (fun _ _ _ h => h) (Or.inl ⟨by rfl, fun w' hS => by go_simp⟩) hHeld ?_
                simp only [Act.put, sA9, sZ9, sC9]
                refine takeD (i := 2) (d := 91) (v := .pointer (some ⟨sb, 3, none⟩)) rfl (by kernel_rfl) (by kernel_rfl) (by kernel_rfl) (by kernel_rfl) (fun _ _ _ h => h) (Or.inl ⟨by rfl, fun w' hS => by go_simp⟩) hHeld ?_
                simp only [Act.put, sA9, sZ9, sC9]
                refine takeD (i := 3) (d := 92) (v := .slice (some ⟨mg, 0, none⟩) MM S.l.c) rfl (by kernel_rfl) (by kernel_rfl) (by kernel_rfl) (by kernel_rfl) (fun _ _ _ h => h) (Or.inl ⟨by rfl, fun w' hS => by (obtain ⟨s0, s1, s2, s3, s4⟩ := hS; go_simp)⟩) hHeld ?_
                simp only [Act.put, sA9, sZ9, sC9]
                refine takeD (i := 4) (d := 93) (v := .int .i64 (q : Int)) rfl (by kernel_rfl) (by kernel_rfl) (by kernel_rfl) (by kernel_rfl) (fun _ _ _ h => h) (Or.inl ⟨by rfl, fun w' hS => by go_simp⟩) hHeld ?_
                simp only [Act.put, sA9, sZ9, sC9]
                refine takeD (i := 5) (d := 94) (v := .pointer (some ⟨mg, q, none⟩)) rfl (by kernel_rfl) (by kernel_rfl) (by kernel_rfl) (by kernel_rfl) (fun _ _ _ h => h) (Or.inl ⟨by rfl, fun w' hS => by go_simp⟩) hHeld ?_
                simp only [Act.put, sA9, sZ9, sC9]
                refine takeD (i := 6) (d := 95) (v := .slice (some ⟨xg, 0, none⟩) xn xc) rfl (by kernel_rfl) (by kernel_rfl) (by kernel_rfl) (by kernel_rfl) (fun _ _ _ h => h) (Or.inl ⟨by rfl, fun w' hS => by (obtain ⟨s0, s1, s2, s3, s4⟩ := hS; go_simp)⟩) hHeld ?_
                simp only [Act.put, sA9, sZ9, sC9]
                refine takeD (i := 7) (d := 96) (v := .int .i64 (k : Int)) rfl (by kernel_rfl) (by kernel_rfl) (by kernel_rfl) (by kernel_rfl) (fun _ _ _ h => h) (Or.inl ⟨by rfl, fun w' hS => by go_simp⟩) hHeld ?_
                simp only [Act.put, sA9, sZ9, sC9]
                refine takeD (i := 8) (d := 97) (v := .pointer (some ⟨xg, k * 3, none⟩)) rfl (by kernel_rfl) (by kernel_rfl) (by kernel_rfl) (by kernel_rfl) (fun _ _ _ h => h) (Or.inl ⟨by rfl, fun w' hS => by go_simp⟩) hHeld ?_
                simp only [Act.put, sA9, sZ9, sC9]
                refine takeD (i := 9) (d := 98) (v := .agg (mcs q k).toArray) rfl (by kernel_rfl) (by kernel_rfl) (by kernel_rfl) (by kernel_rfl) (fun _ _ _ h => h) (Or.inl ⟨by rfl, fun w' hS => by (obtain ⟨s0, s1, s2, s3, s4⟩ := hS; exact Lo.run_loadop 79 _ rfl rfl s4 Try.underlying79 rfl iMb)⟩) hHeld ?_
                simp only [Act.put, sA9, sZ9, sC9]
                refine takeD (i := 10) (d := 99) (v := .int .i64 (q : Int)) rfl (by kernel_rfl) (by kernel_rfl) (by kernel_rfl) (by kernel_rfl) (fun _ _ _ h => h) (Or.inl ⟨by rfl, fun w' hS => by go_simp⟩) hHeld ?_
                simp only [Act.put, sA9, sZ9, sC9]
                refine takeD (i := 11) (d := 100) (v := .int .i64 (k : Int)) rfl (by kernel_rfl) (by kernel_rfl) (by kernel_rfl) (by kernel_rfl) (fun _ _ _ h => h) (Or.inl ⟨by rfl, fun w' hS => by go_simp⟩) hHeld ?_
                simp only [Act.put, sA9, sZ9, sC9]
                have hbD1 : Below wr.heap.size wr wr.drew := drew_bel _
                have q0 := below_at hbD1 (HC3.out wr HB2.out)
                have q1 := below_at hbD1 (HCm.out wr HB2.out)
                have q2 := below_at hbD1 (HC2.out wr HB2.out)
                have q3 := below_at hbD1 (HCb.out wr HB2.out)
                generalize wr.drew = D1 at *
                refine wpAnyH_ready (rs := [12]) (by kernel_rfl) (by simp) ?_
                refine AllReadyH.cons rfl (fun K hK => ?_) AllReadyH.nil
                go_simp
                refine (HSg.out D1).mono ?_
                rintro e W9 ⟨rfl, b9⟩
                refine hK.out _ _ ⟨(below_at b9 q0), (below_at b9 q1), (below_at b9 q2), (below_at b9 q3), (HRx.out _ (bstep hbD1 b9))⟩ (fun hHeld => ?_)
                clear hK K
                refine takeD (i := 13) (d := 102) (v := .bool false) rfl (by kernel_rfl) (by kernel_rfl) (by kernel_rfl) (by kernel_rfl) (fun _ _ _ h => h) (Or.inl ⟨by rfl, fun w' hS => by (exact run_neqop 79 _ _ _ rfl _ _ rfl rfl (by kernel_rfl) true (eq_mb q k))⟩) hHeld ?_
                simp only [Act.put, sA9, sZ9, sC9]
                refine takeD (i := 14) (d := 103) (v := .bool false) rfl (by kernel_rfl) (by kernel_rfl) (by kernel_rfl) (by kernel_rfl) (fun _ _ _ h => h) (Or.inl ⟨by rfl, fun w' hS => by go_simp⟩) hHeld ?_
                simp only [Act.put, sA9, sZ9, sC9]
                refine takeD (i := 15) (d := 104) (v := .int .i64 (k : Int)) rfl (by kernel_rfl) (by kernel_rfl) (by kernel_rfl) (by kernel_rfl) (fun _ _ _ h => h) (Or.inl ⟨by kernel_rfl, fun w' hS => by go_simp⟩) hHeld ?_
                simp only [Act.put, sA9, sZ9, sC9]
                refine takeD (i := 16) (d := 105) (v := .pointer (some ⟨sb, 0, none⟩)) rfl (by kernel_rfl) (by kernel_rfl) (by kernel_rfl) (by kernel_rfl) (fun _ _ _ h => h) (Or.inl ⟨by kernel_rfl, fun w' hS => by go_simp⟩) hHeld ?_
                simp only [Act.put, sA9, sZ9, sC9]
                refine takeD (i := 17) (d := 106) (v := .pointer (some ⟨sb, 0, none⟩)) rfl (by kernel_rfl) (by kernel_rfl) (by kernel_rfl) (by kernel_rfl) (fun _ _ _ h => h) (Or.inl ⟨by kernel_rfl, fun w' hS => by go_simp⟩) hHeld ?_
                simp only [Act.put, sA9, sZ9, sC9]
                refine takeD (i := 18) (d := 107) (v := .pointer (some ⟨sb, 2, none⟩)) rfl (by kernel_rfl) (by kernel_rfl) (by kernel_rfl) (by kernel_rfl) (fun _ _ _ h => h) (Or.inl ⟨by kernel_rfl, fun w' hS => by go_simp⟩) hHeld ?_
                simp only [Act.put, sA9, sZ9, sC9]
                refine takeD (i := 19) (d := 108) (v := .slice (some ⟨bg, 0, none⟩) MM S.o.c) rfl (by kernel_rfl) (by kernel_rfl) (by kernel_rfl) (by kernel_rfl) (fun _ _ _ h => h) (Or.inl ⟨by kernel_rfl, fun w' hS => by (obtain ⟨s0, s1, s2, s3, s4⟩ := hS; go_simp)⟩) hHeld ?_
                simp only [Act.put, sA9, sZ9, sC9]
                refine takeD (i := 20) (d := 109) (v := .int .i64 (q : Int)) rfl (by kernel_rfl) (by kernel_rfl) (by kernel_rfl) (by kernel_rfl) (fun _ _ _ h => h) (Or.inl ⟨by kernel_rfl, fun w' hS => by go_simp⟩) hHeld ?_
                simp only [Act.put, sA9, sZ9, sC9]
                refine takeD (i := 21) (d := 110) (v := .pointer (some ⟨bg, q, none⟩)) rfl (by kernel_rfl) (by kernel_rfl) (by kernel_rfl) (by kernel_rfl) (fun _ _ _ h => h) (Or.inl ⟨by kernel_rfl, fun w' hS => by go_simp⟩) hHeld ?_
                simp only [Act.put, sA9, sZ9, sC9]
                refine takeD (i := 22) (d := 111) (v := .slice ya yn yc) rfl (by kernel_rfl) (by kernel_rfl) (by kernel_rfl) (by kernel_rfl) (fun _ _ _ h => h) (Or.inl ⟨by kernel_rfl, fun w' hS => by (obtain ⟨s0, s1, s2, s3, s4⟩ := hS; go_simp)⟩) hHeld ?_
                simp only [Act.put, sA9, sZ9, sC9]
                refine takeD (i := 23) (d := 112) (v := .int .i64 (yn : Int)) rfl (by kernel_rfl) (by kernel_rfl) (by kernel_rfl) (by kernel_rfl) (fun _ _ _ h => h) (Or.inl ⟨by kernel_rfl, fun w' hS => by go_simp⟩) hHeld ?_
                simp only [Act.put, sA9, sZ9, sC9]
                refine takeD (i := 24) (d := 113) (v := .bool false) rfl (by kernel_rfl) (by kernel_rfl) (by kernel_rfl) (by kernel_rfl) (fun _ _ _ h => h) (Or.inl ⟨by kernel_rfl, fun w' hS => by (go_simp <;> (simp <;> omega))⟩) hHeld ?_
                simp only [Act.put, sA9, sZ9, sC9]
                refine takeD (i := 25) (d := 114) (v := .bool false) rfl (by kernel_rfl) (by kernel_rfl) (by kernel_rfl) (by kernel_rfl) (fun _ _ _ h => h) (Or.inl ⟨by kernel_rfl, fun w' hS => by go_simp⟩) hHeld ?_
                simp only [Act.put, sA9, sZ9, sC9]
                refine takeD (i := 26) (d := 115) (v := undef) rfl (by kernel_rfl) (by kernel_rfl) (by kernel_rfl) (by kernel_rfl) (fun _ _ _ h => h) (Or.inr ⟨by kernel_rfl, rfl⟩) hHeld ?_
                simp only [Act.put, sA9, sZ9, sC9]
                refine takeD (i := 27) (d := 116) (v := undef) rfl (by kernel_rfl) (by kernel_rfl) (by kernel_rfl) (by kernel_rfl) (fun _ _ _ h => h) (Or.inr ⟨by kernel_rfl, rfl⟩) hHeld ?_
                simp only [Act.put, sA9, sZ9, sC9]
                refine takeD (i := 28) (d := 117) (v := undef) rfl (by kernel_rfl) (by kernel_rfl) (by kernel_rfl) (by kernel_rfl) (fun _ _ _ h => h) (Or.inr ⟨by kernel_rfl, rfl⟩) hHeld ?_
                simp only [Act.put, sA9, sZ9, sC9]
                refine takeD (i := 29) (d := 118) (v := undef) rfl (by kernel_rfl) (by kernel_rfl) (by kernel_rfl) (by kernel_rfl) (fun _ _ _ h => h) (Or.inr ⟨by kernel_rfl, rfl⟩) hHeld ?_
                simp only [Act.put, sA9, sZ9, sC9]
                refine takeD (i := 30) (d := 119) (v := undef) rfl (by kernel_rfl) (by kernel_rfl) (by kernel_rfl) (by kernel_rfl) (fun _ _ _ h => h) (Or.inr ⟨by kernel_rfl, rfl⟩) hHeld ?_
                simp only [Act.put, sA9, sZ9, sC9]
                refine takeD (i := 31) (d := 120) (v := undef) rfl (by kernel_rfl) (by kernel_rfl) (by kernel_rfl) (by kernel_rfl) (fun _ _ _ h => h) (Or.inr ⟨by kernel_rfl, rfl⟩) hHeld ?_
                simp only [Act.put, sA9, sZ9, sC9]
                refine takeD (i := 32) (d := 121) (v := undef) rfl (by kernel_rfl) (by kernel_rfl) (by kernel_rfl) (by kernel_rfl) (fun _ _ _ h => h) (Or.inr ⟨by kernel_rfl, rfl⟩) hHeld ?_
                simp only [Act.put, sA9, sZ9, sC9]
                refine takeD (i := 33) (d := 122) (v := undef) rfl (by kernel_rfl) (by kernel_rfl) (by kernel_rfl) (by kernel_rfl) (fun _ _ _ h => h) (Or.inr ⟨by kernel_rfl, rfl⟩) hHeld ?_
                simp only [Act.put, sA9, sZ9, sC9]
                refine takeD (i := 34) (d := 123) (v := undef) rfl (by kernel_rfl) (by kernel_rfl) (by kernel_rfl) (by kernel_rfl) (fun _ _ _ h => h) (Or.inr ⟨by kernel_rfl, rfl⟩) hHeld ?_
                simp only [Act.put, sA9, sZ9, sC9]
                refine takeD (i := 35) (d := 124) (v := undef) rfl (by kernel_rfl) (by kernel_rfl) (by kernel_rfl) (by kernel_rfl) (fun _ _ _ h => h) (Or.inr ⟨by kernel_rfl, rfl⟩) hHeld ?_
                simp only [Act.put, sA9, sZ9, sC9]
                refine takeD (i := 36) (d := 125) (v := undef) rfl (by kernel_rfl) (by kernel_rfl) (by kernel_rfl) (by kernel_rfl) (fun _ _ _ h => h) (Or.inr ⟨by kernel_rfl, rfl⟩) hHeld ?_
                simp only [Act.put, sA9, sZ9, sC9]
                refine takeD (i := 37) (d := 126) (v := undef) rfl (by kernel_rfl) (by kernel_rfl) (by kernel_rfl) (by kernel_rfl) (fun _ _ _ h => h) (Or.inr ⟨by kernel_rfl, rfl⟩) hHeld ?_
                simp only [Act.put, sA9, sZ9, sC9]
                refine takeD (i := 38) (d := 127) (v := undef) rfl (by kernel_rfl) (by kernel_rfl) (by kernel_rfl) (by kernel_rfl) (fun _ _ _ h => h) (Or.inr ⟨by kernel_rfl, rfl⟩) hHeld ?_
                simp only [Act.put, sA9, sZ9, sC9]
                refine takeD (i := 39) (d := 128) (v := undef) rfl (by kernel_rfl) (by kernel_rfl) (by kernel_rfl) (by kernel_rfl) (fun _ _ _ h => h) (Or.inr ⟨by kernel_rfl, rfl⟩) hHeld ?_
                simp only [Act.put, sA9, sZ9, sC9]
                refine takeD (i := 40) (d := 129) (v := .bool false) rfl (by kernel_rfl) (by kernel_rfl) (by kernel_rfl) (by kernel_rfl) (fun _ _ _ h => h) (Or.inl ⟨by kernel_rfl, fun w' hS => by go_simp⟩) hHeld ?_
                simp only [Act.put, sA9, sZ9, sC9]
                refine takeD (i := 41) (d := 130) (v := .bool false) rfl (by kernel_rfl) (by kernel_rfl) (by kernel_rfl) (by kernel_rfl) (fun _ _ _ h => h) (Or.inl ⟨by rfl, fun w' hS => by go_simp⟩) hHeld ?_
                simp only [Act.put, sA9, sZ9, sC9]
                refine wpAnyH_done (by kernel_rfl) ?_ _
                clear hHeld
                have HQ : Hid (Below w.heap.size w W9) := bstep HB2.out (bstep hbD1 b9)
                clear q0 q1 q2 q3 b9 hbD1
                go_wp2_with (fail)
                exact ⟨⟨k + 1, by omega, by go_num, HQ.out⟩, by simp [intOf]; omega⟩
            · obtain rfl : k = xn := by omega
              go_wp2_with fail
              exact ⟨⟨q + 1, by omega, by go_num, HB2.out⟩, by simp [intOf]; omega⟩
        · obtain rfl : MM = q := by omega
          go_wp2_with fail
          go_ret
          exact ⟨rfl, HB.out⟩
end
end Go.Proofs.Ytdegjhkjmgimpaa.Ms
