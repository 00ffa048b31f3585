import Derived.Test.YtcieinejjkddfaaPz
import Derived.ChangeKeysEq
namespace Go.Proofs.Ytcieinejjkddfaa.Qm
open Go.RowKit Mb
set_option linter.unusedVariables false
set_option maxRecDepth 100000
set_option linter.unusedSimpArgs false
section
variable {w w' : World} {B : Nat}
theorem furt_asym {a b : St} (h : furt a b = true) : furt b a = false := by
  unfold furt at *
  by_cases h1 : a.e = b.e
  · by_cases h2 : a.l = b.l
    · simp [h1, h2] at h ⊢; omega
    · simp [h1, h2, show b.l ≠ a.l from fun e => h2 e.symm] at h ⊢; omega
  · simp [h1, show b.e ≠ a.e from fun e => h1 e.symm] at h ⊢; omega
theorem furt_total {a b : St} (hp : a.p ≠ b.p) (h : furt a b = false) : furt b a = true := by
  unfold furt at *
  by_cases h1 : a.e = b.e
  · by_cases h2 : a.l = b.l
    · simp [h1, h2] at h ⊢; omega
    · simp [h1, h2, show b.l ≠ a.l from fun e => h2 e.symm] at h ⊢; omega
  · simp [h1, show b.e ≠ a.e from fun e => h1 e.symm] at h ⊢; omega
theorem furt_iff (a b : St) : furt a b = true ↔ (b.e < a.e ∨ (a.e = b.e ∧ (b.l < a.l ∨ (a.l = b.l ∧ a.p < b.p)))) := by
  unfold furt
  by_cases h1 : a.e = b.e
  · by_cases h2 : a.l = b.l
    · simp [h1, h2]
    · simp [h1, h2]
  · simp [h1]
theorem furt_trans {a b c : St} (h1 : furt a b = true) (h2 : furt b c = true) : furt a c = true := by
  rw [furt_iff] at *
  omega
theorem bst_max {ts : List St} (hd : ts.Pairwise fun a b => a.p ≠ b.p) : ∀ k, k ≤ ts.length → ∀ i, i < k → i ≠ bst ts k → furt (ts.getD (bst ts k) z3) (ts.getD i z3) = true
  | 0, _, i, hi, _ => by omega
  | k + 1, hk, i, hi, hne => by
      have ih := bst_max hd k (by omega)
      have hle := bst_le ts k
      by_cases hf : furt (ts.getD k z3) (ts.getD (bst ts k) z3) = true
      · have e : bst ts (k + 1) = k := by simp only [bst, hf, if_true]
        rw [e] at hne ⊢
        by_cases hib : i = bst ts k
        · rw [hib]; exact hf
        · exact furt_trans hf (ih i (by omega) hib)
      · have hf2 : furt (ts.getD k z3) (ts.getD (bst ts k) z3) = false := by simpa using hf
        have e : bst ts (k + 1) = bst ts k := by simp only [bst, hf2]; rfl
        rw [e] at hne ⊢
        by_cases hik : i = k
        · subst hik
          refine furt_total ?_ hf2
          have hlt : bst ts i < i := by
            rcases Nat.eq_zero_or_pos i with h0 | h0
            · subst h0
              exact absurd rfl hne
            · omega
          have := (List.pairwise_iff_getElem.1 hd) (bst ts i) i (by omega) (by omega) hlt
          intro he
          apply this
          simpa [List.getD, show i < ts.length by omega, show bst ts i < ts.length by omega] using he.symm
        · exact ih i (by omega) hne
theorem Gd.rev {ts : List St} (h : Gd ts) : Gd ts.reverse :=
  ⟨fun x hx => h.1 x (by simpa using hx), by rw [List.pairwise_reverse]; exact h.2.imp fun hh e => hh e.symm⟩
theorem rev_at {ts : List St} {i : Nat} (h : i < ts.length) : ts.reverse.getD i z3 = ts.getD (ts.length - 1 - i) z3 := by
  simp [List.getD, List.getElem?_reverse h]
theorem bst_rev {ts : List St} (h : Gd ts) (h0 : ts.length ≠ 0) : bst ts.reverse ts.length = ts.length - 1 - bst ts ts.length := by
  have hb := bst_le ts ts.length
  have hb2 := bst_le ts.reverse ts.length
  have m1 := bst_max h.2 ts.length (Nat.le_refl _)
  have m2 := bst_max h.rev.2 ts.length (by rw [List.length_reverse]; exact Nat.le_refl _)
  generalize hB : bst ts ts.length = b at *
  generalize hC : bst ts.reverse ts.length = d at *
  by_cases e : d = ts.length - 1 - b
  · exact e
  · exfalso
    have f1 := m1 (ts.length - 1 - d) (by omega) (by omega)
    have f2 := m2 (ts.length - 1 - b) (by omega) (fun h => e h.symm)
    rw [rev_at (by omega), rev_at (by omega), show ts.length - 1 - (ts.length - 1 - b) = b by omega] at f2
    rw [furt_asym f1] at f2
    cases f2
theorem fields_st : (Try.prog.fieldsOf 30).toList.map (fun f => (f.name, f.type, f.offset)) = [("Pid", 3, 0), ("Epoch", 3, 1), ("Length", 3, 2)] := by kernel_rfl
theorem under_st : Try.prog.underlying 30 = some (.struct (Try.prog.fieldsOf 30)) := by
  unfold Program.fieldsOf
  rw [Try.underlying30]
theorem stood_st : Try.prog.stoodInHeld 30 = false := by kernel_rfl
theorem guard_st : Try.prog.eqGuardType Try.prog.depth 30 = false := by kernel_rfl
theorem part_i (xs : List Int) (i : Nat) (h : i < xs.length) : (part 3 (ints xs).toArray i).run Try.prog w = .ok (.int .i64 (xs.getD i 0)) w := by
  have hagg : (isAgg 3).run Try.prog w = .ok false w := by
    unfold isAgg
    rw [Sem.run_bind, run_underlying Try.underlying3 w]
    rfl
  unfold part
  simp only [Sem.run_bind, hagg, Result.andThen_ok, Bool.false_eq_true, if_false, List.getElem?_toArray, ints_at xs i h]
  rfl
def eqF (d : Nat) (xs ys : Array Value) : List (String × TypeId × Nat) → Sem Bool
  | [] => pure true
  | (n, t, o) :: fs =>
    if n ≠ "_" then do
      let a ← part t xs o
      let b ← part t ys o
      let r ← Op.equalIn d t a b
      if (!r) = true then pure false else eqF d xs ys fs
    else eqF d xs ys fs
theorem eqF_eq (d : Nat) (xs ys : Array Value) : ∀ fs : List Field, Op.eqFields d xs ys fs = eqF d xs ys (fs.map fun f => (f.name, f.type, f.offset))
  | [] => rfl
  | f :: fs => by simp only [Op.eqFields, List.map_cons, eqF, eqF_eq d xs ys fs]
theorem run_neqop {o : Oper} {ρ : Operand → Value} {w : World} (t : TypeId) (x y : Operand) (t' : TypeId) (ho : o.op = .binOp .neq t x y t') (xs ys : Array Value) (hx : ρ x = .agg xs) (hy : ρ y = .agg ys) (hg : Try.prog.eqGuardType Try.prog.depth t = false) (r : Bool) (h : (Op.equalIn 10000 t (.agg xs) (.agg ys)).run Try.prog w = .ok r w) : (execOp ρ o).run Try.prog w = .ok (.value (.bool (!r))) w := by
  unfold execOp
  simp only [ho, hx, hy, Sem.run_bind, run_eqGuard_agg w .neq t x y xs ys hg, run_neq_struct, h, Result.andThen_ok, Sem.run_pure]
theorem eq_st (d : Nat) (xs ys : List Int) (hx : xs.length = 3) (hy : ys.length = 3) : (Op.equalIn (d + 2) 30 (.agg (ints xs).toArray) (.agg (ints ys).toArray)).run Try.prog w = .ok (decide (xs = ys)) w := by
  rw [run_equalIn_struct w (d + 1) 30 _ _ under_st stood_st, eqF_eq, fields_st]
  simp only [eqF, ne_eq, reduceCtorEq, String.reduceEq, not_false_eq_true, if_true, Sem.run_bind, Sem.run_ite, Sem.run_pure, part_i xs 0 (by omega), part_i ys 0 (by omega), part_i xs 1 (by omega), part_i ys 1 (by omega), part_i xs 2 (by omega), part_i ys 2 (by omega), Result.andThen_ok, run_equalIn_int w d 3 .i64 .i64 _ _ Try.underlying3]
  have e : decide (xs = ys) = (xs.getD 0 0 == ys.getD 0 0 && xs.getD 1 0 == ys.getD 1 0 && xs.getD 2 0 == ys.getD 2 0) := by
    match xs, ys, hx, hy with
    | [a, b, c], [e, f, g], _, _ =>
      rw [Bool.eq_iff_iff]
      simp [and_assoc]
  rw [e]
  cases xs.getD 0 0 == ys.getD 0 0 <;> cases xs.getD 1 0 == ys.getD 1 0 <;> cases xs.getD 2 0 == ys.getD 2 0 <;> rfl
def fl3 (ts : List St) : List Int := ts.flatMap St.li
theorem fl3_len : ∀ ts : List St, (fl3 ts).length = ts.length * 3
  | [] => rfl
  | x :: r => by
      have := fl3_len r
      simp only [fl3, List.flatMap_cons, List.length_append, List.length_cons, St.li_len] at this ⊢
      rw [this]
      omega
theorem fl3_at : ∀ (ts : List St) (i j : Nat), i < ts.length → j < 3 → (fl3 ts)[i * 3 + j]? = (ts.getD i z3).li[j]?
  | [], i, j, h, _ => by simp at h
  | x :: r, 0, j, h, hj => by
      simp only [fl3, List.flatMap_cons, Nat.zero_mul, Nat.zero_add]
      rw [List.getElem?_append_left (by rw [St.li_len]; exact hj)]
      simp [List.getD]
  | x :: r, i + 1, j, h, hj => by
      have ih := fl3_at r i j (by simpa using h) hj
      simp only [fl3, List.flatMap_cons] at ih ⊢
      rw [List.getElem?_append_right (by rw [St.li_len]; omega), St.li_len, show (i + 1) * 3 + j - 3 = i * 3 + j by omega, ih]
      simp [List.getD]
theorem fl3_snoc (ts : List St) (x : St) : fl3 (ts ++ [x]) = fl3 ts ++ x.li := by simp [fl3]
theorem ints_get (xs : List Int) (j : Nat) : (ints xs)[j]? = (xs[j]?).map (Value.int .i64) := by simp [ints]
theorem own3_rd {a : Option Addr} {n c : Nat} {ts : List St} (h : w.ownsRow B 30 3 (.slice a n c) n (ints (fl3 ts))) : Rd3 w a n c ts := by
  have hl : ts.length = n := by
    have := h.1
    rw [ints_len, fl3_len] at this
    omega
  rcases h.2 with ⟨h1, h2⟩ | ⟨g, cap, cur, hv, hB, hg, hnc, hcm, hcs, htk⟩
  · simp only [Value.slice.injEq] at h1
    obtain ⟨rfl, rfl, rfl⟩ := h1
    exact ⟨hl, Nat.le_refl _, fun _ => rfl, .inl rfl⟩
  · simp only [Value.slice.injEq] at hv
    obtain ⟨rfl, -, rfl⟩ := hv
    refine ⟨hl, by omega, by simp, .inr ⟨g, 0, rfl, fun i hi j v hj => ?_⟩⟩
    have hj3 : j < 3 := by
      have := (List.getElem?_eq_some_iff.1 hj).1
      rw [ints_len, St.li_len] at this
      exact this
    rw [Nat.zero_add, blk_cell hg (i * 3 + j)]
    have e1 : (cur.toList.take (n * 3))[i * 3 + j]? = (ints (fl3 ts))[i * 3 + j]? := by rw [htk]
    rw [List.getElem?_take_of_lt (by omega)] at e1
    rw [← Array.getElem?_toList, e1, ints_get, fl3_at ts i j (by omega) hj3, ← ints_get, hj]
theorem rd3_cells {ao : Option Addr} {n c : Nat} {ts : List St} (h : Rd3 w ao n c ts) : ∀ ad, ao = some ad → ∀ j u, (ints (fl3 ts))[j]? = some u → w.cell? (ad.add j) = some u := by
  intro ad ha
  have h1 := h.len
  rcases h.at_ with h2 | ⟨b, o, e, hc⟩
  · obtain rfl : ts = [] := List.eq_nil_of_length_eq_zero (by omega)
    intro j u hu
    simp [fl3, ints] at hu
  · obtain rfl : ad = ⟨b, o, none⟩ := by rw [ha] at e; simpa using e
    intro j u hu
    have hj : j < n * 3 := by
      have := (List.getElem?_eq_some_iff.1 hu).1
      rw [ints_len, fl3_len] at this
      omega
    rw [Addr.add_lit]
    have := hc (j / 3) (by omega) (j % 3) u (by
      rw [← hu, ints_get, ints_get, ← fl3_at ts (j / 3) (j % 3) (by omega) (by omega)]
      congr 1
      congr 1
      omega)
    rw [show o + j / 3 * 3 + j % 3 = o + j by omega] at this
    exact this
theorem st_info : ∃ i : TypeInfo, Try.prog.info? 30 = some i ∧ i.zero = some (.agg #[.int .i64 0, .int .i64 0, .int .i64 0]) ∧ i.size = 3 ∧ i.bytes = 24 := by
  have h : (Try.prog.info? 30).map (fun i => (i.zero, i.size, i.bytes)) = some (some (.agg #[.int .i64 0, .int .i64 0, .int .i64 0]), 3, 24) := by kernel_rfl
  cases hi : Try.prog.info? 30 with
  | none => rw [hi] at h; cases h
  | some i =>
    rw [hi] at h
    simp only [Option.map_some, Option.some.injEq, Prod.mk.injEq] at h
    exact ⟨i, rfl, h.1, h.2.1, h.2.2⟩
theorem app_s {w0 : World} {ops : Array Oper} {rest : List Oper} {o : Oper} {a : Act} {Q : Exit → Act → World → Prop} (hgd : o.guard = none) (s x : Operand)
    (ho : o.op = .call { callee := .builtin .append, args := #[s, x], argTypes := #[22, 22] })
    (v : Value) (n : Nat) (ts : List St) (hs : a.eval s = v) (hown : w.ownsRow w0.heap.size 30 3 v n (ints (fl3 ts))) (hb : Below w0.heap.size w0 w)
    (ao : Option Addr) (k c : Nat) (ys : List St) (hx : a.eval x = .slice ao k c) (hr : Rd3 w ao k c ys) (hn : n + k ≤ 5864062014805)
    (h : ∀ v' w', Hid (w'.ownsRow w0.heap.size 30 3 v' (n + k) (ints (fl3 (ts ++ ys)))) → Hid (Below w0.heap.size w0 w') → wpList Try.prog ops Q rest (a.put o.dst v') w') : wpList Try.prog ops Q (o :: rest) a w := by
  obtain ⟨i0, hi, hz0, hz1, hz2⟩ := st_info
  have hk := hr.len
  cases ao with
  | some ad =>
    refine wpList_append_own w hgd s x 22 ho w0.heap.size 30 i0 (.agg #[.int .i64 0, .int .i64 0, .int .i64 0]) 3 24 Try.underlying22 hi hz0 hz1 hz2 (by rfl) (by decide) v n (ints (fl3 ts)) hs hown ad k c (ints (fl3 ys)) hx (by rw [ints_len, fl3_len]; omega) (rd3_cells hr ad rfl) (ints_one _) (by unfold maxLen; omega) (by omega) hb.size ?_
    intro v' w' h2 h3 _
    exact h v' w' (by show World.ownsRow _ _ _ _ _ _ _; simpa [ints, fl3] using h2) (hb.grown h3 hb.size (fun q hq => (World.ownsRow.lt hown q hq).1))
  | none =>
    obtain rfl := hr.nil rfl
    obtain rfl : k = 0 := by have := hr.cap; omega
    obtain rfl : ys = [] := List.eq_nil_of_length_eq_zero hk
    exact wpList_append_own_none hgd s x 22 ho w0.heap.size 30 i0 3 Try.underlying22 hi v n (ints (fl3 ts)) hs hown hx (h v w (by show World.ownsRow _ _ _ _ _ _ _; simpa using hown) hb)
theorem own3_empty (w : World) (c : Nat) : (w.alloc (.cells #[] 30)).ownsRow w.heap.size 30 3 (.slice (some ⟨w.heap.size, 0, none⟩) 0 0) 0 (ints (fl3 [])) :=
  ⟨rfl, .inr ⟨w.heap.size, 0, _, rfl, Nat.le_refl _, heap_alloc_new w _, Nat.le_refl _, by unfold maxLen; omega, rfl, rfl⟩⟩
theorem own3_nil (w : World) (B : Nat) : w.ownsRow B 30 3 (.slice none 0 0) 0 (ints (fl3 [])) := ⟨rfl, .inl ⟨rfl, rfl⟩⟩
theorem blk3_one {W : World} (x : St) : Rd3 (W.alloc (.cells (ints x.li).toArray 30)) (some ⟨W.heap.size, 0, none⟩) 1 1 [x] :=
  ⟨rfl, Nat.le_refl _, by simp, .inr ⟨W.heap.size, 0, rfl, fun i hi j v hj => by
    obtain rfl : i = 0 := by omega
    rw [blk_cell (heap_alloc_new W _)]
    rw [List.getElem?_toArray, show 0 + 0 * 3 + j = j by omega]
    exact hj⟩⟩
theorem drop_rev {ts : List St} {k : Nat} (hk : k < ts.length) : (ts.drop (ts.length - (k + 1))).reverse = (ts.drop (ts.length - k)).reverse ++ [ts.getD (ts.length - 1 - k) z3] := by
  have h1 : ts.length - (k + 1) < ts.length := by omega
  rw [List.drop_eq_getElem_cons h1, List.reverse_cons, show ts.length - (k + 1) + 1 = ts.length - k by omega]
  congr 1
  simp [List.getD, show ts.length - 1 - k < ts.length by omega, show ts.length - 1 - k = ts.length - (k + 1) by omega, h1]
set_option maxHeartbeats 8000000 in
theorem best_law {ao : Option Addr} {n c : Nat} {ts : List St} (hr : Rd3 w ao n c ts) (hn : n ≤ 5864062014634) : Calls Try.prog 3 #[.slice ao n c] w fun e w' => e = .returned (.bool true) ∧ Below w.heap.size w w' := by
  have HR : Hid (Rd3 w ao n c ts) := hr
  have Hl : Hid (ts.length = n) := hr.len
  have HRB : Hid (∀ V, Below w.heap.size w V → Calls Try.prog 10 #[.slice ao n c] V fun e w' => e = .returned (.tuple #[.int .i64 (betN ts), .int .i64 (betE ts)]) ∧ Below V.heap.size V w') := fun V hV => rbest_any (HR.out.still hV)
  have HN : Hid (∀ V x, Calls Try.prog 11 #[.int .i64 x] V fun e w' => e = .returned (.int .i64 x) ∧ V = w') := fun V x => num_any x
  clear hr
  by_cases hG : Gd ts ∧ ts.length ≠ 0
  · obtain ⟨q, hq⟩ : ∃ q, q = bst ts n := ⟨_, rfl⟩
    have hbq := bst_le ts n
    rw [← hq] at hbq
    have hn0 : 0 < n := by have := Hl.out; omega
    have hv := bet_yes hG.1 hG.2
    rw [Hl.out, ← hq] at hv
    have hv2 := bet_yes hG.1.rev (by rw [List.length_reverse]; exact hG.2)
    rw [List.length_reverse, Hl.out] at hv2
    have hbr := bst_rev hG.1 hG.2
    rw [Hl.out, ← hq] at hbr
    rw [hbr] at hv2
    have eI : ((n - 1 - q : Nat) : Int) = (n : Int) - 1 - (q : Int) := by omega
    rw [eI] at hv2
    have HVs : Hid ((betN ts = (q : Int) ∧ betE ts = 0) ∧ (betN ts.reverse = (n : Int) - 1 - (q : Int) ∧ betE ts.reverse = 0)) := ⟨hv, hv2⟩
    clear hq hv hv2 hbr eI hG
    rw [HVs.out.1.1, HVs.out.1.2] at HRB
    go_enter Try.func3, Try.ntmps3
    go_wp2_with (first
      | (at_builtin; refine app_s (w0 := w) rfl _ _ rfl _ 0 [] rfl (own3_empty w 0) (balloc (Below.refl _ _)) _ n c ts rfl (HR.out.still (balloc (Below.refl _ _))) (by omega) ?_; intro v1 w1 HO1 HB1; obtain ⟨a1, c1, rfl⟩ := own_shape HO1.out)
      | fail)
    have HR1 : Hid (Rd3 w1 a1 n c1 ts) := by
      have := own3_rd HO1.out
      rw [Nat.zero_add, List.nil_append] at this
      exact this
    clear HO1
    have HP0 := best_any HR1.out (by omega)
    rw [HVs.out.1.1, HVs.out.1.2] at HP0
    have HP : Hid (Calls Try.prog 9 #[.slice a1 n c1] w1 fun e w' => e = .returned (.tuple #[.int .i64 (q : Int), .int .i64 0]) ∧ Below w1.heap.size w1 w') := HP0
    clear HP0
    go_wp2_with (first
      | (go_at_call 9; refine HP.out.mono ?_; rintro e w2 ⟨rfl, hb2⟩; have HB2 : Hid (Below w1.heap.size w1 w2) := hb2; clear hb2)
      | (go_at_call 10; refine (HRB.out _ (bstep HB1.out HB2.out)).mono ?_; rintro e w3 ⟨rfl, hb3⟩; have HB3 : Hid (Below w1.heap.size w1 w3) := bstep HB2.out hb3; clear hb3)
      | (go_at_call 11; refine (HN.out _ _).mono ?_; rintro e wn ⟨rfl, rfl⟩)
      | fail)
    go_loopw [8] (fun i wr => ∃ k : Nat, k ≤ n ∧ i = .int .i64 (k : Int) ∧ Hid (Below w1.heap.size w1 wr)) (fun i _ => n - (intOf i).toNat)
    case atStart => exact ⟨0, Nat.zero_le _, rfl, HB3⟩
    case round =>
      obtain ⟨k, hk, rfl, HBk⟩ := hrel
      by_cases hlt : k < n
      · obtain ⟨b1, o1, g1, r1⟩ := (HR1.out.still HBk.out).at hlt
        obtain ⟨b2, o2, g2, r2⟩ := (HR.out.still (bstep HB1.out HBk.out)).at hlt
        have i1 : (0 : Int) ≤ (k : Int) := Int.natCast_nonneg _
        have i2 : (k : Int) < (n : Int) := by omega
        rw [g1, g2]
        generalize ts.getD k z3 = x at *
        have H1 : Hid (wr.rangeAt b1 (o1 + k * 3) (ints x.li)) := r1
        have H2 : Hid (wr.rangeAt b2 (o2 + k * 3) (ints x.li)) := r2
        clear g1 g2 r1 r2
        go_wp2
        refine wp_region_held_drew (S := (fun w' => w'.rangeAt b1 (o1 + k * 3) (ints x.li) ∧ w'.rangeAt b2 (o2 + k * 3) (ints x.li))) (by kernel_rfl) ⟨below_range (Below.refl _ _).drew H1.out, below_range (Below.refl _ _).drew H2.out⟩ (fun hHeld => ?_)
        simp only [Act.put, List.size_toArray, List.length_cons, List.length_nil, Nat.zero_add]
        refine wpAnyH_take (i := 0) (v := .slice (some ⟨b1, o1, none⟩) n c1) rfl (by kernel_rfl) (by kernel_rfl) (by kernel_rfl) (fun _ _ _ h => h) (Or.inl ⟨by rfl, fun w' hS => by go_simp⟩) hHeld ?_
        simp only [Act.put, List.getElem_toArray, List.getElem_cons_zero, List.getElem_cons_succ, List.setIfInBounds_toArray, List.set_cons_zero, List.set_cons_succ]
        refine wpAnyH_take (i := 1) (v := .int .i64 (k : Int)) rfl (by kernel_rfl) (by kernel_rfl) (by kernel_rfl) (fun _ _ _ h => h) (Or.inl ⟨by rfl, fun w' hS => by go_simp⟩) hHeld ?_
        simp only [Act.put, List.getElem_toArray, List.getElem_cons_zero, List.getElem_cons_succ, List.setIfInBounds_toArray, List.set_cons_zero, List.set_cons_succ]
        refine wpAnyH_take (i := 2) (v := .pointer (some ⟨b1, o1 + k * 3, none⟩)) rfl (by kernel_rfl) (by kernel_rfl) (by kernel_rfl) (fun _ _ _ h => h) (Or.inl ⟨by rfl, fun w' hS => by go_simp⟩) hHeld ?_
        simp only [Act.put, List.getElem_toArray, List.getElem_cons_zero, List.getElem_cons_succ, List.setIfInBounds_toArray, List.set_cons_zero, List.set_cons_succ]
        refine wpAnyH_take (i := 3) (v := .agg (ints x.li).toArray) rfl (by kernel_rfl) (by kernel_rfl) (by kernel_rfl) (fun _ _ _ h => h) (yieldsIf_load_mid (by rfl) 30 (.tmp 43) rfl b1 (o1 + k * 3) (by rfl) (ints x.li) _ (fun w' hS => hS.1) Try.underlying30 rfl (by rw [ints_len, St.li_len]; exact info_st)) hHeld ?_
        simp only [Act.put, List.getElem_toArray, List.getElem_cons_zero, List.getElem_cons_succ, List.setIfInBounds_toArray, List.set_cons_zero, List.set_cons_succ]
        refine wpAnyH_take (i := 4) (v := .slice (some ⟨b2, o2, none⟩) n c) rfl (by kernel_rfl) (by kernel_rfl) (by kernel_rfl) (fun _ _ _ h => h) (Or.inl ⟨by rfl, fun w' hS => by go_simp⟩) hHeld ?_
        simp only [Act.put, List.getElem_toArray, List.getElem_cons_zero, List.getElem_cons_succ, List.setIfInBounds_toArray, List.set_cons_zero, List.set_cons_succ]
        refine wpAnyH_take (i := 5) (v := .int .i64 (k : Int)) rfl (by kernel_rfl) (by kernel_rfl) (by kernel_rfl) (fun _ _ _ h => h) (Or.inl ⟨by rfl, fun w' hS => by go_simp⟩) hHeld ?_
        simp only [Act.put, List.getElem_toArray, List.getElem_cons_zero, List.getElem_cons_succ, List.setIfInBounds_toArray, List.set_cons_zero, List.set_cons_succ]
        refine wpAnyH_take (i := 6) (v := .pointer (some ⟨b2, o2 + k * 3, none⟩)) rfl (by kernel_rfl) (by kernel_rfl) (by kernel_rfl) (fun _ _ _ h => h) (Or.inl ⟨by rfl, fun w' hS => by go_simp⟩) hHeld ?_
        simp only [Act.put, List.getElem_toArray, List.getElem_cons_zero, List.getElem_cons_succ, List.setIfInBounds_toArray, List.set_cons_zero, List.set_cons_succ]
        refine wpAnyH_take (i := 7) (v := .agg (ints x.li).toArray) rfl (by kernel_rfl) (by kernel_rfl) (by kernel_rfl) (fun _ _ _ h => h) (yieldsIf_load_mid (by rfl) 30 (.tmp 47) rfl b2 (o2 + k * 3) (by rfl) (ints x.li) _ (fun w' hS => hS.2) Try.underlying30 rfl (by rw [ints_len, St.li_len]; exact info_st)) hHeld ?_
        simp only [Act.put, List.getElem_toArray, List.getElem_cons_zero, List.getElem_cons_succ, List.setIfInBounds_toArray, List.set_cons_zero, List.set_cons_succ]
        refine wpAnyH_take (i := 8) (v := .bool (!(decide (x.li = x.li)))) rfl (by kernel_rfl) (by kernel_rfl) (by kernel_rfl) (fun _ _ _ h => h) (Or.inl ⟨by rfl, fun w' hS => run_neqop 30 (.tmp 44) (.tmp 48) 30 rfl _ _ (by rfl) (by rfl) (by kernel_rfl) _ (eq_st 9998 x.li x.li rfl rfl)⟩) hHeld ?_
        simp only [Act.put, List.getElem_toArray, List.getElem_cons_zero, List.getElem_cons_succ, List.setIfInBounds_toArray, List.set_cons_zero, List.set_cons_succ]
        refine wpAnyH_done (by kernel_rfl) ?_ _
        clear hHeld
        go_wp2
        exact ⟨⟨k + 1, by omega, by go_num, bstep HBk.out (Below.refl _ _).drew⟩, by simp [intOf]; omega⟩
      · obtain rfl : k = n := by omega
        go_wp2
        go_loopw [9, 10] (fun a i wr => ∃ j : Nat, j ≤ k ∧ i = .int .i64 ((j : Int) - 1) ∧ Hid (wr.ownsRow w.heap.size 30 3 a (k - j) (ints (fl3 (ts.drop j).reverse)) ∧ Below w.heap.size w wr)) (fun _ i _ => (intOf i + 1).toNat)
        case atStart => exact ⟨k, Nat.le_refl _, rfl, (by rw [List.drop_of_length_le (by have := Hl.out; omega), Nat.sub_self]; exact own3_nil _ _), bstep HB1.out HBk.out⟩
        case round =>
          obtain ⟨j, hj, rfl, HI⟩ := hrel
          cases j with
          | zero =>
            have hrv : (ts.drop 0).reverse = ts.reverse := rfl
            obtain ⟨a2, c2, rfl⟩ := own_shape HI.out.1
            have HRr : Hid (Rd3 wr a2 k c2 ts.reverse) := own3_rd HI.out.1
            have HP1 := best_any HRr.out (by omega)
            rw [HVs.out.2.1, HVs.out.2.2] at HP1
            have HPr : Hid (Calls Try.prog 9 #[.slice a2 k c2] wr fun e w' => e = .returned (.tuple #[.int .i64 ((k : Int) - 1 - (q : Int)), .int .i64 0]) ∧ Below wr.heap.size wr w') := HP1
            clear HP1
            go_wp2_with (first
              | (go_at_call 9; refine HPr.out.mono ?_; rintro e w5 ⟨rfl, hb5⟩)
              | (go_at_call 11; refine (HN.out _ _).mono ?_; rintro e wn ⟨rfl, rfl⟩)
              | fail)
            go_ret
            exact ⟨by simp, bstep HI.out.2 hb5⟩
          | succ m =>
            have em : ((m + 1 : Nat) : Int) - 1 = (m : Int) := by omega
            rw [em]
            have hm : m < k := by omega
            obtain ⟨b2, o2, g2, r2⟩ := (HR.out.still HI.out.2).at hm
            have i1 : (0 : Int) ≤ (m : Int) := Int.natCast_nonneg _
            have i2 : (m : Int) < (k : Int) := by omega
            have hlen := Hl.out
            have HD : Hid ((ts.drop m).reverse = (ts.drop (m + 1)).reverse ++ [ts.getD m z3]) := by
              have hm2 : m < ts.length := by omega
              show _ = _
              rw [List.drop_eq_getElem_cons hm2, List.reverse_cons]
              congr 1
              simp [List.getD, hm2]
            rw [g2]
            generalize ts.getD m z3 = x at *
            have H2 : Hid (wr.rangeAt b2 (o2 + m * 3) (ints x.li)) := r2
            have hx3 : (ints x.li).length = 3 := rfl
            clear g2 r2 em
            go_wp2_with (first
              | (refine load_mid 30 (.tmp 62) H2.out _ Try.underlying30 rfl (by rw [ints_len]; exact info_st) rfl rfl rfl ?_)
              | (at_builtin; refine app_s (w0 := w) rfl _ _ rfl _ (k - (m + 1)) _ rfl (HI.out.1.alloc _) (balloc HI.out.2) _ 1 1 [x] rfl (blk3_one x) (by omega) ?_; intro a3 w3' HO3 HB3')
              | fail)
            refine ⟨⟨m, by omega, by go_num, ?_, HB3'.out⟩, by simp [intOf] <;> omega⟩
            have := HO3.out
            rw [← HD.out, show k - (m + 1) + 1 = k - m by omega] at this
            exact this
  · have HVs : Hid (betN ts = 0 ∧ betE ts = 1) := by
      by_cases h1 : Gd ts
      · have h0 : ts.length = 0 := by
          by_cases h : ts.length = 0
          · exact h
          · exact absurd ⟨h1, h⟩ hG
        unfold betN betE
        rw [h0]
        exact ⟨rfl, rfl⟩
      · exact bet_no h1
    rw [HVs.out.1, HVs.out.2] at HRB
    clear hG
    go_enter Try.func3, Try.ntmps3
    go_wp2_with (first
      | (at_builtin; refine app_s (w0 := w) rfl _ _ rfl _ 0 [] rfl (own3_empty w 0) (balloc (Below.refl _ _)) _ n c ts rfl (HR.out.still (balloc (Below.refl _ _))) (by omega) ?_; intro v1 w1 HO1 HB1; obtain ⟨a1, c1, rfl⟩ := own_shape HO1.out)
      | fail)
    have HR1 : Hid (Rd3 w1 a1 n c1 ts) := by
      have := own3_rd HO1.out
      rw [Nat.zero_add, List.nil_append] at this
      exact this
    clear HO1
    have HP0 := best_any HR1.out (by omega)
    rw [HVs.out.1, HVs.out.2] at HP0
    have HP : Hid (Calls Try.prog 9 #[.slice a1 n c1] w1 fun e w' => e = .returned (.tuple #[.int .i64 0, .int .i64 1]) ∧ Below w1.heap.size w1 w') := HP0
    clear HP0
    go_wp2_with (first
      | (go_at_call 9; refine HP.out.mono ?_; rintro e w2 ⟨rfl, hb2⟩; have HB2 : Hid (Below w1.heap.size w1 w2) := hb2; clear hb2)
      | (go_at_call 10; refine (HRB.out _ (bstep HB1.out HB2.out)).mono ?_; rintro e w3 ⟨rfl, hb3⟩; have HB3 : Hid (Below w1.heap.size w1 w3) := bstep HB2.out hb3; clear hb3)
      | (go_at_call 11; refine (HN.out _ _).mono ?_; rintro e wn ⟨rfl, rfl⟩)
      | fail)
    go_loopw [8] (fun i wr => ∃ k : Nat, k ≤ n ∧ i = .int .i64 (k : Int) ∧ Hid (Below w1.heap.size w1 wr)) (fun i _ => n - (intOf i).toNat)
    case atStart => exact ⟨0, Nat.zero_le _, rfl, HB3⟩
    case round =>
      obtain ⟨k, hk, rfl, HBk⟩ := hrel
      by_cases hlt : k < n
      · obtain ⟨b1, o1, g1, r1⟩ := (HR1.out.still HBk.out).at hlt
        obtain ⟨b2, o2, g2, r2⟩ := (HR.out.still (bstep HB1.out HBk.out)).at hlt
        have i1 : (0 : Int) ≤ (k : Int) := Int.natCast_nonneg _
        have i2 : (k : Int) < (n : Int) := by omega
        rw [g1, g2]
        generalize ts.getD k z3 = x at *
        have H1 : Hid (wr.rangeAt b1 (o1 + k * 3) (ints x.li)) := r1
        have H2 : Hid (wr.rangeAt b2 (o2 + k * 3) (ints x.li)) := r2
        clear g1 g2 r1 r2
        go_wp2
        refine wp_region_held_drew (S := (fun w' => w'.rangeAt b1 (o1 + k * 3) (ints x.li) ∧ w'.rangeAt b2 (o2 + k * 3) (ints x.li))) (by kernel_rfl) ⟨below_range (Below.refl _ _).drew H1.out, below_range (Below.refl _ _).drew H2.out⟩ (fun hHeld => ?_)
        simp only [Act.put, List.size_toArray, List.length_cons, List.length_nil, Nat.zero_add]
        refine wpAnyH_take (i := 0) (v := .slice (some ⟨b1, o1, none⟩) n c1) rfl (by kernel_rfl) (by kernel_rfl) (by kernel_rfl) (fun _ _ _ h => h) (Or.inl ⟨by rfl, fun w' hS => by go_simp⟩) hHeld ?_
        simp only [Act.put, List.getElem_toArray, List.getElem_cons_zero, List.getElem_cons_succ, List.setIfInBounds_toArray, List.set_cons_zero, List.set_cons_succ]
        refine wpAnyH_take (i := 1) (v := .int .i64 (k : Int)) rfl (by kernel_rfl) (by kernel_rfl) (by kernel_rfl) (fun _ _ _ h => h) (Or.inl ⟨by rfl, fun w' hS => by go_simp⟩) hHeld ?_
        simp only [Act.put, List.getElem_toArray, List.getElem_cons_zero, List.getElem_cons_succ, List.setIfInBounds_toArray, List.set_cons_zero, List.set_cons_succ]
        refine wpAnyH_take (i := 2) (v := .pointer (some ⟨b1, o1 + k * 3, none⟩)) rfl (by kernel_rfl) (by kernel_rfl) (by kernel_rfl) (fun _ _ _ h => h) (Or.inl ⟨by rfl, fun w' hS => by go_simp⟩) hHeld ?_
        simp only [Act.put, List.getElem_toArray, List.getElem_cons_zero, List.getElem_cons_succ, List.setIfInBounds_toArray, List.set_cons_zero, List.set_cons_succ]
        refine wpAnyH_take (i := 3) (v := .agg (ints x.li).toArray) rfl (by kernel_rfl) (by kernel_rfl) (by kernel_rfl) (fun _ _ _ h => h) (yieldsIf_load_mid (by rfl) 30 (.tmp 43) rfl b1 (o1 + k * 3) (by rfl) (ints x.li) _ (fun w' hS => hS.1) Try.underlying30 rfl (by rw [ints_len, St.li_len]; exact info_st)) hHeld ?_
        simp only [Act.put, List.getElem_toArray, List.getElem_cons_zero, List.getElem_cons_succ, List.setIfInBounds_toArray, List.set_cons_zero, List.set_cons_succ]
        refine wpAnyH_take (i := 4) (v := .slice (some ⟨b2, o2, none⟩) n c) rfl (by kernel_rfl) (by kernel_rfl) (by kernel_rfl) (fun _ _ _ h => h) (Or.inl ⟨by rfl, fun w' hS => by go_simp⟩) hHeld ?_
        simp only [Act.put, List.getElem_toArray, List.getElem_cons_zero, List.getElem_cons_succ, List.setIfInBounds_toArray, List.set_cons_zero, List.set_cons_succ]
        refine wpAnyH_take (i := 5) (v := .int .i64 (k : Int)) rfl (by kernel_rfl) (by kernel_rfl) (by kernel_rfl) (fun _ _ _ h => h) (Or.inl ⟨by rfl, fun w' hS => by go_simp⟩) hHeld ?_
        simp only [Act.put, List.getElem_toArray, List.getElem_cons_zero, List.getElem_cons_succ, List.setIfInBounds_toArray, List.set_cons_zero, List.set_cons_succ]
        refine wpAnyH_take (i := 6) (v := .pointer (some ⟨b2, o2 + k * 3, none⟩)) rfl (by kernel_rfl) (by kernel_rfl) (by kernel_rfl) (fun _ _ _ h => h) (Or.inl ⟨by rfl, fun w' hS => by go_simp⟩) hHeld ?_
        simp only [Act.put, List.getElem_toArray, List.getElem_cons_zero, List.getElem_cons_succ, List.setIfInBounds_toArray, List.set_cons_zero, List.set_cons_succ]
        refine wpAnyH_take (i := 7) (v := .agg (ints x.li).toArray) rfl (by kernel_rfl) (by kernel_rfl) (by kernel_rfl) (fun _ _ _ h => h) (yieldsIf_load_mid (by rfl) 30 (.tmp 47) rfl b2 (o2 + k * 3) (by rfl) (ints x.li) _ (fun w' hS => hS.2) Try.underlying30 rfl (by rw [ints_len, St.li_len]; exact info_st)) hHeld ?_
        simp only [Act.put, List.getElem_toArray, List.getElem_cons_zero, List.getElem_cons_succ, List.setIfInBounds_toArray, List.set_cons_zero, List.set_cons_succ]
        refine wpAnyH_take (i := 8) (v := .bool (!(decide (x.li = x.li)))) rfl (by kernel_rfl) (by kernel_rfl) (by kernel_rfl) (fun _ _ _ h => h) (Or.inl ⟨by rfl, fun w' hS => run_neqop 30 (.tmp 44) (.tmp 48) 30 rfl _ _ (by rfl) (by rfl) (by kernel_rfl) _ (eq_st 9998 x.li x.li rfl rfl)⟩) hHeld ?_
        simp only [Act.put, List.getElem_toArray, List.getElem_cons_zero, List.getElem_cons_succ, List.setIfInBounds_toArray, List.set_cons_zero, List.set_cons_succ]
        refine wpAnyH_done (by kernel_rfl) ?_ _
        clear hHeld
        go_wp2
        exact ⟨⟨k + 1, by omega, by go_num, bstep HBk.out (Below.refl _ _).drew⟩, by simp [intOf]; omega⟩
      · obtain rfl : k = n := by omega
        go_wp2
        go_ret
        exact ⟨rfl, bstep HB1.out HBk.out⟩
end
end Go.Proofs.Ytcieinejjkddfaa.Qm
