import Derived.Test.YtapenemfnngniaaPc
namespace Go.Proofs.Ytapenemfnngniaa.Qm
open Go.RowKit Mb
set_option linter.unusedVariables false
set_option maxRecDepth 100000
set_option linter.unusedSimpArgs false
section
variable {w w' W : World} {B : Nat}
theorem wpList_make_cap {P : Program} (w : World) {ops : Array Oper} {rest : List Oper} {o : Oper} {a : Act} {Q : Exit → Act → World → Prop}
    (hg : o.guard = none) (l c : Operand) (t : TypeId) (hop : o.op = Op.makeSlice t l c)
    (e : TypeId) (i : TypeInfo) (z : Value) (h1 : P.underlying t = some (.slice e)) (h2 : P.info? e = some i) (h3 : i.zero = some z) (h4 : i.size = 1) (h5 : z.cells = #[z]) (bytes : Nat) (h6 : i.bytes = bytes)
    (kl kc : IntKind) (L C : Int) (n m : Nat) (hl : a.eval l = .int kl L) (hc : a.eval c = .int kc C) (hL : L = (n : Int)) (hC : C = (m : Int)) (hnm : n ≤ m) (b2 : bytes * m ≤ 281474976710656) (b3 : m ≤ 9223372036854775807)
    (hK : ∀ w', Hid (w'.heap[w.heap.size]? = some (.cells (List.replicate m z).toArray e (0, 0))) → w'.heap.size = w.heap.size + 1 → Below w.heap.size w w' → wpList P ops Q rest (a.put o.dst (.slice (some ⟨w.heap.size, 0, none⟩) n m)) w') :
    wpList P ops Q (o :: rest) a w := by
  refine wpList_plain hg fun K hK' => ?_
  subst h6
  have hrun := run_make (P := P) w t e i z h1 h2 h3 kl kc L C (by omega) (by omega) (by rw [hC, show (i.bytes : Int) * (m : Int) = ((i.bytes * m : Nat) : Int) from by push_cast; rfl]; omega) (by omega)
  have hm : madeCells z.cells (C.toNat * i.size) = (List.replicate m z).toArray := by
    rw [h5, h4, hC]
    simp only [Int.toNat_natCast, Nat.mul_one]
    rw [← toList_madeCells_one, Array.toArray_toList]
  rw [hm] at hrun
  have hLn : L.toNat = n := by omega
  have hCn : C.toNat = m := by omega
  rw [hLn, hCn] at hrun
  unfold Oper.wp
  simp [execOp, hop, hl, hc, hrun, Result.andThen]
  exact hK' _ _ (hK _ (heap_alloc_new w _) (by simp) ((Below.refl _ _).alloc (Nat.le_refl _) _))
theorem int_info : ∃ i : TypeInfo, Try.prog.info? 3 = some i ∧ i.zero = some (.int .i64 0) ∧ i.size = 1 ∧ i.bytes = 8 := by
  have h : (Try.prog.info? 3).map (fun i => (i.zero, i.size, i.bytes)) = some (some (.int .i64 0), 1, 8) := by kernel_rfl
  cases hi : Try.prog.info? 3 with
  | none => rw [hi] at h; cases h
  | some i =>
    rw [hi] at h
    simp only [Option.map_some, Option.some.injEq, Prod.mk.injEq] at h
    exact ⟨i, rfl, h.1, h.2.1, h.2.2⟩
theorem Rw.rd {g : Nat} {xs : List Int} (h : Rw w g 3 xs) {n c : Nat} (hn : xs.length = n) (hc : n ≤ c) : RdI w (some ⟨g, 0, none⟩) n c xs :=
  ⟨hn, hc, by simp, .inr ⟨g, 0, rfl, fun i hi => by rw [Nat.zero_add]; exact h.cell (by omega)⟩⟩
theorem own_rd {a : Option Addr} {n c : Nat} {xs : List Int} (h : w.ownsRow B 3 1 (.slice a n c) n (ints xs)) : RdI w a n c xs := by
  have hl : xs.length = n := by simpa [ints] using h.1
  rcases h.2 with ⟨h1, h2⟩ | ⟨g, cap, cur, hv, hB, hg, hnc, hcm, hcs, htk⟩
  · simp only [Value.slice.injEq] at h1
    obtain ⟨rfl, rfl, rfl⟩ := h1
    exact ⟨hl, Nat.le_refl _, fun _ => rfl, .inl rfl⟩
  · simp only [Value.slice.injEq] at hv
    obtain ⟨rfl, -, rfl⟩ := hv
    refine ⟨hl, by omega, by simp, .inr ⟨g, 0, rfl, fun i hi => ?_⟩⟩
    rw [Nat.zero_add, blk_cell hg i]
    have e1 : (cur.toList.take (n * 1))[i]? = (ints xs)[i]? := by rw [htk]
    rw [List.getElem?_take_of_lt (by omega)] at e1
    rw [← Array.getElem?_toList, e1]
    simp [ints, List.getD, show i < xs.length by omega]
theorem own_shape {t s n : Nat} {v : Value} {l : List Value} (h : w.ownsRow B t s v n l) : ∃ a c, v = .slice a n c := by
  rcases h.2 with ⟨h1, h2⟩ | ⟨g, cap, cur, hv, _⟩
  · exact ⟨none, 0, by rw [h1, h2]⟩
  · exact ⟨_, _, hv⟩
theorem rd_cells {ao : Option Addr} {n c : Nat} {xs : List Int} (h : RdI w ao n c xs) : ∀ ad, ao = some ad → ∀ j u, (ints xs)[j]? = some u → w.cell? (ad.add j) = some u := by
  intro ad ha
  have h1 := h.len
  rcases h.at_ with h2 | ⟨b, o, e, hc⟩
  · obtain rfl : xs = [] := List.eq_nil_of_length_eq_zero (by omega)
    intro j u hu
    simp [ints] at hu
  · obtain rfl : ad = ⟨b, o, none⟩ := by rw [ha] at e; simpa using e
    intro j u hu
    have hj : j < n := by
      have := (List.getElem?_eq_some_iff.1 hu).1
      rw [ints_len] at this
      omega
    rw [Addr.add_lit, hc j hj]
    have e2 : (ints xs)[j]? = some (.int .i64 (xs.getD j 0)) := by simp [ints, List.getD, show j < xs.length by omega]
    rw [e2] at hu
    exact hu
theorem app_i {w0 : World} {ops : Array Oper} {rest : List Oper} {o : Oper} {a : Act} {Q : Exit → Act → World → Prop} (hgd : o.guard = none) (s x : Operand)
    (ho : o.op = .call { callee := .builtin .append, args := #[s, x], argTypes := #[22, 22] })
    (v : Value) (n : Nat) (xs : List Int) (hs : a.eval s = v) (hown : w.ownsRow w0.heap.size 3 1 v n (ints xs)) (hb : Below w0.heap.size w0 w)
    (ao : Option Addr) (k c : Nat) (ys : List Int) (hx : a.eval x = .slice ao k c) (hr : RdI w ao k c ys) (hn : n + k ≤ 17592186044416)
    (h : ∀ v' w', Hid (w'.ownsRow w0.heap.size 3 1 v' (n + k) (ints (xs ++ ys))) → Hid (Below w0.heap.size w0 w') → wpList Try.prog ops Q rest (a.put o.dst v') w') : wpList Try.prog ops Q (o :: rest) a w := by
  obtain ⟨i0, hi, hz0, hz1, hz2⟩ := int_info
  have hk := hr.len
  cases ao with
  | some ad =>
    refine wpList_append_own w hgd s x 22 ho w0.heap.size 3 i0 (.int .i64 0) 1 8 Try.underlying22 hi hz0 hz1 hz2 (by rfl) (by decide) v n (ints xs) hs hown ad k c (ints ys) hx (by rw [ints_len]; omega) (rd_cells hr ad rfl) (ints_one ys) (by unfold maxLen; omega) (by omega) hb.size ?_
    intro v' w' h2 h3 _
    exact h v' w' (by show World.ownsRow _ _ _ _ _ _ _; simpa [ints] using h2) (hb.grown h3 hb.size (fun q hq => (World.ownsRow.lt hown q hq).1))
  | none =>
    obtain rfl := hr.nil rfl
    obtain rfl : k = 0 := by have := hr.cap; omega
    obtain rfl : ys = [] := List.eq_nil_of_length_eq_zero hk
    exact wpList_append_own_none hgd s x 22 ho w0.heap.size 3 i0 1 Try.underlying22 hi v n (ints xs) hs hown hx (h v w (by show World.ownsRow _ _ _ _ _ _ _; simpa using hown) hb)
theorem blk_one (x : Int) : Rw (W.alloc (.cells #[.int .i64 x] 3)) W.heap.size 3 [x] := heap_alloc_new W _
theorem row_nil (w : World) (B : Nat) : w.ownsRow B 3 1 (.slice none 0 0) 0 (ints []) := ⟨by simp [ints], .inl ⟨rfl, rfl⟩⟩
set_option maxHeartbeats 1000000 in
theorem copied_any {ao : Option Addr} {n c : Nat} {xs : List Int} (hr : RdI w ao n c xs) (hn : n ≤ 17592186044416) : Calls Try.prog 10 #[.slice ao n c] w fun e w' => e = .returned (.slice (some ⟨w.heap.size, 0, none⟩) n n) ∧ Rw w' w.heap.size 3 xs ∧ Below w.heap.size w w' := by
  obtain ⟨i0, hi, hz0, hz1, hz2⟩ := int_info
  have HR : Hid (RdI w ao n c xs) := hr
  have hl := hr.len
  clear hr
  go_enter Try.func10, Try.ntmps10
  go_wp2_with (first
    | (at_make; refine wpList_make_cap _ rfl _ _ 22 rfl 3 i0 (.int .i64 0) Try.underlying22 hi hz0 hz1 rfl 8 hz2 .i64 .i64 _ _ n n rfl rfl rfl rfl (Nat.le_refl _) (by omega) (by omega) ?_; intro W hW hWs hWb; have Hx : Hid (Rw W w.heap.size 3 (List.replicate n 0) ∧ Below w.heap.size w W) := (⟨(by have := hW.out; unfold Rw ints; rw [List.map_replicate]; exact this), hWb⟩); clear hW hWs hWb)
    | fail)
  go_loopw [4] (fun i wr => ∃ k : Nat, k ≤ n ∧ i = .int .i64 k ∧ Rw wr w.heap.size 3 (xs.take k ++ List.replicate (n - k) 0) ∧ Below w.heap.size w wr) (fun i _ => n - (intOf i).toNat)
  case atStart => exact ⟨0, Nat.zero_le _, rfl, by simpa using Hx.out.1, Hx.out.2⟩
  case round =>
    obtain ⟨k, hk, rfl, ho, hb⟩ := hrel
    by_cases hlt : k < n
    · obtain ⟨g, o, hg, hc⟩ := (HR.out.still hb).at hlt
      have i1 : (0 : Int) ≤ (k : Int) := Int.natCast_nonneg _
      have i2 : (k : Int) < (n : Int) := by omega
      have e0 := ho.cell (i := k) (by simp; omega)
      have e1 := ho.fz k
      have Hs : Hid (Rw (wr.setCell ⟨w.heap.size, k, none⟩ (.int .i64 (xs.getD k 0))) w.heap.size 3 (xs.take (k + 1) ++ List.replicate (n - (k + 1)) 0)) := by
        have := ho.set k (xs.getD k 0)
        have e : (xs.take k ++ List.replicate (n - k) 0).set k (xs.getD k 0) = xs.take (k + 1) ++ List.replicate (n - (k + 1)) 0 := by
          rw [List.set_append_right _ _ (by simp; omega), List.take_add_one, List.append_assoc]
          have e2 : xs[k]? = some (xs.getD k 0) := by simp [List.getD, show k < xs.length by omega]
          rw [e2, show n - k = (n - (k + 1)) + 1 by omega, List.replicate_succ]
          simp [show min k xs.length = k by omega]
        rw [e] at this
        exact this
      have HB : Hid (Below w.heap.size w wr) := hb
      rw [hg]
      generalize xs.getD k 0 = x at *
      clear ho hb hg
      go_wp2
      exact ⟨⟨k + 1, by omega, by go_num, Hs.out, bset HB.out (Nat.le_refl _) _ _⟩, by simp [intOf]; omega⟩
    · obtain rfl : k = n := by omega
      rw [List.take_of_length_le (by omega), Nat.sub_self, List.replicate_zero, List.append_nil] at ho
      go_wp2
      go_ret
      exact ⟨rfl, ho, hb⟩
def zi (v : List Nat) : List Int := v.map Int.ofNat
theorem zi_len (v : List Nat) : (zi v).length = v.length := by simp [zi]
theorem nv_zi (v : List Nat) : nv (zi v) = v := by
  unfold nv zi
  rw [List.map_map]
  conv => rhs; rw [← List.map_id v]
  apply List.map_congr_left
  intro x _
  rfl
theorem sm_app (v u : List Nat) : ∀ k, k ≤ v.length → sm (v ++ u) k = sm v k
  | 0, _ => rfl
  | k + 1, h => by
      simp only [sm]
      rw [sm_app v u k (by omega)]
      simp [List.getD, List.getElem?_append_left (show k < v.length by omega)]
theorem T_snoc (v : List Nat) (x : Nat) : T (v ++ [x]) = T v + x := by
  unfold T
  rw [List.length_append]
  show sm (v ++ [x]) v.length + (v ++ [x]).getD v.length 0 = _
  rw [sm_app v [x] v.length (Nat.le_refl _)]
  simp [List.getD]
theorem zi_snoc (v : List Nat) (x : Nat) : zi (v ++ [x]) = zi v ++ [(x : Int)] := by simp [zi]
theorem okI_zi {v : List Nat} (h : Ok v) : okI (zi v) = true := by
  unfold okI
  rw [nv_zi, zi_len, decide_eq_true h.1, decide_eq_true h.2.2]
  simp only [Bool.true_and, Bool.and_true]
  rw [List.all_eq_true]
  intro x hx
  obtain ⟨y, hy, rfl⟩ := List.mem_map.1 hx
  obtain ⟨i, hi, rfl⟩ := List.mem_iff_getElem.1 hy
  have := h.2.1 i
  unfold in9
  rw [decide_eq_true_eq]
  simp [List.getD, hi] at this
  constructor
  · exact Int.natCast_nonneg _
  · show ((v[i] : Nat) : Int) ≤ 9
    omega
theorem le9_snoc {v : List Nat} {x : Nat} (h : ∀ i, v.getD i 0 ≤ 9) (hx : x ≤ 9) : ∀ i, (v ++ [x]).getD i 0 ≤ 9 := fun i => by
  by_cases h1 : i < v.length
  · have := h i
    simp only [List.getD, List.getElem?_append_left h1]
    exact this
  · by_cases h2 : i = v.length
    · subst h2
      simp [List.getD, hx]
    · simp [List.getD, List.getElem?_eq_none (show (v ++ [x]).length ≤ i by simp; omega)]
theorem bl_len (v : List Nat) : (bl v).length = 19 := bk_len _ _ _
theorem newbal (w1 : World) (xs : List Int) (hx : xs.length = 19) : ∃ A1 V, w1.alloc (.cells #[.int .i64 0, .int .i64 0, .int .i64 0, .int .i64 0, .int .i64 0, .int .i64 0, .int .i64 0, .int .i64 0, .int .i64 0, .int .i64 0, .int .i64 0, .int .i64 0, .int .i64 0, .int .i64 0, .int .i64 0, .int .i64 0, .int .i64 0, .int .i64 0, .int .i64 0] 72) = A1 ∧ Hid (A1.there w1.heap.size 0 xs.length) ∧ A1.setCells w1.heap.size 0 (ints xs) = V ∧ Hid (Rw V w1.heap.size 72 xs) ∧ Hid (Below w1.heap.size w1 V) := by
  obtain ⟨A1, hA⟩ : ∃ A1, w1.alloc (.cells #[.int .i64 0, .int .i64 0, .int .i64 0, .int .i64 0, .int .i64 0, .int .i64 0, .int .i64 0, .int .i64 0, .int .i64 0, .int .i64 0, .int .i64 0, .int .i64 0, .int .i64 0, .int .i64 0, .int .i64 0, .int .i64 0, .int .i64 0, .int .i64 0, .int .i64 0] 72) = A1 := ⟨_, rfl⟩
  have k1 : Rw A1 w1.heap.size 72 zs19 := by unfold Rw; rw [← hA]; exact heap_alloc_new w1 _
  refine ⟨A1, _, hA, k1.there 0 _ (by rw [hx]; show 0 + 19 ≤ 19; omega), rfl, Rw.whole k1 (by rw [hx]; rfl), bsets (Nat.le_refl _) _ _ ?_⟩
  rw [← hA]
  exact balloc (Below.refl _ _)
theorem info_bl {xs : List Int} (h : xs.length = 19) : (Try.prog.info? 72).map (·.size) = some xs.length := by rw [h]; exact info_bal
set_option maxHeartbeats 2000000 in
theorem winning_any {ao : Option Addr} {n c : Nat} {xs : List Int} (hr : RdI w ao n c xs) (hok : okI xs = true) : Calls Try.prog 19 #[.slice ao n c] w fun e w' => e = .returned (.tuple #[.int .i64 (cnt (wins (nv xs)) (2 ^ n) : Int), .int .i64 0]) ∧ Below w.heap.size w w' := by
  have ho := okI_ok hok
  have hl : (nv xs).length = n := by rw [nv_len, hr.len]
  have HC := counted_any hr
  rw [hok] at HC
  have HC2 : Hid (Calls Try.prog 33 #[.slice ao n c] w fun e w' => e = .returned (.tuple #[.agg (ints (bl (nv xs))).toArray, .bool true]) ∧ Below w.heap.size w w') := HC.mono fun e w' ⟨r, e1, e2, e3, e4⟩ => ⟨by rw [← e3 rfl]; exact e1, e4⟩
  have HOk : Hid (Ok (nv xs)) := ho
  have h16 : n ≤ 16 := by rw [← hl]; exact ho.1
  have h2n := two_pow_le n h16
  generalize nv xs = v at *
  clear HC hr hok ho
  have HS : Hid (∀ W b, Bal W b v → Calls Try.prog 34 #[.pointer (some ⟨b, 0, none⟩)] W fun e w' => e = .returned (.int .u64 ((2 ^ n : Nat) : Int)) ∧ W = w') := fun W b hB => by rw [← hl]; exact sets_any hB (by omega)
  have HQ : Hid (∀ W b, Bal W b v → ∀ s : Nat, s < 65536 → Calls Try.prog 41 #[.pointer (some ⟨b, 0, none⟩), .int .u64 (s : Int)] W fun e w' => e = .returned (.bool (wins v s)) ∧ W = w') := fun W b hB s hs => quo_any hB HOk.out s hs
  obtain ⟨m, hm⟩ : ∃ m, m = 2 ^ n := ⟨_, rfl⟩
  rw [← hm] at h2n HS ⊢
  clear hm
  go_enter Try.func19, Try.ntmps19
  go_wp2_with (first
    | (go_at_call 33; refine HC2.out.mono ?_; rintro e w1 ⟨rfl, hb1⟩; obtain ⟨A1, V, hA1, HA1, hV, HV, HBV⟩ := newbal w1 (bl v) (bl_len v))
    | (refine store_mid 72 (.tmp 4) (.tmp 11) (xs := bl v) HA1.out (info_bl (bl_len v)) rfl rfl rfl rfl ?_; rw [hV]; have HB : Hid (Bal V w1.heap.size v) := Rw.bal HV.out (by omega); have HBW : Hid (Below w.heap.size w V) := bstep hb1 HBV.out; generalize w1.heap.size = gb at *; clear hV HA1 hA1 hb1 HV HBV)
    | (go_at_call 34; refine (HS.out _ _ HB.out).mono ?_; rintro e w2 ⟨rfl, rfl⟩)
    | fail)
  go_loop [6, 16] (fun x i => ∃ (k t : Nat), k ≤ m ∧ i = .int .u64 (k : Int) ∧ x = .int .i64 (t : Int) ∧ t ≤ 65536 ∧ Hid (t = cnt (wins v) k)) (fun _ i => m - (intOf i).toNat)
  case atStart => exact ⟨0, 0, Nat.zero_le _, rfl, rfl, by decide, rfl⟩
  case round =>
    obtain ⟨k, t, hk, rfl, rfl, ht, HT⟩ := hrel
    by_cases hlt : k < m
    · have hn1 := cnt_le (wins v) (k + 1)
      have HQ1 := HQ.out _ _ HB.out k (by omega)
      cases hw : wins v k with
      | true =>
        rw [hw] at HQ1
        have HQ2 : Hid (Calls Try.prog 41 #[.pointer (some ⟨gb, 0, none⟩), .int .u64 (k : Int)] V fun e w' => e = .returned (.bool true) ∧ V = w') := HQ1
        have HS2 : Hid (t + 1 = cnt (wins v) (k + 1)) := (show _ = _ from by rw [HT.out]; simp [cnt, hw])
        have hle : t + 1 ≤ 65536 := by rw [HS2.out]; omega
        clear HQ1 hw hn1
        go_wp2_with (first
          | (go_at_call 41; refine HQ2.out.mono ?_; rintro e w2 ⟨rfl, rfl⟩)
          | fail)
        go_round
        case rel => exact ⟨k + 1, t + 1, by omega, by go_num, by go_num, hle, HS2⟩
        case measure => simp [intOf]; omega
      | false =>
        rw [hw] at HQ1
        have HQ2 : Hid (Calls Try.prog 41 #[.pointer (some ⟨gb, 0, none⟩), .int .u64 (k : Int)] V fun e w' => e = .returned (.bool false) ∧ V = w') := HQ1
        have HS2 : Hid (t = cnt (wins v) (k + 1)) := (show _ = _ from by rw [HT.out]; simp [cnt, hw])
        clear HQ1 hw hn1
        go_wp2_with (first
          | (go_at_call 41; refine HQ2.out.mono ?_; rintro e w2 ⟨rfl, rfl⟩)
          | fail)
        go_round
        case rel => exact ⟨k + 1, t, by omega, by go_num, rfl, ht, HS2⟩
        case measure => simp [intOf]; omega
    · obtain rfl : k = m := by omega
      have HF : Hid ((t : Int) = (cnt (wins v) k : Int)) := (show _ = _ from by rw [HT.out])
      go_wp2
      (try simp only [Exit.inBlock, Exit.then])
      refine bodyPost_ret (results_tmp2 rfl _ _ _) rfl ?_
      refine ⟨?_, HBW.out⟩
      rw [← HF.out]
      rfl
def rm (x : Int) : Nat := (x.tmod 10).natAbs
theorem rm_le (x : Int) : rm x ≤ 9 := by
  unfold rm
  rw [Int.natAbs_tmod]
  show x.natAbs % 10 ≤ 9
  omega
theorem Rw.own {g : Nat} {xs : List Int} (h : Rw w g 3 xs) {n : Nat} (hn : xs.length = n) (hB : B ≤ g) (hm : n ≤ 1000000000 := by omega) : w.ownsRow B 3 1 (.slice (some ⟨g, 0, none⟩) n n) n (ints xs) :=
  ⟨by rw [ints_len]; omega, .inr ⟨g, n, _, rfl, hB, h, Nat.le_refl _, by unfold maxLen; omega, by simp [ints]; omega, by rw [List.toList_toArray, List.take_of_length_le (by rw [ints_len]; omega)]⟩⟩
theorem T_cons (v : List Nat) : 0 < T (1 :: v) := by
  have h := sm_mono (1 :: v) 1 v.length
  have e : sm (1 :: v) 1 = 1 := rfl
  unfold T
  rw [List.length_cons, Nat.add_comm]
  omega
theorem fit_ok {v : List Nat} {k : Nat} (hl : v.length = k) (h9 : ∀ i, v.getD i 0 ≤ 9) (hk : k < 16) : Ok (1 :: v) := by
  refine ⟨by rw [List.length_cons]; omega, fun i => ?_, T_cons v⟩
  cases i with
  | zero => simp [List.getD]
  | succ i => simpa [List.getD] using h9 i
theorem RdI.take {a : Option Addr} {n c : Nat} {xs : List Int} (h : RdI w a n c xs) {m : Nat} (hm : m ≤ n) : RdI w a m c (xs.take m) := by
  refine ⟨by rw [List.length_take, h.len]; omega, by have := h.cap; omega, h.nil, ?_⟩
  by_cases h0 : m = 0
  · exact .inl h0
  · rcases h.at_ with h1 | ⟨b, off, e, hc⟩
    · omega
    · refine .inr ⟨b, off, e, fun i hi => ?_⟩
      rw [hc i (by omega)]
      simp [List.getD, List.getElem?_take_of_lt hi]
theorem fit16 {a : Option Addr} {c : Nat} {v : List Nat} (hl : v.length = 16) (h : w.ownsRow B 3 1 (.slice a (1 + 16) c) (1 + 16) (ints ([1] ++ zi v))) : RdI w a 16 c (zi ((1 :: v).take 16)) := by
  have := (own_rd h).take (m := 16) (by omega)
  have e : zi ((1 :: v).take 16) = ([1] ++ zi v).take 16 := by
    show ((1 :: v).take 16).map Int.ofNat = _
    rw [List.map_take]
    rfl
  rw [e]
  exact this
theorem fit_ok16 {v : List Nat} (hl : v.length = 16) (h9 : ∀ i, v.getD i 0 ≤ 9) : Ok ((1 :: v).take 16) := by
  have e : (1 :: v).take 16 = 1 :: v.take 15 := rfl
  rw [e]
  refine fit_ok (k := 15) (by rw [List.length_take]; omega) (fun i => ?_) (by omega)
  by_cases hi : i < 15
  · have := h9 i
    simpa [List.getD, List.getElem?_take_of_lt hi] using this
  · simp [List.getD, List.getElem?_eq_none (show (v.take 15).length ≤ i by rw [List.length_take]; omega)]
set_option maxHeartbeats 4000000 in
theorem fit_any {ao : Option Addr} {n c : Nat} {xs : List Int} (hr : RdI w ao n c xs) : Calls Try.prog 7 #[.slice ao n c] w fun e w' => ∃ a m d v, e = .returned (.slice a m d) ∧ RdI w' a m d (zi v) ∧ Ok v ∧ v.length = m ∧ Below w.heap.size w w' := by
  have HR : Hid (RdI w ao n c xs) := hr
  clear hr
  have hl := HR.out.len
  go_enter Try.func7, Try.ntmps7
  go_wp2
  go_loopw [3, 4, 5] (fun a s i wr => ∃ (k t : Nat) (v : List Nat), k ≤ n ∧ k ≤ 16 ∧ i = .int .i64 (k : Int) ∧ s = .int .i64 (t : Int) ∧ t ≤ 9 * k ∧ Hid (v.length = k ∧ (∀ i, v.getD i 0 ≤ 9) ∧ t = T v ∧ wr.ownsRow w.heap.size 3 1 a k (ints (zi v)) ∧ Below w.heap.size w wr)) (fun _ _ i _ => n - (intOf i).toNat)
  case atStart => exact ⟨0, 0, [], Nat.zero_le _, by omega, rfl, rfl, by decide, rfl, by simp, rfl, row_nil _ _, Below.refl _ _⟩
  case round =>
    obtain ⟨k, t, v, hk, hk16, rfl, rfl, ht, HI⟩ := hrel
    by_cases hlt : k < n
    · by_cases h16 : k < 16
      · obtain ⟨g, o, hg, hc⟩ := (HR.out.still HI.out.2.2.2.2).at hlt
        have i1 : (0 : Int) ≤ (k : Int) := Int.natCast_nonneg _
        have i2 : (k : Int) < (n : Int) := by omega
        have i3 : (k : Int) < 16 := by omega
        rw [hg]
        generalize xs.getD k 0 = x at *
        have h9y := rm_le x
        clear hg
        by_cases hs : x.tmod 10 < 0
        · skip
          have hy : ((rm x : Nat) : Int) = wrap64 (-x.tmod 10) := by
            have h9 := rm_le x
            unfold rm at h9 ⊢
            try unfold wrap64
            omega
          generalize rm x = y at *
          obtain ⟨z, hz⟩ : ∃ z, z = wrap64 (-x.tmod 10) := ⟨_, rfl⟩
          have HY : Hid ((y : Int) = z ∧ z = wrap64 (-x.tmod 10)) := ⟨by rw [hz]; exact hy, hz⟩
          clear hy hz
          go_wp2_with (first
            | (at_builtin; rw [← HY.out.2]; refine app_i (w0 := w) rfl _ _ rfl _ k (zi v) rfl (HI.out.2.2.2.1.alloc _) (balloc HI.out.2.2.2.2) _ 1 1 [z] rfl (Rw.rd (blk_one z) rfl (Nat.le_refl _)) (by omega) ?_; intro a2 w2 HO2 HB2; rw [HY.out.2])
            | fail)
          refine ⟨⟨k + 1, t + y, v ++ [y], by omega, by omega, by go_num, ?_, by omega, ?_⟩, by simp [intOf]; omega⟩
          · congr 1
            rw [← HY.out.2, ← HY.out.1]
            try unfold wrap64
            omega
          · exact ⟨by simp [HI.out.1], le9_snoc HI.out.2.1 h9y, by rw [T_snoc, ← HI.out.2.2.1], by rw [zi_snoc, HY.out.1]; exact HO2.out, HB2.out⟩
        · skip
          have hy : ((rm x : Nat) : Int) = x.tmod 10 := by
            have h9 := rm_le x
            unfold rm at h9 ⊢
            try unfold wrap64
            omega
          generalize rm x = y at *
          obtain ⟨z, hz⟩ : ∃ z, z = x.tmod 10 := ⟨_, rfl⟩
          have HY : Hid ((y : Int) = z ∧ z = x.tmod 10) := ⟨by rw [hz]; exact hy, hz⟩
          clear hy hz
          go_wp2_with (first
            | (at_builtin; rw [← HY.out.2]; refine app_i (w0 := w) rfl _ _ rfl _ k (zi v) rfl (HI.out.2.2.2.1.alloc _) (balloc HI.out.2.2.2.2) _ 1 1 [z] rfl (Rw.rd (blk_one z) rfl (Nat.le_refl _)) (by omega) ?_; intro a2 w2 HO2 HB2; rw [HY.out.2])
            | fail)
          refine ⟨⟨k + 1, t + y, v ++ [y], by omega, by omega, by go_num, ?_, by omega, ?_⟩, by simp [intOf]; omega⟩
          · congr 1
            rw [← HY.out.2, ← HY.out.1]
            try unfold wrap64
            omega
          · exact ⟨by simp [HI.out.1], le9_snoc HI.out.2.1 h9y, by rw [T_snoc, ← HI.out.2.2.1], by rw [zi_snoc, HY.out.1]; exact HO2.out, HB2.out⟩
      · obtain rfl : k = 16 := by omega
        have i2 : ((16 : Nat) : Int) < (n : Int) := by omega
        obtain ⟨a1, c1, rfl⟩ := own_shape HI.out.2.2.2.1
        by_cases ht0 : t = 0
        · subst ht0
          go_wp2_with (first
            | (at_builtin; refine app_i (w0 := w) rfl _ _ rfl _ 1 [1] rfl (Rw.own (blk_one 1) rfl HI.out.2.2.2.2.size) (balloc HI.out.2.2.2.2) _ 16 c1 (zi v) rfl ((own_rd HI.out.2.2.2.1).still (balloc (Below.refl _ _))) (by omega) ?_; intro a2 w2 HO2 HB2; obtain ⟨a3, c3, rfl⟩ := own_shape HO2.out; have hc3 : 17 ≤ c3 := (own_rd HO2.out).cap)
            | fail)
          go_ret
          exact ⟨a3, 16, c3, (1 :: v).take 16, rfl, fit16 HI.out.1 HO2.out, fit_ok16 HI.out.1 HI.out.2.1, by rw [List.length_take, List.length_cons, HI.out.1]; rfl, HB2.out⟩
        · have ht0b : ((t : Int) == 0) = false := by rw [beq_eq_false_iff_ne]; omega
          go_wp2
          go_ret
          exact ⟨a1, _, c1, v, rfl, own_rd HI.out.2.2.2.1, ⟨by rw [HI.out.1]; omega, HI.out.2.1, by rw [← HI.out.2.2.1]; omega⟩, HI.out.1, HI.out.2.2.2.2⟩
    · obtain rfl : k = n := by omega
      obtain ⟨a1, c1, rfl⟩ := own_shape HI.out.2.2.2.1
      by_cases ht0 : t = 0
      · subst ht0
        by_cases hk2 : k = 16
        · subst hk2
          go_wp2_with (first
            | (at_builtin; refine app_i (w0 := w) rfl _ _ rfl _ 1 [1] rfl (Rw.own (blk_one 1) rfl HI.out.2.2.2.2.size) (balloc HI.out.2.2.2.2) _ 16 c1 (zi v) rfl ((own_rd HI.out.2.2.2.1).still (balloc (Below.refl _ _))) (by omega) ?_; intro a2 w2 HO2 HB2; obtain ⟨a3, c3, rfl⟩ := own_shape HO2.out; have hc3 : 17 ≤ c3 := (own_rd HO2.out).cap)
            | fail)
          go_ret
          exact ⟨a3, 16, c3, (1 :: v).take 16, rfl, fit16 HI.out.1 HO2.out, fit_ok16 HI.out.1 HI.out.2.1, by rw [List.length_take, List.length_cons, HI.out.1]; rfl, HB2.out⟩
        · go_wp2_with (first
            | (at_builtin; refine app_i (w0 := w) rfl _ _ rfl _ 1 [1] rfl (Rw.own (blk_one 1) rfl HI.out.2.2.2.2.size) (balloc HI.out.2.2.2.2) _ k c1 (zi v) rfl ((own_rd HI.out.2.2.2.1).still (balloc (Below.refl _ _))) (by omega) ?_; intro a2 w2 HO2 HB2; obtain ⟨a3, c3, rfl⟩ := own_shape HO2.out)
            | fail)
          go_ret
          exact ⟨a3, 1 + k, c3, 1 :: v, rfl, own_rd HO2.out, fit_ok HI.out.1 HI.out.2.1 (by omega), by rw [List.length_cons, HI.out.1]; omega, HB2.out⟩
      · have ht0b : ((t : Int) == 0) = false := by rw [beq_eq_false_iff_ne]; omega
        go_wp2
        go_ret
        exact ⟨a1, _, c1, v, rfl, own_rd HI.out.2.2.2.1, ⟨by rw [HI.out.1]; omega, HI.out.2.1, by rw [← HI.out.2.2.1]; omega⟩, HI.out.1, HI.out.2.2.2.2⟩
end
end Go.Proofs.Ytapenemfnngniaa.Qm
