import Derived.Test.YtfbollifegngjaaVc
namespace Go.Proofs.Ytfbollifegngjaa.Dt
open Go.RowKit
set_option linter.unusedVariables false
set_option maxRecDepth 100000
set_option linter.unusedSimpArgs false
theorem wpList_make_cap {P : Program} (w : World) {ops : Array Oper} {rest : List Oper} {o : Oper} {a : Act} {Q : Exit → Act → World → Prop}
    (hg : o.guard = none) (l c : Operand) (t : TypeId) (hop : o.op = Op.makeSlice t l c)
    (e : TypeId) (i : TypeInfo) (z : Value) (h1 : P.underlying t = some (.slice e)) (h2 : P.info? e = some i) (h3 : i.zero = some z) (h4 : i.size = 1) (h5 : z.cells = #[z]) (bytes : Nat) (h6 : i.bytes = bytes)
    (kl kc : IntKind) (L C : Int) (n m : Nat) (hl : a.eval l = .int kl L) (hc : a.eval c = .int kc C) (hL : L = (n : Int)) (hC : C = (m : Int)) (hnm : n ≤ m) (b2 : bytes * m ≤ 281474976710656) (b3 : m ≤ 9223372036854775807)
    (hK : ∀ w', Hid (w'.heap[w.heap.size]? = some (.cells (List.replicate m z).toArray e (0, 0))) → w'.heap.size = w.heap.size + 1 → Below w.heap.size w w' → wpList P ops Q rest (a.put o.dst (.slice (some ⟨w.heap.size, 0, none⟩) n m)) w') :
    wpList P ops Q (o :: rest) a w := by
  refine wpList_plain hg fun K hK' => ?_
  subst h6
  have hrun := run_make (P := P) w t e i z h1 h2 h3 kl kc L C (by omega) (by omega) (by rw [hC, show (i.bytes : Int) * (m : Int) = ((i.bytes * m : Nat) : Int) from by push_cast; rfl]; omega) (by omega)
  have hm : madeCells z.cells (C.toNat * i.size) = (List.replicate m z).toArray := by
    rw [h5, h4, hC]
    simp only [Int.toNat_natCast, Nat.mul_one]
    rw [← toList_madeCells_one, Array.toArray_toList]
  rw [hm] at hrun
  have hLn : L.toNat = n := by omega
  have hCn : C.toNat = m := by omega
  rw [hLn, hCn] at hrun
  unfold Oper.wp
  simp [execOp, hop, hl, hc, hrun, Result.andThen]
  exact hK' _ _ (hK _ (heap_alloc_new w _) (by simp) ((Below.refl _ _).alloc (Nat.le_refl _) _))
theorem info_i : (Try.prog.info? 3).map (fun i => (i.zero, i.size, i.bytes)) = some (some (.int .i64 0), 1, 8) := by kernel_rfl
def ints (xs : List Int) : List Value := xs.map (Value.int .i64)
theorem ints_len (xs : List Int) : (ints xs).length = xs.length := by simp [ints]
theorem ints_one (xs : List Int) : ∀ u ∈ ints xs, u.oneCell' = true := by
  intro u hu
  obtain ⟨_, _, rfl⟩ := List.mem_map.1 hu
  rfl
section
variable {D D' : De} {w w' W : World} {B m : Nat}
def BlkI (w : World) (g : Nat) (xs : List Int) : Prop := w.heap[g]? = some (.cells (ints xs).toArray 3 (0, 0))
theorem BlkI.cell {g : Nat} {xs : List Int} (h : BlkI w g xs) {i : Nat} (hi : i < xs.length) : w.cell? ⟨g, i, none⟩ = some (.int .i64 (xs.getD i 0)) := by
  rw [blk_cell h i]
  simp [ints, List.getD, hi]
theorem BlkI.fz {g : Nat} {xs : List Int} (h : BlkI w g xs) (i : Nat) : w.frozen? ⟨g, i, none⟩ = false := frozen_of_row w _ i _ _ h
theorem BlkI.set {g : Nat} {xs : List Int} (h : BlkI w g xs) (i : Nat) (x : Int) : BlkI (w.setCell ⟨g, i, none⟩ (.int .i64 x)) g (xs.set i x) := by
  refine blk_set h ?_
  simp [ints, List.map_set]
theorem BlkI.still {g : Nat} {xs : List Int} (h : BlkI w g xs) (hb : Below w.heap.size w w') : BlkI w' g xs := (hb.block _ (lt_heap h)).trans h
theorem BlkI.lt {g : Nat} {xs : List Int} (h : BlkI w g xs) : g < w.heap.size := lt_heap h
theorem BlkI.own {g n : Nat} {xs : List Int} (h : BlkI w g xs) (hg : B ≤ g) (hn : xs.length = n) (hm : n ≤ maxLen) : w.ownsRow B 3 1 (.slice (some ⟨g, 0, none⟩) n n) n (ints xs) := by
  refine ⟨by rw [ints_len, Nat.mul_one]; exact hn, .inr ⟨g, n, _, rfl, hg, h, Nat.le_refl _, hm, by simp [ints, hn], by rw [List.take_of_length_le (by simp [ints, ← hn])]⟩⟩
def Pe.pair (p : Pe) : Bool := p.heard && p.both
def Pe.hrd (p : Pe) : Bool := p.heard
def De.lstK (D : De) (own : Int) (f : Pe → Bool) (k : Nat) : List Int := (List.range D.n).map fun q => if q = D.self then own else if q < k ∧ f (D.pe q) = true then (D.pe q).known else 0
def De.lst (D : De) (own : Int) (f : Pe → Bool) : List Int := (List.range D.n).map fun q => if q = D.self then own else if f (D.pe q) then (D.pe q).known else 0
theorem lstK_len (D : De) (own : Int) (f : Pe → Bool) (k : Nat) : (D.lstK own f k).length = D.n := by simp [De.lstK]
theorem lst_len (D : De) (own : Int) (f : Pe → Bool) : (D.lst own f).length = D.n := by simp [De.lst]
theorem lstK_all (D : De) (own : Int) (f : Pe → Bool) : D.lstK own f D.n = D.lst own f := by
  unfold De.lstK De.lst
  apply List.map_congr_left
  intro q hq
  have := List.mem_range.1 hq
  simp [this]
theorem lstK_zero (D : De) (own : Int) (f : Pe → Bool) : (List.replicate D.n (0 : Int)).set D.self own = D.lstK own f 0 := by
  apply List.ext_getElem?
  intro i
  simp only [De.lstK, List.getElem?_set, List.length_replicate, List.getElem?_replicate, List.getElem?_map, List.getElem?_range]
  by_cases h : D.self = i
  · subst h
    by_cases h2 : D.self < D.n <;> simp [h2]
  · by_cases h2 : i < D.n <;> simp [h, h2, Ne.symm h]
theorem lstK_skip (D : De) (own : Int) (f : Pe → Bool) (k : Nat) (h : k = D.self ∨ f (D.pe k) = false) : D.lstK own f (k + 1) = D.lstK own f k := by
  unfold De.lstK
  apply List.map_congr_left
  intro q hq
  by_cases e : q = k
  · subst e
    rcases h with h | h
    · simp [h]
    · simp [h]
  · have : q < k + 1 ↔ q < k := by omega
    simp [this]
theorem lstK_step (D : De) (own : Int) (f : Pe → Bool) (k : Nat) (hk : k < D.n) (h : k ≠ D.self) (hf : f (D.pe k) = true) : (D.lstK own f k).set k (D.pe k).known = D.lstK own f (k + 1) := by
  apply List.ext_getElem?
  intro i
  simp only [De.lstK, List.getElem?_set, List.length_map, List.length_range, List.getElem?_map]
  by_cases e : k = i
  · subst e
    simp [hk, h, hf]
  · by_cases h2 : i < D.n
    · have : i < k + 1 ↔ i < k := by omega
      simp [e, h2, this]
    · simp [e, h2]

set_option maxHeartbeats 1000000 in
theorem inc_hears (h : D.Ok w B m) (own : Int) : Calls Try.prog 27 #[.pointer (some ⟨D.b, 0, none⟩), .int .i64 own, .func (.func 41) #[] #[]] w fun e w' => ∃ g, e = .returned (.slice (some ⟨g, 0, none⟩) D.n D.n) ∧ w.heap.size ≤ g ∧ BlkI w' g (D.lst own Pe.hrd) ∧ Below w.heap.size w w' := by
  obtain ⟨i0, hi, hz0, hz1, hz2⟩ := info_parts info_i
  have h16 := h.n16
  have c4 := h.c4
  have Hh : Hid (D.Ok w B m) := h
  clear h
  go_enter Try.func27, Try.ntmps27
  go_wp2_with (first
    | (at_make; refine wpList_make_cap _ rfl _ _ 25 rfl 3 i0 (.int .i64 0) Try.underlying25 hi hz0 hz1 rfl 8 hz2 .i64 .i64 _ _ D.n D.n rfl rfl rfl rfl (Nat.le_refl _) (by omega) (by omega) ?_; intro W hW hWs hWb; have d0 := (Hh.out.still hWb).c0; have d4 := (Hh.out.still hWb).c4; have hB : BlkI W w.heap.size (List.replicate D.n 0) := (by have := hW.out; unfold BlkI ints; rw [List.map_replicate]; exact this); have e0 := hB.cell (i := D.self) (by simp; omega); have e1 := hB.fz D.self; have hB2 := hB.set D.self own; rw [lstK_zero D own Pe.hrd] at hB2; have Hx : Hid (BlkI (W.setCell ⟨w.heap.size, D.self, none⟩ (.int .i64 own)) w.heap.size (D.lstK own Pe.hrd 0) ∧ Below w.heap.size w (W.setCell ⟨w.heap.size, D.self, none⟩ (.int .i64 own))) := ⟨hB2, bset hWb (Nat.le_refl _) _ _⟩; have d4' : (W.setCell ⟨w.heap.size, D.self, none⟩ (.int .i64 own)).cell? ⟨D.b, 4, none⟩ = some (.slice (some ⟨D.br, 0, none⟩) D.n D.n) := ((Hh.out.still (bset hWb (Nat.le_refl _) D.self (.int .i64 own))).c4); generalize hV : W.setCell ⟨w.heap.size, D.self, none⟩ (.int .i64 own) = V at *; clear hW hB hB2 d4)
    | fail)
  go_loopw [28] (fun i wr => ∃ k : Nat, k ≤ D.n ∧ i = .int .i64 k ∧ BlkI wr w.heap.size (D.lstK own Pe.hrd k) ∧ Below w.heap.size w wr) (fun i _ => D.n - (intOf i).toNat)
  case atStart => exact ⟨0, Nat.zero_le _, rfl, Hx.out.1, Hx.out.2⟩
  case round =>
    obtain ⟨k, hk, rfl, ho, hb⟩ := hrel
    have hR := Hh.out.still hb
    by_cases hlt : k < D.n
    · have c0 : wr.cell? ⟨D.br, k, none⟩ = some (optr D k) := hR.cr (q := k) hlt
      have i1 : (0 : Int) ≤ (k : Int) := Int.natCast_nonneg _
      have i2 : (k : Int) < (D.n : Int) := by omega
      have HO : Hid (BlkI wr w.heap.size (D.lstK own Pe.hrd k)) := ho
      have HB : Hid (Below w.heap.size w wr) := hb
      by_cases hsf : k = D.self
      · have c0' : wr.cell? ⟨D.br, k, none⟩ = some (.pointer none) := by rw [c0]; simp [optr, hsf]
        have Hsf : Hid (k = D.self) := hsf
        clear c0 hsf ho hb hR
        go_wp2
        exact ⟨⟨k + 1, by omega, by go_num, by rw [lstK_skip D own _ k (.inl Hsf.out)]; exact HO.out, HB.out⟩, by simp [intOf]; omega⟩
      · have hq : D.is k := ⟨hlt, hsf⟩
        have c0' : wr.cell? ⟨D.br, k, none⟩ = some (.pointer (some ⟨D.bo k, 0, none⟩)) := by rw [c0]; simp [optr, hsf]
        obtain ⟨_, o1, _, _, _, o5, o6⟩ := hR.co hq
        have e0 := ho.cell (i := k) (by rw [lstK_len]; exact hlt)
        have e1 := ho.fz k
        have Hsf : Hid (k ≠ D.self) := hsf
        cases hh : (D.pe k).heard <;> cases hm : (D.pe k).both
        all_goals
          rw [hh] at o5
          rw [hm] at o6
          first
            | (have hf : Pe.hrd (D.pe k) = false := by simp [Pe.hrd, hh, hm]
               have Hf : Hid (D.lstK own Pe.hrd (k + 1) = D.lstK own Pe.hrd k) := lstK_skip D own _ k (.inr hf)
               clear c0 hsf ho hb hR hq hf hh hm
               go_wp2_with (first | go_in | fail)
               all_goals (exact ⟨⟨k + 1, by omega, by go_num, by rw [Hf.out]; exact HO.out, HB.out⟩, by simp [intOf]; omega⟩))
            | (have hf : Pe.hrd (D.pe k) = true := by simp [Pe.hrd, hh, hm]
               have Hf : Hid ((D.lstK own Pe.hrd k).set k (D.pe k).known = D.lstK own Pe.hrd (k + 1)) := lstK_step D own _ k hlt hsf hf
               clear c0 hsf ho hb hR hq hf hh hm
               go_wp2_with (first | go_in | fail)
               all_goals (exact ⟨⟨k + 1, by omega, by go_num, by rw [← Hf.out]; exact HO.out.set k _, bset HB.out (Nat.le_refl _) _ _⟩, by simp [intOf]; omega⟩))
    · obtain rfl : k = D.n := by omega
      clear hR
      go_wp2
      go_ret
      exact ⟨w.heap.size, rfl, Nat.le_refl _, by rw [lstK_all] at ho; exact ho, hb⟩

set_option maxHeartbeats 1000000 in
theorem inc_est (h : D.Ok w B m) (own : Int) : Calls Try.prog 27 #[.pointer (some ⟨D.b, 0, none⟩), .int .i64 own, .func (.func 28) #[] #[]] w fun e w' => ∃ g, e = .returned (.slice (some ⟨g, 0, none⟩) D.n D.n) ∧ w.heap.size ≤ g ∧ BlkI w' g (D.lst own Pe.pair) ∧ Below w.heap.size w w' := by
  obtain ⟨i0, hi, hz0, hz1, hz2⟩ := info_parts info_i
  have h16 := h.n16
  have c4 := h.c4
  have Hh : Hid (D.Ok w B m) := h
  clear h
  go_enter Try.func27, Try.ntmps27
  go_wp2_with (first
    | (at_make; refine wpList_make_cap _ rfl _ _ 25 rfl 3 i0 (.int .i64 0) Try.underlying25 hi hz0 hz1 rfl 8 hz2 .i64 .i64 _ _ D.n D.n rfl rfl rfl rfl (Nat.le_refl _) (by omega) (by omega) ?_; intro W hW hWs hWb; have d0 := (Hh.out.still hWb).c0; have d4 := (Hh.out.still hWb).c4; have hB : BlkI W w.heap.size (List.replicate D.n 0) := (by have := hW.out; unfold BlkI ints; rw [List.map_replicate]; exact this); have e0 := hB.cell (i := D.self) (by simp; omega); have e1 := hB.fz D.self; have hB2 := hB.set D.self own; rw [lstK_zero D own Pe.pair] at hB2; have Hx : Hid (BlkI (W.setCell ⟨w.heap.size, D.self, none⟩ (.int .i64 own)) w.heap.size (D.lstK own Pe.pair 0) ∧ Below w.heap.size w (W.setCell ⟨w.heap.size, D.self, none⟩ (.int .i64 own))) := ⟨hB2, bset hWb (Nat.le_refl _) _ _⟩; have d4' : (W.setCell ⟨w.heap.size, D.self, none⟩ (.int .i64 own)).cell? ⟨D.b, 4, none⟩ = some (.slice (some ⟨D.br, 0, none⟩) D.n D.n) := ((Hh.out.still (bset hWb (Nat.le_refl _) D.self (.int .i64 own))).c4); generalize hV : W.setCell ⟨w.heap.size, D.self, none⟩ (.int .i64 own) = V at *; clear hW hB hB2 d4)
    | fail)
  go_loopw [28] (fun i wr => ∃ k : Nat, k ≤ D.n ∧ i = .int .i64 k ∧ BlkI wr w.heap.size (D.lstK own Pe.pair k) ∧ Below w.heap.size w wr) (fun i _ => D.n - (intOf i).toNat)
  case atStart => exact ⟨0, Nat.zero_le _, rfl, Hx.out.1, Hx.out.2⟩
  case round =>
    obtain ⟨k, hk, rfl, ho, hb⟩ := hrel
    have hR := Hh.out.still hb
    by_cases hlt : k < D.n
    · have c0 : wr.cell? ⟨D.br, k, none⟩ = some (optr D k) := hR.cr (q := k) hlt
      have i1 : (0 : Int) ≤ (k : Int) := Int.natCast_nonneg _
      have i2 : (k : Int) < (D.n : Int) := by omega
      have HO : Hid (BlkI wr w.heap.size (D.lstK own Pe.pair k)) := ho
      have HB : Hid (Below w.heap.size w wr) := hb
      by_cases hsf : k = D.self
      · have c0' : wr.cell? ⟨D.br, k, none⟩ = some (.pointer none) := by rw [c0]; simp [optr, hsf]
        have Hsf : Hid (k = D.self) := hsf
        clear c0 hsf ho hb hR
        go_wp2
        exact ⟨⟨k + 1, by omega, by go_num, by rw [lstK_skip D own _ k (.inl Hsf.out)]; exact HO.out, HB.out⟩, by simp [intOf]; omega⟩
      · have hq : D.is k := ⟨hlt, hsf⟩
        have c0' : wr.cell? ⟨D.br, k, none⟩ = some (.pointer (some ⟨D.bo k, 0, none⟩)) := by rw [c0]; simp [optr, hsf]
        obtain ⟨_, o1, _, _, _, o5, o6⟩ := hR.co hq
        have e0 := ho.cell (i := k) (by rw [lstK_len]; exact hlt)
        have e1 := ho.fz k
        have Hsf : Hid (k ≠ D.self) := hsf
        cases hh : (D.pe k).heard <;> cases hm : (D.pe k).both
        all_goals
          rw [hh] at o5
          rw [hm] at o6
          first
            | (have hf : Pe.pair (D.pe k) = false := by simp [Pe.pair, hh, hm]
               have Hf : Hid (D.lstK own Pe.pair (k + 1) = D.lstK own Pe.pair k) := lstK_skip D own _ k (.inr hf)
               clear c0 hsf ho hb hR hq hf hh hm
               go_wp2_with (first | go_in | fail)
               all_goals (exact ⟨⟨k + 1, by omega, by go_num, by rw [Hf.out]; exact HO.out, HB.out⟩, by simp [intOf]; omega⟩))
            | (have hf : Pe.pair (D.pe k) = true := by simp [Pe.pair, hh, hm]
               have Hf : Hid ((D.lstK own Pe.pair k).set k (D.pe k).known = D.lstK own Pe.pair (k + 1)) := lstK_step D own _ k hlt hsf hf
               clear c0 hsf ho hb hR hq hf hh hm
               go_wp2_with (first | go_in | fail)
               all_goals (exact ⟨⟨k + 1, by omega, by go_num, by rw [← Hf.out]; exact HO.out.set k _, bset HB.out (Nat.le_refl _) _ _⟩, by simp [intOf]; omega⟩))
    · obtain rfl : k = D.n := by omega
      clear hR
      go_wp2
      go_ret
      exact ⟨w.heap.size, rfl, Nat.le_refl _, by rw [lstK_all] at ho; exact ho, hb⟩

def De.hears (D : De) : List Int := D.lst (if D.left then 0 else D.inc) Pe.hrd
def De.ests (D : De) : List Int := D.lst D.inc Pe.pair
def IsI (w w' : World) (n : Nat) (xs : List Int) (v : Value) : Prop := ∃ g, v = .slice (some ⟨g, 0, none⟩) n n ∧ w.heap.size ≤ g ∧ BlkI w' g xs ∧ Below w.heap.size w w'
set_option maxHeartbeats 400000 in
theorem hears_any (h : D.Ok w B m) : Calls Try.prog 23 #[.pointer (some ⟨D.b, 0, none⟩)] w fun e w' => ∃ v, e = .returned v ∧ IsI w w' D.n D.hears v := by
  have c1 := h.c1
  have c3 := h.c3
  have HI := inc_hears h (if D.left then 0 else D.inc)
  unfold De.hears
  clear h
  cases hl : D.left
  all_goals
    rw [hl] at HI c3
    simp only [if_true, if_false, Bool.false_eq_true] at HI ⊢
    go_enter Try.func23, Try.ntmps23
    go_wp2_with (first | (go_at_call 27; refine HI.mono ?_; rintro e w' ⟨g, rfl, h1, h2, h3⟩) | fail)
    go_ret
    exact ⟨_, rfl, g, rfl, h1, h2, h3⟩
set_option maxHeartbeats 400000 in
theorem est_any (h : D.Ok w B m) : Calls Try.prog 13 #[.pointer (some ⟨D.b, 0, none⟩)] w fun e w' => ∃ v, e = .returned v ∧ IsI w w' D.n D.ests v := by
  have c1 := h.c1
  have HI := inc_est h D.inc
  unfold De.ests
  clear h
  go_enter Try.func13, Try.ntmps13
  go_wp2_with (first | (go_at_call 27; refine HI.mono ?_; rintro e w' ⟨g, rfl, h1, h2, h3⟩) | fail)
  go_ret
  exact ⟨_, rfl, g, rfl, h1, h2, h3⟩
end
end Go.Proofs.Ytfbollifegngjaa.Dt
