import Derived.Test.YtjnbkkmagceggaaWk
import Derived.Laws.AppendOwnNone
namespace Go.Proofs.Ytjnbkkmagceggaa.Dt
open Go.RowKit
set_option linter.unusedVariables false
set_option maxRecDepth 100000
set_option linter.unusedSimpArgs false
section
variable {D D' : De} {w w' W V : World} {B m : Nat}
theorem own_none {t e n c : Nat} {xs : List Value} (h : w.ownsRow B t e (.slice none n c) n xs) : n = 0 ∧ c = 0 := by
  rcases h.2 with ⟨h1, h2⟩ | ⟨g, cap, cur, hv, _⟩
  · simp at h1; exact ⟨h2, h1.2⟩
  · simp at hv
theorem rd_cells {ao : Option Addr} {n : Nat} {xs : List Int} (h : RdI w ao n xs) : ∀ ad, ao = some ad → ∀ j u, (ints xs)[j]? = some u → w.cell? (ad.add j) = some u := by
  intro ad ha
  obtain ⟨h1, h2⟩ := h
  rcases h2 with h2 | ⟨b, o, e, hc⟩
  · obtain rfl : xs = [] := List.eq_nil_of_length_eq_zero (by omega)
    intro j u hu
    simp [ints] at hu
  · obtain rfl : ad = ⟨b, o, none⟩ := by rw [ha] at e; simpa using e
    intro j u hu
    have hj : j < n := by
      have := (List.getElem?_eq_some_iff.1 hu).1
      rw [ints_len] at this
      omega
    rw [Addr.add_lit, hc j hj]
    have e2 : (ints xs)[j]? = some (.int .i64 (xs.getD j 0)) := by simp [ints, List.getD, show j < xs.length by omega]
    rw [e2] at hu
    exact hu
theorem app_i {w0 : World} {ops : Array Oper} {rest : List Oper} {o : Oper} {a : Act} {Q : Exit → Act → World → Prop} (hgd : o.guard = none) (s x : Operand)
    (ho : o.op = .call { callee := .builtin .append, args := #[s, x], argTypes := #[25, 25] })
    (v : Value) (n : Nat) (xs : List Int) (hs : a.eval s = v) (hown : w.ownsRow w0.heap.size 3 1 v n (ints xs)) (hb : Below w0.heap.size w0 w)
    (ao : Option Addr) (k c : Nat) (ys : List Int) (hx : a.eval x = .slice ao k c) (hr : RdI w ao k ys) (hnone : ao = none → k = 0 ∧ c = 0) (hn : n + k ≤ 1000)
    (h : ∀ v' w', Hid (w'.ownsRow w0.heap.size 3 1 v' (n + k) (ints (xs ++ ys))) → Hid (Below w0.heap.size w0 w') → wpList Try.prog ops Q rest (a.put o.dst v') w') : wpList Try.prog ops Q (o :: rest) a w := by
  obtain ⟨i0, hi, hz0, hz1, hz2⟩ := info_parts info_i
  have hk := hr.1
  cases ao with
  | some ad =>
    refine wpList_append_own w hgd s x 25 ho w0.heap.size 3 i0 (.int .i64 0) 1 8 Try.underlying25 hi hz0 hz1 hz2 (by rfl) (by decide) v n (ints xs) hs hown ad k c (ints ys) hx (by rw [ints_len]; omega) (rd_cells hr ad rfl) (ints_one ys) (by unfold maxLen; omega) (by omega) hb.size ?_
    intro v' w' h2 h3 _
    exact h v' w' (by show World.ownsRow _ _ _ _ _ _ _; simpa [ints] using h2) (hb.grown h3 hb.size (fun q hq => (World.ownsRow.lt hown q hq).1))
  | none =>
    obtain ⟨rfl, rfl⟩ := hnone rfl
    obtain rfl : ys = [] := List.eq_nil_of_length_eq_zero hk
    exact wpList_append_own_none hgd s x 25 ho w0.heap.size 3 i0 1 Try.underlying25 hi v n (ints xs) hs hown hx (h v w (by show World.ownsRow _ _ _ _ _ _ _; simpa using hown) hb)
def triN (D : De) (k : Nat) : List Int := (List.range k).flatMap fun (q : Nat) => [D.known q, D.timeout q, D.wrong q]
theorem triN_succ (D : De) (k : Nat) : triN D (k + 1) = triN D k ++ [D.known k, D.timeout k, D.wrong k] := by simp [triN, List.range_succ]
def De.askH (D : De) : List Int := (((((([] ++ [D.tick]) ++ D.hears) ++ D.hears) ++ D.ests) ++ [-1]) ++ D.sus) ++ [-1]
def De.asked (D : De) : List Int := D.askH ++ triN D D.n
theorem blk_one {x : Int} : BlkI (W.alloc (.cells #[.int .i64 x] 3)) W.heap.size [x] := heap_alloc_new W _
theorem blk_three {x y z : Int} : BlkI (W.alloc (.cells #[.int .i64 x, .int .i64 y, .int .i64 z] 3)) W.heap.size [x, y, z] := heap_alloc_new W _
theorem row_nil (w : World) (B t s : Nat) : w.ownsRow B t s (.slice none 0 0) 0 (ints []) := ⟨by simp [ints], .inl ⟨rfl, rfl⟩⟩
set_option maxHeartbeats 2000000 in
theorem asked_any (h : D.Ok w B m) : Calls Try.prog 29 #[.pointer (some ⟨D.b, 0, none⟩), .int .i64 D.n] w fun e w' => ∃ a n c, e = .returned (.slice a n c) ∧ RdI w' a n D.asked ∧ n ≤ 1000 ∧ Below w.heap.size w w' := by
  have h16 := h.n16
  have H1 := beat_any h
  have hL1 : D.hears.length = D.n := by unfold De.hears; rw [lst_len]
  have hL2 : D.ests.length = D.n := by unfold De.ests; rw [lst_len]
  have hL3 : D.sus.length ≤ D.n := susN_le D D.n
  have HH : Hid (∀ w', Below w.heap.size w w' → Calls Try.prog 22 #[.pointer (some ⟨D.b, 0, none⟩)] w' fun e w2 => ∃ v, e = .returned v ∧ IsI w' w2 D.n D.hears v) := fun w' hb => hears_any (h.still hb)
  have HE : Hid (∀ w', Below w.heap.size w w' → Calls Try.prog 17 #[.pointer (some ⟨D.b, 0, none⟩)] w' fun e w2 => ∃ v, e = .returned v ∧ IsI w' w2 D.n D.ests v) := fun w' hb => est_any (h.still hb)
  have HS : Hid (∀ w', Below w.heap.size w w' → Calls Try.prog 27 #[.pointer (some ⟨D.b, 0, none⟩)] w' fun e w2 => ∃ v, e = .returned v ∧ w2.ownsRow w'.heap.size 3 1 v D.sus.length (ints D.sus) ∧ Below w'.heap.size w' w2) := fun w' hb => sus_any (h.still hb)
  have Hh : Hid (D.Ok w B m) := h
  clear h
  obtain ⟨Y, hY⟩ : ∃ Y, D.asked = Y := ⟨_, rfl⟩
  rw [hY]
  have HY : Hid (Y = ((((((([] ++ [D.tick]) ++ D.hears) ++ D.hears) ++ D.ests) ++ [-1]) ++ D.sus) ++ [-1]) ++ triN D D.n) := hY.symm
  clear hY
  generalize D.hears = xh at *
  generalize D.ests = xe at *
  generalize D.sus = xs at *
  go_enter Try.func29, Try.ntmps29
  go_wp2_with (fail)
  refine H1.mono ?_
  rintro e w1 ⟨v1, rfl, ga, rfl, hg1, ho1, hb1⟩
  generalize hA1 : w1.alloc (.cells #[.int .i64 D.tick, .slice (some ⟨ga, 0, none⟩) D.n D.n] 38) = A1
  have hbA : Below w1.heap.size w1 A1 := by rw [← hA1]; exact balloc (Below.refl _ w1)
  have hkA : A1.heap[w1.heap.size]? = some (.cells #[.int .i64 D.tick, .slice (some ⟨ga, 0, none⟩) D.n D.n] 38 (0, 0)) := by rw [← hA1]; exact heap_alloc_new w1 _
  have BA : Hid (Below w.heap.size w A1) := bstep hb1 hbA
  have OA : Hid (RdI A1 (some ⟨ga, 0, none⟩) D.n xh) := (ho1.still hbA).rd hL1
  have q0 := blk_cell hkA 0
  have q1 := blk_cell hkA 1
  obtain ⟨ba, hba⟩ : ∃ g, w1.heap.size = g := ⟨_, rfl⟩
  rw [hba] at q0 q1
  clear hg1 ho1 hb1 hbA hkA
  go_wp2_with (first
    | (at_builtin; refine app_i (w0 := A1) rfl _ _ rfl (.slice none 0 0) 0 [] rfl (row_nil _ _ _ _) (balloc (Below.refl _ A1)) _ 1 1 [D.tick] rfl (blk_one.rd rfl) (fun e => by simp at e) (by omega) ?_)
    | fail)
  intro v2 w2 O2 B2
  have r1 := below_at B2.out q1
  go_wp2_with (first
    | (at_builtin; refine app_i (w0 := A1) rfl _ _ rfl _ _ _ rfl O2.out B2.out _ _ _ xh rfl (OA.out.still B2.out) (fun e => by simp at e) (by omega) ?_)
    | fail)
  clear O2
  intro v3 w3 O3 B3
  clear B2 r1
  go_wp2_with (fail)
  refine (HH.out _ (bstep BA.out B3.out)).mono ?_
  rintro e w4 ⟨u4, rfl, g4, rfl, -, ho4, hb4⟩
  have B4 : Hid (Below A1.heap.size A1 w4) := bstep B3.out hb4
  have O4 : Hid (w4.ownsRow A1.heap.size 3 1 v3 _ (ints _)) := own_still O3.out hb4
  have R4 : Hid (RdI w4 (some ⟨g4, 0, none⟩) D.n xh) := ho4.rd hL1
  clear O3 B3 ho4 hb4
  go_wp2_with (first
    | (at_builtin; refine app_i (w0 := A1) rfl _ _ rfl _ _ _ rfl O4.out B4.out _ _ _ xh rfl R4.out (fun e => by simp at e) (by omega) ?_)
    | fail)
  intro v5 w5 O5 B5
  clear O4 B4 R4
  go_wp2_with (fail)
  refine (HE.out _ (bstep BA.out B5.out)).mono ?_
  rintro e w6 ⟨u6, rfl, g6, rfl, -, ho6, hb6⟩
  have B6 : Hid (Below A1.heap.size A1 w6) := bstep B5.out hb6
  have O6 : Hid (w6.ownsRow A1.heap.size 3 1 v5 _ (ints _)) := own_still O5.out hb6
  have R6 : Hid (RdI w6 (some ⟨g6, 0, none⟩) D.n xe) := ho6.rd hL2
  clear O5 B5 ho6 hb6
  go_wp2_with (first
    | (at_builtin; refine app_i (w0 := A1) rfl _ _ rfl _ _ _ rfl O6.out B6.out _ _ _ xe rfl R6.out (fun e => by simp at e) (by omega) ?_)
    | fail)
  intro v7 w7 O7 B7
  clear O6 B6 R6
  go_wp2_with (first
    | (at_builtin; refine app_i (w0 := A1) rfl _ _ rfl _ _ _ rfl (World.ownsRow.alloc O7.out _) (balloc B7.out) _ 1 1 [-1] rfl (blk_one.rd rfl) (fun e => by simp at e) (by omega) ?_)
    | fail)
  intro v8 w8 O8 B8
  clear O7 B7
  go_wp2_with (fail)
  refine (HS.out _ (bstep BA.out B8.out)).mono ?_
  rintro e w9 ⟨u9, rfl, ho9, hb9⟩
  obtain ⟨a9, c9, rfl⟩ := own_slice0 ho9
  have B9 : Hid (Below A1.heap.size A1 w9) := bstep B8.out hb9
  have O9 : Hid (w9.ownsRow A1.heap.size 3 1 v8 _ (ints _)) := own_still O8.out hb9
  have R9 : Hid (RdI w9 a9 xs.length xs) := own_rd ho9
  have N9 : Hid (a9 = none → xs.length = 0 ∧ c9 = 0) := fun e => own_none (by rw [e] at ho9; exact ho9)
  clear O8 B8 ho9 hb9
  go_wp2_with (first
    | (at_builtin; refine app_i (w0 := A1) rfl _ _ rfl _ _ _ rfl O9.out B9.out _ _ _ xs rfl R9.out N9.out (by omega) ?_)
    | fail)
  intro v10 w10 O10 B10
  clear O9 B9 R9 N9
  go_wp2_with (first
    | (at_builtin; refine app_i (w0 := A1) rfl _ _ rfl _ _ _ rfl (World.ownsRow.alloc O10.out _) (balloc B10.out) _ 1 1 [-1] rfl (blk_one.rd rfl) (fun e => by simp at e) (by omega) ?_)
    | fail)
  intro v11 w11 O11 B11
  clear O10 B10
  obtain ⟨T, hT⟩ : ∃ T, (((((([] ++ [D.tick]) ++ xh) ++ xh) ++ xe) ++ [-1]) ++ xs) ++ [-1] = T := ⟨_, rfl⟩
  obtain ⟨N, hN⟩ : ∃ N, 0 + 1 + D.n + D.n + D.n + 1 + xs.length + 1 = N := ⟨_, rfl⟩
  have P11 : Hid (w11.ownsRow A1.heap.size 3 1 v11 N (ints T)) := by
    show World.ownsRow _ _ _ _ _ _ _
    rw [← hT, ← hN]
    have := O11.out
    simpa [Nat.add_assoc, List.append_assoc] using this
  have HZ : Hid (Y = T ++ triN D D.n) := by show _ = _; rw [HY.out, hT]
  clear O11 HY
  have hN2 : N ≤ 100 := by omega
  clear hT hN HH HE HS H1 OA q0 q1
  go_wp2
  go_loopw [5, 7] (fun v i wr => ∃ k : Nat, k ≤ D.n ∧ i = .int .i64 k ∧ wr.ownsRow A1.heap.size 3 1 v (N + 3 * k) (ints (T ++ triN D k)) ∧ Below A1.heap.size A1 wr) (fun _ i _ => D.n - (intOf i).toNat)
  case atStart => exact ⟨0, Nat.zero_le _, rfl, by have := P11.out; simpa [triN] using this, B11.out⟩
  case round =>
    obtain ⟨k, hk, rfl, ho, hb⟩ := hrel
    by_cases hlt : k < D.n
    · have hR := Hh.out.still (bstep BA.out hb)
      have K1 := known_any hR (k : Int)
      have K2 := timeout_any hR (k : Int)
      have K3 := wrong_any hR (k : Int)
      have Hnx : Hid (T ++ triN D (k + 1) = (T ++ triN D k) ++ [D.known k, D.timeout k, D.wrong k]) := by show _ = _; rw [triN_succ, List.append_assoc]
      generalize D.known k = x1 at *
      generalize D.timeout k = x2 at *
      generalize D.wrong k = x3 at *
      generalize T ++ triN D k = U at *
      have HO : Hid (wr.ownsRow A1.heap.size 3 1 u5 (N + 3 * k) (ints U)) := ho
      have HB : Hid (Below A1.heap.size A1 wr) := hb
      have i1 : (0 : Int) ≤ (k : Int) := Int.natCast_nonneg _
      have i2 : (k : Int) < (D.n : Int) := by omega
      clear ho hb hR
      go_wp2_with (first
        | (go_at_call 18; refine K1.mono ?_; rintro e w' ⟨rfl, rfl⟩)
        | (go_at_call 25; refine K2.mono ?_; rintro e w' ⟨rfl, rfl⟩)
        | (go_at_call 24; refine K3.mono ?_; rintro e w' ⟨rfl, rfl⟩)
        | (at_builtin; refine app_i (w0 := A1) rfl _ _ rfl _ _ _ rfl (World.ownsRow.alloc HO.out _) (balloc HB.out) _ 3 3 [x1, x2, x3] rfl (blk_three.rd rfl) (fun e => by simp at e) (by omega) ?_; intro v12 w12 O12 B12)
        | fail)
      go_roundw
      case rel => exact ⟨k + 1, by omega, by go_num, by rw [Hnx.out]; exact O12.out, B12.out⟩
      case measure => simp [intOf]; omega
    · obtain rfl : k = D.n := by omega
      obtain ⟨a, c, rfl⟩ := own_slice0 ho
      have HF : Hid (RdI wr a (N + 3 * D.n) Y ∧ Below w.heap.size w wr) := ⟨by rw [HZ.out]; exact own_rd ho, bstep BA.out hb⟩
      clear ho hb
      go_wp2
      go_ret
      exact ⟨_, _, _, rfl, HF.out.1, by omega, HF.out.2⟩
end
end Go.Proofs.Ytjnbkkmagceggaa.Dt
