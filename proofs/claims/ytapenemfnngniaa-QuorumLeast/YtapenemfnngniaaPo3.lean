import Derived.Test.YtapenemfnngniaaPn3
namespace Go.Proofs.Ytapenemfnngniaa.Qm
open Go.RowKit Mb
set_option linter.unusedVariables false
set_option maxRecDepth 100000
set_option linter.unusedSimpArgs false
def frP (v : List Nat) (f s i m : Nat) : List Nat := ((List.range m).map (fun j => frm v f (s + 2 ^ (i + j)) (i + j + 1))).flatten
theorem frP_succ (v : List Nat) (f s i m : Nat) : frP v f s i (m + 1) = frP v f s i m ++ frm v f (s + 2 ^ (i + m)) (i + m + 1) := by simp [frP, List.range_succ]
theorem frP_le (v : List Nat) (f s i m : Nat) : ∀ d, (frP v f s i m).length ≤ (frP v f s i (m + d)).length
  | 0 => Nat.le_refl _
  | d + 1 => by
      rw [← Nat.add_assoc, frP_succ, List.length_append]
      have := frP_le v f s i m d
      omega
theorem frm_len {v : List Nat} (h16 : v.length ≤ 16) (f s i : Nat) (hs : s < 2 ^ i) (hi : i ≤ v.length) (hf : v.length < i + f) : (frm v f s i).length ≤ 65536 := by
  have hp : (frm v f s i).Perm ((ML v (2 ^ v.length)).filter (fun t => decide (t % 2 ^ i = s))) :=
    (List.perm_ext_iff_of_nodup (frm_nodup h16 f s i hs hi hf) ((ML_nodup v _).filter _)).2 fun t => by
      rw [frm_mem h16 f s i t hs hi hf, List.mem_filter, ML_mem]
      simp [and_assoc]
  have h1 := hp.length_eq
  have h2 := List.length_filter_le (fun t => decide (t % 2 ^ i = s)) (ML v (2 ^ v.length))
  have h3 := ML_len v (2 ^ v.length)
  have h4 := two_pow_le v.length h16
  omega
theorem frP_len {v : List Nat} (h16 : v.length ≤ 16) (f s i m : Nat) (hs : s < 2 ^ i) (hi : i ≤ v.length) (hf : v.length < i + (f + 1)) (hm : i + m ≤ v.length) (h1 : mn v s = false) (h2 : wins v s = false) : (frP v f s i m).length ≤ 65536 := by
  have h := frm_len h16 (f + 1) s i hs hi hf
  simp only [frm, h1, h2, Bool.false_eq_true, if_false] at h
  have h3 := frP_le v f s i m (v.length - i - m)
  rw [show m + (v.length - i - m) = v.length - i by omega] at h3
  exact Nat.le_trans h3 h
section
variable {w w' W : World} {B : Nat}
theorem Ll.lower {base base' n : Nat} {v : Value} {E : List El} (h : Ll w base n v E) (hb : base' ≤ base) : Ll w base' n v E := ⟨own_lower h.row hb, fun e he => own_lower (h.el e he) hb⟩
theorem Ll.none (w : World) (base n : Nat) : Ll w base n (.slice none 0 0) [] := ⟨⟨rfl, .inl ⟨rfl, rfl⟩⟩, fun e he => by cases he⟩
theorem app_ls {w0 : World} {ops : Array Oper} {rest : List Oper} {o : Oper} {a : Act} {Q : Exit → Act → World → Prop} (hgd : o.guard = none) (s x : Operand)
    (ho : o.op = .call { callee := .builtin .append, args := #[s, x], argTypes := #[32, 32] })
    (v : Value) {n : Nat} (E : List El) (hs : a.eval s = v) (hown : Ll w w0.heap.size n v E) (hb : Below w0.heap.size w0 w)
    (v2 : Value) (E2 : List El) (hx : a.eval x = v2) (h2 : Ll w w0.heap.size n v2 E2) (hn : E.length + E2.length ≤ 200000)
    (h : ∀ v' w', Hid (Ll w' w0.heap.size n v' (E ++ E2)) → Hid (Below w0.heap.size w0 w') → wpList Try.prog ops Q rest (a.put o.dst v') w') : wpList Try.prog ops Q (o :: rest) a w := by
  obtain ⟨i0, hi, hz0, hz1, hz2⟩ := iss_info
  rcases h2.row.2 with ⟨g1, g2⟩ | ⟨g, cap, cur, hv, hB, hg, hnc, hcm, hcs, htk⟩
  · obtain rfl : E2 = [] := List.eq_nil_of_length_eq_zero g2
    subst g1
    exact wpList_append_own_none hgd s x 32 ho w0.heap.size 22 i0 1 Try.underlying32 hi v E.length (E.map El.v) hs hown.row hx (h v w (by show Ll _ _ _ _ _; simpa using hown) hb)
  · subst hv
    refine wpList_append_own w hgd s x 32 ho w0.heap.size 22 i0 (.slice none 0 0) 1 24 Try.underlying32 hi hz0 hz1 hz2 (by rfl) (by decide) v E.length (E.map El.v) hs hown.row ⟨g, 0, none⟩ E2.length cap (E2.map El.v) hx (by simp) (fun j u hu => by
      rw [Addr.add_lit, Nat.zero_add, blk_cell hg]
      rw [← htk] at hu
      have hj : j < E2.length * 1 := by
        apply Classical.byContradiction
        intro hj
        rw [List.getElem?_eq_none (by rw [List.length_take]; omega)] at hu
        cases hu
      rw [List.getElem?_take_of_lt hj] at hu
      simpa using hu) (by intro u hu; obtain ⟨e, -, rfl⟩ := List.mem_map.1 hu; rfl) (by unfold maxLen; omega) (by omega) hb.size ?_
    intro v' w' h2' h3 _
    have k := Kept.ofGrown h3
    have hk : ∀ g2 cur, w.heap[g2]? = some (.cells cur 3 (0, 0)) → ¬ some g2 = v.ownBlock := fun g2 cur hg2 e2 => by
      obtain ⟨c3, h4⟩ := own_type hown.row e2.symm
      exact ty_ne hg2 h4 (by decide) rfl
    refine h v' w' ⟨by simpa using h2', fun e2 he2 => ?_⟩ (hb.grown h3 hb.size (fun q hq => (World.ownsRow.lt hown.row q hq).1))
    rcases List.mem_append.1 he2 with h5 | h5
    · exact own_keepT (hown.el e2 h5) k hk
    · exact own_keepT (h2.el e2 h5) k hk
set_option maxHeartbeats 4000000 in
theorem rfrom_any {ao : Option Addr} {n c : Nat} {xs : List Int} (hok : okI xs = true) : ∀ (f : Nat) (w : World) (s i : Nat), RdI w ao n c xs → s < 2 ^ i → i ≤ n → n < i + f → Calls Try.prog 39 #[.slice ao n c, .int .i64 (s : Int), .int .i64 (i : Int)] w fun e w' => ∃ x E, e = .returned x ∧ E.map El.s = frm (nv xs) f s i ∧ Ll w' w.heap.size n x E ∧ Below w.heap.size w w'
  | 0, w, s, i, hr, hs, hi, hf => by omega
  | f + 1, w, s, i, hr, hs, hi, hf => by
      have IH : Hid (∀ (w : World) (s i : Nat), RdI w ao n c xs → s < 2 ^ i → i ≤ n → n < i + f → Calls Try.prog 39 #[.slice ao n c, .int .i64 (s : Int), .int .i64 (i : Int)] w fun e w' => ∃ x E, e = .returned x ∧ E.map El.s = frm (nv xs) f s i ∧ Ll w' w.heap.size n x E ∧ Below w.heap.size w w') := rfrom_any hok f
      have HO : Ok (nv xs) := okI_ok hok
      have hl : (nv xs).length = n := by rw [nv_len, hr.len]
      have h16 : n ≤ 16 := by rw [← hl]; exact HO.1
      have hsn : s < 2 ^ n := Nat.lt_of_lt_of_le hs (Nat.pow_le_pow_right (by decide) hi)
      have h2n := two_pow_le n h16
      have hs16 : s < 65536 := by omega
      have HM := rmin_any hr hok s hs16
      have HW := rwins_any hr hok s hs16
      have HN : Hid (Calls Try.prog 56 #[.int .i64 (s : Int)] w fun e w' => ∃ v, e = .returned v ∧ w'.ownsRow w.heap.size 3 1 v (listN s n).length (ints (zi (listN s n))) ∧ Below w.heap.size w w') := rnodes_any s n h16 hsn
      have HR : Hid (RdI w ao n c xs) := hr
      have Hs : Hid (s < 2 ^ i ∧ s < 2 ^ n) := ⟨hs, hsn⟩
      have Hl : Hid ((nv xs).length = n) := hl
      clear hr hok HO hl hs hsn h2n
      generalize nv xs = v at *
      cases hm : mn v s with
      | true =>
        have HF : Hid (frm v (f + 1) s i = [s]) := by show _ = _; simp [frm, hm]
        rw [hm] at HM
        clear IH HW
        go_enter Try.func39, Try.ntmps39
        go_wp2_with (fail)
        refine HM.mono ?_
        rintro e w2 ⟨rfl, rfl⟩
        go_wp2_with (fail)
        refine HN.out.mono ?_
        rintro e X1 ⟨x, rfl, hx, hbx⟩
        obtain ⟨xa, xc, rfl⟩ := own_shape hx
        obtain ⟨X2, hX2⟩ : ∃ X, X1.alloc (.cells #[.slice xa (listN s n).length xc] 22) = X := ⟨_, rfl⟩
        have HB2 : Hid (Below X1.heap.size X1 X2) := by rw [← hX2]; exact balloc (Below.refl _ _)
        have HX2b : Hid (X2.heap[X1.heap.size]? = some (.cells #[(⟨xa, (listN s n).length, xc, s⟩ : El).v] 22 (0, 0))) := by rw [← hX2]; exact heap_alloc_new _ _
        have HBx : Hid (Below w.heap.size w X2) := bstep hbx HB2.out
        have Hxo : Hid (X2.ownsRow w.heap.size 3 1 (⟨xa, (listN s n).length, xc, s⟩ : El).v (listN s n).length (ints (zi (listN s n)))) := own_still hx HB2.out
        clear hx hbx
        go_wp2_with (first
          | (at_builtin; refine app_ll (w0 := w) rfl (.tmp 12) (.tmp 15) rfl _ [] rfl (Ll.none _ _ _) HBx.out X1.heap.size ⟨xa, (listN s n).length, xc, s⟩ rfl HX2b.out Hxo.out (by simp) ?_)
          | fail)
        intro v2 G HO2 HBg HKg
        go_wp2
        go_ret
        exact ⟨_, _, rfl, by rw [HF.out]; rfl, HO2.out, HBg.out⟩
      | false =>
        rw [hm] at HM
        clear HN
        cases hw : wins v s with
        | true =>
          have HF : Hid (frm v (f + 1) s i = []) := by show _ = _; simp [frm, hm, hw]
          rw [hw] at HW
          clear IH
          go_enter Try.func39, Try.ntmps39
          go_wp2_with (fail)
          refine HM.mono ?_
          rintro e w2 ⟨rfl, rfl⟩
          go_wp2_with (fail)
          refine HW.mono ?_
          rintro e w2 ⟨rfl, rfl⟩
          go_wp2
          go_ret
          exact ⟨_, [], rfl, by rw [HF.out]; rfl, Ll.none _ _ _, Below.refl _ _⟩
        | false =>
          have HF : Hid (frm v (f + 1) s i = frP v f s i (n - i)) := by show _ = _; rw [← Hl.out]; simp [frm, hm, hw, frP]
          have HLn : Hid (∀ m, i + m ≤ n → (frP v f s i m).length ≤ 65536) := fun m hmn => frP_len (by rw [Hl.out]; exact h16) f s i m Hs.out.1 (by rw [Hl.out]; exact hi) (by rw [Hl.out]; exact hf) (by rw [Hl.out]; exact hmn) hm hw
          rw [hw] at HW
          go_enter Try.func39, Try.ntmps39
          go_wp2_with (fail)
          refine HM.mono ?_
          rintro e w2 ⟨rfl, rfl⟩
          go_wp2_with (fail)
          refine HW.mono ?_
          rintro e w2 ⟨rfl, rfl⟩
          clear hm hw
          go_wp2_with (fail)
          go_loopw [7, 8] (fun l j wr => ∃ k : Nat, i ≤ k ∧ k ≤ n ∧ j = .int .i64 (k : Int) ∧ Hid (∃ E, E.map El.s = frP v f s i (k - i) ∧ Ll wr w.heap.size n l E) ∧ Hid (Below w.heap.size w wr)) (fun _ j _ => n - (intOf j).toNat)
          case atStart => exact ⟨i, Nat.le_refl _, hi, rfl, ⟨[], by rw [Nat.sub_self]; rfl, Ll.none _ _ _⟩, Below.refl _ _⟩
          case round =>
            obtain ⟨k, hik, hk, rfl, HE, HB⟩ := hrel
            by_cases hlt : k < n
            · have i2 : (k : Int) < (n : Int) := by omega
              have i1 : (0 : Int) ≤ (k : Int) := Int.natCast_nonneg _
              have hsk : s < 2 ^ k := Nat.lt_of_lt_of_le Hs.out.1 (Nat.pow_le_pow_right (by decide) hik)
              have h2p := two_pow_le k (by omega)
              have hpw := pow_val k (by omega)
              have hlt2 : s + 2 ^ k < 2 ^ (k + 1) := by rw [Nat.pow_succ]; omega
              have HC := IH.out wr (s + 2 ^ k) (k + 1) (HR.out.still HB.out) hlt2 (by omega) (by omega)
              rw [show ((s + 2 ^ k : Nat) : Int) = (s : Int) + ((2 ^ k : Nat) : Int) by omega, show ((k + 1 : Nat) : Int) = (k : Int) + 1 by omega] at HC
              have hk1 : k + 1 - i = (k - i) + 1 := by omega
              have HS : Hid (frP v f s i (k + 1 - i) = frP v f s i (k - i) ++ frm v f (s + 2 ^ k) (k + 1)) := by
                show _ = _
                rw [hk1, frP_succ, show i + (k - i) = k by omega]
              have HLf : Hid ((frm v f (s + 2 ^ k) (k + 1)).length ≤ 65536) := frm_len (by rw [Hl.out]; exact h16) f _ _ hlt2 (by rw [Hl.out]; omega) (by rw [Hl.out]; omega)
              generalize frm v f (s + 2 ^ k) (k + 1) = FF at *
              clear hlt2 hk1 hsk
              generalize hz : 2 ^ k = z at *
              clear hz
              obtain ⟨E, hE, hL⟩ := HE.out
              have HEe : Hid (E.map El.s = frP v f s i (k - i)) := hE
              have hEl : E.length ≤ 65536 := by
                have := HLn.out (k - i) (by omega)
                rw [← hE, List.length_map] at this
                exact this
              have HLE : Hid (Ll wr w.heap.size n _ E) := hL
              have HCh : Hid (Calls Try.prog 39 #[.slice ao n c, .int .i64 ((s : Int) + (z : Int)), .int .i64 ((k : Int) + 1)] wr fun e w' => ∃ x E, e = .returned x ∧ E.map El.s = FF ∧ Ll w' wr.heap.size n x E ∧ Below wr.heap.size wr w') := HC
              clear hE hL HC
              go_wp2_with (fail)
              refine HCh.out.mono ?_
              rintro e X ⟨x, E2, rfl, hE2, hL2, hb2⟩
              have HE2 : Hid (E2.map El.s = FF) := hE2
              have hE2l : E2.length ≤ 65536 := by
                have := HLf.out
                rw [← hE2, List.length_map] at this
                exact this
              have HL2 : Hid (Ll X w.heap.size n x E2) := hL2.lower HB.out.size
              have HL1 : Hid (Ll X w.heap.size n _ E) := HLE.out.still hb2
              have HBX : Hid (Below w.heap.size w X) := bstep HB.out hb2
              clear hE2 hL2 hb2
              go_wp2_with (first
                | (at_builtin; refine app_ls (w0 := w) rfl (.tmp 28) (.tmp 37) rfl _ E rfl HL1.out HBX.out _ E2 rfl HL2.out (by omega) ?_)
                | fail)
              intro v2 G HO2 HBg
              go_wp2_with (fail)
              refine ⟨⟨k + 1, by omega, by omega, by go_num, ⟨E ++ E2, ?_, HO2.out⟩, HBg.out⟩, by simp [intOf]; omega⟩
              rw [HS.out, List.map_append, HEe.out, HE2.out]
            · have i2 : ¬ (k : Int) < (n : Int) := by omega
              obtain rfl : k = n := by omega
              obtain ⟨E, hE, hL⟩ := HE.out
              have HEe : Hid (E.map El.s = frm v (f + 1) s i) := hE.trans HF.out.symm
              have HLE : Hid (Ll wr w.heap.size k _ E) := hL
              clear hE hL
              go_wp2
              go_ret
              exact ⟨_, rfl, E, HEe.out, HLE.out, HB.out⟩
end
end Go.Proofs.Ytapenemfnngniaa.Qm
