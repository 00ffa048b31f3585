import Derived.Test.YtcieinejjkddfabPd1
import Derived.Test.YtcieinejjkddfabPr
namespace Go.Proofs.Ytcieinejjkddfab.Qm
open Go.RowKit Mb
set_option linter.unusedVariables false
set_option maxRecDepth 100000
set_option linter.unusedSimpArgs false
section
variable {w w' : World} {B : Nat}
structure WpL (ops : Array Oper) (Q : Exit → Act → World → Prop) (l : List Oper) (a : Act) (w : World) : Prop where
  out : wpList Try.prog ops Q l a w
theorem wl_step {ops : Array Oper} {rest : List Oper} {o : Oper} {a : Act} {Q : Exit → Act → World → Prop} (hw : Region.wanted o (yielded ops a.tmps) = true) (h : ∀ K : Act → World → Prop, (∀ a w, WpL ops Q rest a w → K a w) → o.wp Try.prog a w K Q) : WpL ops Q (o :: rest) a w :=
  ⟨wpList_step fun K hK => by
    rw [if_pos hw]
    exact h K (fun a w h => hK a w h.out)⟩
theorem wl_take {ops : Array Oper} {rest : List Oper} {o : Oper} {a : Act} {Q : Exit → Act → World → Prop} {v : Value} (hw : Region.wanted o (yielded ops a.tmps) = true) (hx : (execOp a.eval o).run Try.prog w = .ok (.value v) w) (h : WpL ops Q rest (a.put o.dst v) w) : WpL ops Q (o :: rest) a w :=
  wl_step hw fun K hK => by
    unfold Oper.wp
    rw [hx]
    exact hK _ _ h
theorem wl_skip {ops : Array Oper} {rest : List Oper} {o : Oper} {a : Act} {Q : Exit → Act → World → Prop} (hw : Region.wanted o (yielded ops a.tmps) = false) (h : WpL ops Q rest (a.put o.dst undef) w) : WpL ops Q (o :: rest) a w :=
  ⟨wpList_step fun K hK => by
    rw [if_neg (by rw [hw]; simp)]
    exact hK _ _ h.out⟩
theorem wl_at {ops : Array Oper} {rest : List Oper} {o : Oper} {a : Act} {Q : Exit → Act → World → Prop} (d : Nat) (hd : o.dst = some d) (h : WpL ops Q (o :: rest) a w) : wpList Try.prog ops Q (o :: rest) a w := h.out
theorem viewP_mem {n : Nat} {v : Vw} (h : memP n 0 v.ms = none) : (viewP n v).isSome = false := by unfold viewP; rw [h]; rfl
theorem viewP_isSome {n : Nat} {v : Vw} {s : Nat} (h : memP n 0 v.ms = some s) (h0 : v.ms.length ≠ 0) : (viewP n v).isSome = decide (1 ≤ v.ep ∧ v.ep ≤ 4611686018427387904 ∧ v.ld = (v.ms.getD 0 z3).p ∧ v.ic = (v.ms.getD 0 z3).e ∧ v.cd = (v.ms.getD 0 z3).l) := by
  unfold viewP
  rw [h]
  simp only [h0, if_false]
  unfold cntB Vw.id
  rw [Bool.eq_iff_iff]
  by_cases h1 : 1 ≤ v.ep ∧ v.ep ≤ 4611686018427387904
  · rw [decide_eq_true h1, if_pos rfl]
    by_cases h2 : [v.ep, v.ld, v.ic, v.cd] = [v.ep, (v.ms.getD 0 z3).p, (v.ms.getD 0 z3).e, (v.ms.getD 0 z3).l]
    · rw [if_pos h2]
      simp only [List.cons.injEq, and_true, true_and] at h2
      simp only [Option.isSome_some, true_iff, decide_eq_true_eq]
      exact ⟨h1.1, h1.2, h2⟩
    · rw [if_neg h2]
      simp only [Option.isSome_none, Bool.false_eq_true, false_iff, decide_eq_true_eq]
      intro h3
      apply h2
      rw [h3.2.2.1, h3.2.2.2.1, h3.2.2.2.2]
  · rw [decide_eq_false h1]
    simp only [Bool.false_eq_true, if_false, Option.isSome_none, false_iff, decide_eq_true_eq]
    intro h3
    exact h1 ⟨h3.1, h3.2.1⟩
set_option maxHeartbeats 8000000 in
theorem rvalid_any {v : Vw} {mo : Option Addr} {mn mc : Nat} (hr : Rd3 w mo mn mc v.ms) (hm : mn ≤ 17592186044416) (n : Nat) (hn : n ≤ 16) : Calls Try.prog 90 #[.agg #[.int .i64 v.ep, .int .i64 v.ld, .int .i64 v.ic, .int .i64 v.cd, .slice mo mn mc], .int .i64 (n : Int)] w fun e w' => e = .returned (.bool (viewP n v).isSome) ∧ Below w.heap.size w w' := by
  generalize hW : w.alloc (.cells #[.int .i64 v.ep, .int .i64 v.ld, .int .i64 v.ic, .int .i64 v.cd, .slice mo mn mc] 52) = W
  have hbW : Below w.heap.size w W := by rw [← hW]; exact balloc (Below.refl _ w)
  have hblk : W.heap[w.heap.size]? = some (.cells #[.int .i64 v.ep, .int .i64 v.ld, .int .i64 v.ic, .int .i64 v.cd, .slice mo mn mc] 52 (0, 0)) := by rw [← hW]; exact heap_alloc_new w _
  have q0 : W.cell? ⟨w.heap.size, 0, none⟩ = some (.int .i64 v.ep) := blk_cell hblk 0
  have q1 : W.cell? ⟨w.heap.size, 1, none⟩ = some (.int .i64 v.ld) := blk_cell hblk 1
  have q2 : W.cell? ⟨w.heap.size, 2, none⟩ = some (.int .i64 v.ic) := blk_cell hblk 2
  have q3 : W.cell? ⟨w.heap.size, 3, none⟩ = some (.int .i64 v.cd) := blk_cell hblk 3
  have q4 : W.cell? ⟨w.heap.size, 4, none⟩ = some (.slice mo mn mc) := blk_cell hblk 4
  have HR : Hid (Rd3 W mo mn mc v.ms) := hr.still hbW
  have Hl : Hid (v.ms.length = mn) := hr.len
  have HBW : Hid (Below w.heap.size w W) := hbW
  clear hr hblk hbW
  by_cases h0 : mn < 1
  · obtain rfl : mn = 0 := by omega
    have HF : Hid ((viewP n v).isSome = false) := by
      show _ = _
      unfold viewP
      cases memP n 0 v.ms with
      | none => rfl
      | some s => simp [Hl.out]
    go_enter Try.func90, Try.ntmps90
    go_wp2
    go_ret
    exact ⟨by rw [HF.out]; rfl, HBW.out⟩
  · go_enter Try.func90, Try.ntmps90
    go_wp2
    go_loopw [5, 6] (fun l i wr => ∃ (k s q : Nat), k ≤ mn ∧ i = .int .i64 (k : Int) ∧ l = .int .i64 ((q : Int) - 1) ∧ s < 2 ^ q ∧ q ≤ 16 ∧ Hid (Lib.bitLen s = q ∧ memP n s (v.ms.drop k) = memP n 0 v.ms) ∧ Hid (Below W.heap.size W wr)) (fun _ i _ => mn - (intOf i).toNat)
    case atStart => exact ⟨0, 0, 0, Nat.zero_le _, rfl, rfl, by decide, by omega, ⟨rfl, rfl⟩, Below.refl _ _⟩
    case round =>
      obtain ⟨k, s, q, hk, rfl, rfl, hs, hq, HT, HB⟩ := hrel
      replace q0 := below_at HB.out q0
      replace q1 := below_at HB.out q1
      replace q2 := below_at HB.out q2
      replace q3 := below_at HB.out q3
      replace q4 := below_at HB.out q4
      by_cases hlt : k < mn
      · obtain ⟨g, o, hg, hc⟩ := (HR.out.still HB.out).at hlt
        have hd : v.ms.drop k = v.ms.getD k z3 :: v.ms.drop (k + 1) := by
          have hkx : k < v.ms.length := by have := Hl.out; omega
          rw [List.drop_eq_getElem_cons hkx]
          simp [List.getD, hkx]
        have HT2 : memP n s (v.ms.getD k z3 :: v.ms.drop (k + 1)) = memP n 0 v.ms := by rw [← hd]; exact HT.out.2
        simp only [memP] at HT2
        have hok : okP n s (v.ms.getD k z3).p = decide ((q : Int) ≤ (v.ms.getD k z3).p ∧ (v.ms.getD k z3).p ≤ (n : Int) - 1) := by unfold okP; rw [HT.out.1]
        rw [hok] at HT2
        have i1 : (0 : Int) ≤ (k : Int) := Int.natCast_nonneg _
        have i2 : (k : Int) < (mn : Int) := by omega
        rw [hg] at q4
        generalize v.ms.getD k z3 = x at *
        have HG : Hid (wr.rangeAt g (o + k * 3) (ints x.li)) := hc
        obtain ⟨A1, V, hA1, HA1, hV, HV, HBV⟩ := newm wr x
        have m0 : V.cell? ⟨wr.heap.size, 0, none⟩ = some (.int .i64 x.p) := HV.out.cell (i := 0) (by rw [St.li_len]; decide)
        have m1 : V.cell? ⟨wr.heap.size, 1, none⟩ = some (.int .i64 x.e) := HV.out.cell (i := 1) (by rw [St.li_len]; decide)
        have m2 : V.cell? ⟨wr.heap.size, 2, none⟩ = some (.int .i64 x.l) := HV.out.cell (i := 2) (by rw [St.li_len]; decide)
        have HBad : Hid (¬ ((q : Int) ≤ x.p ∧ x.p ≤ (n : Int) - 1 ∧ 1 ≤ x.e ∧ x.e ≤ 4611686018427387904 ∧ 1 ≤ x.l ∧ x.l ≤ 4611686018427387904) → (viewP n v).isSome = false) := fun hh => viewP_mem (by
          rw [← HT2, if_neg]
          unfold cntB
          simp only [Bool.and_eq_true, decide_eq_true_eq]
          omega)
        clear hg hd hc hok
        by_cases p1 : x.p ≤ (q : Int) - 1
        · skip
          have HF : Hid ((viewP n v).isSome = false) := HBad.out (by omega)
          go_wp2_with (first
            | (refine at_load 115 (.tmp 23) rfl ?_; refine load_mid 115 (.tmp 23) HG.out _ Try.underlying115 rfl (by rw [ints_len]; exact info_mb) rfl rfl rfl ?_)
            | (refine at_store 115 (.tmp 7) (.tmp 24) rfl ?_; refine store_mid 115 (.tmp 7) (.tmp 24) (xs := x.li) HA1.out info_mb rfl rfl rfl rfl ?_; rw [hV])
            | fail)
          go_ret
          exact ⟨by rw [HF.out]; rfl, bstep (bstep HBW.out HB.out) HBV.out⟩
        · by_cases p2 : (n : Int) ≤ x.p
          · skip
            have HF : Hid ((viewP n v).isSome = false) := HBad.out (by omega)
            go_wp2_with (first
              | (refine at_load 115 (.tmp 23) rfl ?_; refine load_mid 115 (.tmp 23) HG.out _ Try.underlying115 rfl (by rw [ints_len]; exact info_mb) rfl rfl rfl ?_)
              | (refine at_store 115 (.tmp 7) (.tmp 24) rfl ?_; refine store_mid 115 (.tmp 7) (.tmp 24) (xs := x.li) HA1.out info_mb rfl rfl rfl rfl ?_; rw [hV])
              | fail)
            go_ret
            exact ⟨by rw [HF.out]; rfl, bstep (bstep HBW.out HB.out) HBV.out⟩
          · by_cases e1 : x.e < 1
            · skip
              have HF : Hid ((viewP n v).isSome = false) := HBad.out (by omega)
              go_wp2_with (first
                | (refine at_load 115 (.tmp 23) rfl ?_; refine load_mid 115 (.tmp 23) HG.out _ Try.underlying115 rfl (by rw [ints_len]; exact info_mb) rfl rfl rfl ?_)
                | (refine at_store 115 (.tmp 7) (.tmp 24) rfl ?_; refine store_mid 115 (.tmp 7) (.tmp 24) (xs := x.li) HA1.out info_mb rfl rfl rfl rfl ?_; rw [hV])
                | fail)
              go_ret
              exact ⟨by rw [HF.out]; rfl, bstep (bstep HBW.out HB.out) HBV.out⟩
            · by_cases e2 : 4611686018427387904 < x.e
              · skip
                have HF : Hid ((viewP n v).isSome = false) := HBad.out (by omega)
                go_wp2_with (first
                  | (refine at_load 115 (.tmp 23) rfl ?_; refine load_mid 115 (.tmp 23) HG.out _ Try.underlying115 rfl (by rw [ints_len]; exact info_mb) rfl rfl rfl ?_)
                  | (refine at_store 115 (.tmp 7) (.tmp 24) rfl ?_; refine store_mid 115 (.tmp 7) (.tmp 24) (xs := x.li) HA1.out info_mb rfl rfl rfl rfl ?_; rw [hV])
                  | fail)
                go_ret
                exact ⟨by rw [HF.out]; rfl, bstep (bstep HBW.out HB.out) HBV.out⟩
              · by_cases l1 : x.l < 1
                · skip
                  have HF : Hid ((viewP n v).isSome = false) := HBad.out (by omega)
                  go_wp2_with (first
                    | (refine at_load 115 (.tmp 23) rfl ?_; refine load_mid 115 (.tmp 23) HG.out _ Try.underlying115 rfl (by rw [ints_len]; exact info_mb) rfl rfl rfl ?_)
                    | (refine at_store 115 (.tmp 7) (.tmp 24) rfl ?_; refine store_mid 115 (.tmp 7) (.tmp 24) (xs := x.li) HA1.out info_mb rfl rfl rfl rfl ?_; rw [hV])
                    | fail)
                  go_ret
                  exact ⟨by rw [HF.out]; rfl, bstep (bstep HBW.out HB.out) HBV.out⟩
                · by_cases l2 : 4611686018427387904 < x.l
                  · skip
                    have HF : Hid ((viewP n v).isSome = false) := HBad.out (by omega)
                    go_wp2_with (first
                      | (refine at_load 115 (.tmp 23) rfl ?_; refine load_mid 115 (.tmp 23) HG.out _ Try.underlying115 rfl (by rw [ints_len]; exact info_mb) rfl rfl rfl ?_)
                      | (refine at_store 115 (.tmp 7) (.tmp 24) rfl ?_; refine store_mid 115 (.tmp 7) (.tmp 24) (xs := x.li) HA1.out info_mb rfl rfl rfl rfl ?_; rw [hV])
                      | fail)
                    go_ret
                    exact ⟨by rw [HF.out]; rfl, bstep (bstep HBW.out HB.out) HBV.out⟩
                  · skip
                    obtain ⟨p, hpp⟩ := Int.eq_ofNat_of_zero_le (show 0 ≤ x.p by omega)
                    have hcond : (decide ((q : Int) ≤ x.p ∧ x.p ≤ (n : Int) - 1) && (cntB x.e && cntB x.l)) = true := by
                      unfold cntB
                      simp only [Bool.and_eq_true, decide_eq_true_eq]
                      omega
                    rw [hcond, if_pos rfl, hpp, Int.toNat_natCast] at HT2
                    rw [hpp] at m0 p1 p2
                    have hp16 : p < 16 := by omega
                    have hsp : s < 2 ^ p := Nat.lt_of_lt_of_le hs (Nat.pow_le_pow_right (by decide) (by omega))
                    have hlen := len_with hsp hp16
                    have hlt2 : s ||| 2 ^ p < 2 ^ (p + 1) := by rw [or_add hsp, Nat.pow_succ]; omega
                    have HT3 : Hid (Lib.bitLen (s ||| 2 ^ p) = p + 1 ∧ memP n (s ||| 2 ^ p) (v.ms.drop (k + 1)) = memP n 0 v.ms) := ⟨hlen, HT2⟩
                    have HL : Hid (s ||| 2 ^ p < 2 ^ (p + 1)) := hlt2
                    clear HT2 hlen hlt2 hcond hsp HBad hpp
                    generalize s ||| 2 ^ p = s2 at *
                    go_wp2_with (first
                      | (refine at_load 115 (.tmp 23) rfl ?_; refine load_mid 115 (.tmp 23) HG.out _ Try.underlying115 rfl (by rw [ints_len]; exact info_mb) rfl rfl rfl ?_)
                      | (refine at_store 115 (.tmp 7) (.tmp 24) rfl ?_; refine store_mid 115 (.tmp 7) (.tmp 24) (xs := x.li) HA1.out info_mb rfl rfl rfl rfl ?_; rw [hV])
                      | fail)
                    exact ⟨⟨k + 1, s2, p + 1, by omega, by go_num, by congr 1; omega, HL.out, by omega, HT3, bstep HB.out HBV.out⟩, by simp [intOf]; omega⟩
      · obtain rfl : k = mn := by omega
        have HM : memP n 0 v.ms = some s := by
          have := HT.out.2
          rw [List.drop_of_length_le (by have := Hl.out; omega)] at this
          rw [← this]
          rfl
        have hfin := viewP_isSome HM (by have := Hl.out; omega)
        obtain ⟨g, o, hg, hc⟩ := (HR.out.still HB.out).at (i := 0) (by omega)
        rw [hg] at q4
        generalize v.ms.getD 0 z3 = x at *
        rw [Nat.zero_mul, Nat.add_zero] at hc
        have HG : Hid (wr.rangeAt g o (ints x.li)) := hc
        obtain ⟨A1, V, hA1, HA1, hV, HV, HBV⟩ := newm wr x
        have m0 : V.cell? ⟨wr.heap.size, 0, none⟩ = some (.int .i64 x.p) := HV.out.cell (i := 0) (by rw [St.li_len]; decide)
        have m1 : V.cell? ⟨wr.heap.size, 1, none⟩ = some (.int .i64 x.e) := HV.out.cell (i := 1) (by rw [St.li_len]; decide)
        have m2 : V.cell? ⟨wr.heap.size, 2, none⟩ = some (.int .i64 x.l) := HV.out.cell (i := 2) (by rw [St.li_len]; decide)
        have r0 := below_at HBV.out q0
        have r1 := below_at HBV.out q1
        have r2 := below_at HBV.out q2
        have r3 := below_at HBV.out q3
        have HBB : Hid (Below w.heap.size w V) := bstep (bstep HBW.out HB.out) HBV.out
        have i2 : (0 : Int) < (k : Int) := by omega
        clear hg hc HM
        generalize v.ep = ep at *
        generalize v.ld = ld at *
        generalize v.ic = ic at *
        generalize v.cd = cd at *
        by_cases f1 : 1 ≤ ep
        · by_cases f2 : ep ≤ 4611686018427387904
          · by_cases f3 : ld = x.p
            · by_cases f4 : ic = x.e
              · by_cases f5 : cd = x.l
                · skip
                  have HF : Hid ((viewP n v).isSome = true) := (show _ = _ from by rw [hfin, decide_eq_true ⟨f1, f2, f3, f4, f5⟩])
                  clear hfin
                  subst f3 f4 f5
                  go_wp2_with (first
                    | (refine at_load 115 (.tmp 59) rfl ?_; refine load_mid 115 (.tmp 59) HG.out _ Try.underlying115 rfl (by rw [ints_len]; exact info_mb) rfl rfl rfl ?_)
                    | (refine at_store 115 (.tmp 8) (.tmp 60) rfl ?_; refine store_mid 115 (.tmp 8) (.tmp 60) (xs := x.li) HA1.out info_mb rfl rfl rfl rfl ?_; rw [hV])
                    | (refine wl_at 61 rfl ?_)
                    | fail)
                  refine wl_take (v := ?_) (by kernel_rfl) (by go_simp; exact rfl) ?_
                  simp only [Act.put, List.getElem_toArray, List.getElem_cons_zero, List.getElem_cons_succ, List.setIfInBounds_toArray, List.set_cons_zero, List.set_cons_succ]
                  refine wl_take (v := ?_) (by kernel_rfl) (by go_simp; exact rfl) ?_
                  simp only [Act.put, List.getElem_toArray, List.getElem_cons_zero, List.getElem_cons_succ, List.setIfInBounds_toArray, List.set_cons_zero, List.set_cons_succ]
                  refine wl_take (v := ?_) (by kernel_rfl) (by go_simp; exact rfl) ?_
                  simp only [Act.put, List.getElem_toArray, List.getElem_cons_zero, List.getElem_cons_succ, List.setIfInBounds_toArray, List.set_cons_zero, List.set_cons_succ]
                  refine wl_take (v := .bool true) (by kernel_rfl) (by (go_simp <;> omega)) ?_
                  simp only [Act.put, List.getElem_toArray, List.getElem_cons_zero, List.getElem_cons_succ, List.setIfInBounds_toArray, List.set_cons_zero, List.set_cons_succ]
                  refine wl_take (v := ?_) (by kernel_rfl) (by go_simp; exact rfl) ?_
                  simp only [Act.put, List.getElem_toArray, List.getElem_cons_zero, List.getElem_cons_succ, List.setIfInBounds_toArray, List.set_cons_zero, List.set_cons_succ]
                  refine wl_take (v := ?_) (by kernel_rfl) (by go_simp; exact rfl) ?_
                  simp only [Act.put, List.getElem_toArray, List.getElem_cons_zero, List.getElem_cons_succ, List.setIfInBounds_toArray, List.set_cons_zero, List.set_cons_succ]
                  refine wl_take (v := ?_) (by kernel_rfl) (by go_simp; exact rfl) ?_
                  simp only [Act.put, List.getElem_toArray, List.getElem_cons_zero, List.getElem_cons_succ, List.setIfInBounds_toArray, List.set_cons_zero, List.set_cons_succ]
                  refine wl_take (v := ?_) (by kernel_rfl) (by go_simp; exact rfl) ?_
                  simp only [Act.put, List.getElem_toArray, List.getElem_cons_zero, List.getElem_cons_succ, List.setIfInBounds_toArray, List.set_cons_zero, List.set_cons_succ]
                  refine wl_take (v := .bool true) (by kernel_rfl) (by (go_simp <;> omega)) ?_
                  simp only [Act.put, List.getElem_toArray, List.getElem_cons_zero, List.getElem_cons_succ, List.setIfInBounds_toArray, List.set_cons_zero, List.set_cons_succ]
                  refine wl_take (v := ?_) (by kernel_rfl) (by go_simp; exact rfl) ?_
                  simp only [Act.put, List.getElem_toArray, List.getElem_cons_zero, List.getElem_cons_succ, List.setIfInBounds_toArray, List.set_cons_zero, List.set_cons_succ]
                  refine wl_take (v := ?_) (by kernel_rfl) (by go_simp; exact rfl) ?_
                  simp only [Act.put, List.getElem_toArray, List.getElem_cons_zero, List.getElem_cons_succ, List.setIfInBounds_toArray, List.set_cons_zero, List.set_cons_succ]
                  refine wl_take (v := ?_) (by kernel_rfl) (by go_simp; exact rfl) ?_
                  simp only [Act.put, List.getElem_toArray, List.getElem_cons_zero, List.getElem_cons_succ, List.setIfInBounds_toArray, List.set_cons_zero, List.set_cons_succ]
                  refine wl_take (v := ?_) (by kernel_rfl) (by go_simp; exact rfl) ?_
                  simp only [Act.put, List.getElem_toArray, List.getElem_cons_zero, List.getElem_cons_succ, List.setIfInBounds_toArray, List.set_cons_zero, List.set_cons_succ]
                  refine wl_take (v := ?_) (by kernel_rfl) (by go_simp; exact rfl) ?_
                  simp only [Act.put, List.getElem_toArray, List.getElem_cons_zero, List.getElem_cons_succ, List.setIfInBounds_toArray, List.set_cons_zero, List.set_cons_succ]
                  refine wl_take (v := ?_) (by kernel_rfl) (by go_simp; exact rfl) ?_
                  simp only [Act.put, List.getElem_toArray, List.getElem_cons_zero, List.getElem_cons_succ, List.setIfInBounds_toArray, List.set_cons_zero, List.set_cons_succ]
                  refine wl_take (v := ?_) (by kernel_rfl) (by go_simp; exact rfl) ?_
                  simp only [Act.put, List.getElem_toArray, List.getElem_cons_zero, List.getElem_cons_succ, List.setIfInBounds_toArray, List.set_cons_zero, List.set_cons_succ]
                  refine wl_take (v := ?_) (by kernel_rfl) (by go_simp; exact rfl) ?_
                  simp only [Act.put, List.getElem_toArray, List.getElem_cons_zero, List.getElem_cons_succ, List.setIfInBounds_toArray, List.set_cons_zero, List.set_cons_succ]
                  refine wl_take (v := ?_) (by kernel_rfl) (by go_simp; exact rfl) ?_
                  simp only [Act.put, List.getElem_toArray, List.getElem_cons_zero, List.getElem_cons_succ, List.setIfInBounds_toArray, List.set_cons_zero, List.set_cons_succ]
                  refine wl_take (v := ?_) (by kernel_rfl) (by go_simp; exact rfl) ?_
                  simp only [Act.put, List.getElem_toArray, List.getElem_cons_zero, List.getElem_cons_succ, List.setIfInBounds_toArray, List.set_cons_zero, List.set_cons_succ]
                  refine wl_take (v := ?_) (by kernel_rfl) (by go_simp; exact rfl) ?_
                  simp only [Act.put, List.getElem_toArray, List.getElem_cons_zero, List.getElem_cons_succ, List.setIfInBounds_toArray, List.set_cons_zero, List.set_cons_succ]
                  refine wl_take (v := ?_) (by kernel_rfl) (by go_simp; exact rfl) ?_
                  simp only [Act.put, List.getElem_toArray, List.getElem_cons_zero, List.getElem_cons_succ, List.setIfInBounds_toArray, List.set_cons_zero, List.set_cons_succ]
                  refine wl_take (v := ?_) (by kernel_rfl) (by go_simp; exact rfl) ?_
                  simp only [Act.put, List.getElem_toArray, List.getElem_cons_zero, List.getElem_cons_succ, List.setIfInBounds_toArray, List.set_cons_zero, List.set_cons_succ]
                  refine wl_take (v := ?_) (by kernel_rfl) (by go_simp; exact rfl) ?_
                  simp only [Act.put, List.getElem_toArray, List.getElem_cons_zero, List.getElem_cons_succ, List.setIfInBounds_toArray, List.set_cons_zero, List.set_cons_succ]
                  refine wl_take (v := ?_) (by kernel_rfl) (by go_simp; exact rfl) ?_
                  simp only [Act.put, List.getElem_toArray, List.getElem_cons_zero, List.getElem_cons_succ, List.setIfInBounds_toArray, List.set_cons_zero, List.set_cons_succ]
                  refine wl_take (v := ?_) (by kernel_rfl) (by go_simp; exact rfl) ?_
                  simp only [Act.put, List.getElem_toArray, List.getElem_cons_zero, List.getElem_cons_succ, List.setIfInBounds_toArray, List.set_cons_zero, List.set_cons_succ]
                  refine wl_take (v := ?_) (by kernel_rfl) (by go_simp; exact rfl) ?_
                  simp only [Act.put, List.getElem_toArray, List.getElem_cons_zero, List.getElem_cons_succ, List.setIfInBounds_toArray, List.set_cons_zero, List.set_cons_succ]
                  refine wl_take (v := ?_) (by kernel_rfl) (by go_simp; exact rfl) ?_
                  simp only [Act.put, List.getElem_toArray, List.getElem_cons_zero, List.getElem_cons_succ, List.setIfInBounds_toArray, List.set_cons_zero, List.set_cons_succ]
                  refine wl_take (v := ?_) (by kernel_rfl) (by go_simp; exact rfl) ?_
                  simp only [Act.put, List.getElem_toArray, List.getElem_cons_zero, List.getElem_cons_succ, List.setIfInBounds_toArray, List.set_cons_zero, List.set_cons_succ]
                  refine wl_take (v := ?_) (by kernel_rfl) (by go_simp; exact rfl) ?_
                  simp only [Act.put, List.getElem_toArray, List.getElem_cons_zero, List.getElem_cons_succ, List.setIfInBounds_toArray, List.set_cons_zero, List.set_cons_succ]
                  refine wl_take (v := ?_) (by kernel_rfl) (by go_simp; exact rfl) ?_
                  simp only [Act.put, List.getElem_toArray, List.getElem_cons_zero, List.getElem_cons_succ, List.setIfInBounds_toArray, List.set_cons_zero, List.set_cons_succ]
                  refine wl_take (v := ?_) (by kernel_rfl) (by go_simp; exact rfl) ?_
                  simp only [Act.put, List.getElem_toArray, List.getElem_cons_zero, List.getElem_cons_succ, List.setIfInBounds_toArray, List.set_cons_zero, List.set_cons_succ]
                  refine wl_take (v := ?_) (by kernel_rfl) (by go_simp; exact rfl) ?_
                  simp only [Act.put, List.getElem_toArray, List.getElem_cons_zero, List.getElem_cons_succ, List.setIfInBounds_toArray, List.set_cons_zero, List.set_cons_succ]
                  refine wl_take (v := ?_) (by kernel_rfl) (by go_simp; exact rfl) ?_
                  simp only [Act.put, List.getElem_toArray, List.getElem_cons_zero, List.getElem_cons_succ, List.setIfInBounds_toArray, List.set_cons_zero, List.set_cons_succ]
                  refine wl_take (v := ?_) (by kernel_rfl) (by go_simp; exact rfl) ?_
                  simp only [Act.put, List.getElem_toArray, List.getElem_cons_zero, List.getElem_cons_succ, List.setIfInBounds_toArray, List.set_cons_zero, List.set_cons_succ]
                  refine wl_take (v := ?_) (by kernel_rfl) (by go_simp; exact rfl) ?_
                  simp only [Act.put, List.getElem_toArray, List.getElem_cons_zero, List.getElem_cons_succ, List.setIfInBounds_toArray, List.set_cons_zero, List.set_cons_succ]
                  refine ⟨?_⟩
                  go_wp2
                  go_ret
                  exact ⟨by rw [HF.out]; first | rfl | (simp; omega) | simp_all, HBB.out⟩
                · skip
                  have HF : Hid ((viewP n v).isSome = false) := (show _ = _ from by rw [hfin, decide_eq_false (by omega)])
                  have f5b : (cd == x.l) = false := by rw [beq_eq_false_iff_ne]; exact f5
                  clear hfin
                  go_wp2_with (first
                    | (refine at_load 115 (.tmp 59) rfl ?_; refine load_mid 115 (.tmp 59) HG.out _ Try.underlying115 rfl (by rw [ints_len]; exact info_mb) rfl rfl rfl ?_)
                    | (refine at_store 115 (.tmp 8) (.tmp 60) rfl ?_; refine store_mid 115 (.tmp 8) (.tmp 60) (xs := x.li) HA1.out info_mb rfl rfl rfl rfl ?_; rw [hV])
                    | (refine wl_at 61 rfl ?_)
                    | fail)
                  refine wl_take (v := ?_) (by kernel_rfl) (by go_simp; exact rfl) ?_
                  simp only [Act.put, List.getElem_toArray, List.getElem_cons_zero, List.getElem_cons_succ, List.setIfInBounds_toArray, List.set_cons_zero, List.set_cons_succ]
                  refine wl_take (v := ?_) (by kernel_rfl) (by go_simp; exact rfl) ?_
                  simp only [Act.put, List.getElem_toArray, List.getElem_cons_zero, List.getElem_cons_succ, List.setIfInBounds_toArray, List.set_cons_zero, List.set_cons_succ]
                  refine wl_take (v := ?_) (by kernel_rfl) (by go_simp; exact rfl) ?_
                  simp only [Act.put, List.getElem_toArray, List.getElem_cons_zero, List.getElem_cons_succ, List.setIfInBounds_toArray, List.set_cons_zero, List.set_cons_succ]
                  refine wl_take (v := .bool true) (by kernel_rfl) (by (go_simp <;> omega)) ?_
                  simp only [Act.put, List.getElem_toArray, List.getElem_cons_zero, List.getElem_cons_succ, List.setIfInBounds_toArray, List.set_cons_zero, List.set_cons_succ]
                  refine wl_take (v := ?_) (by kernel_rfl) (by go_simp; exact rfl) ?_
                  simp only [Act.put, List.getElem_toArray, List.getElem_cons_zero, List.getElem_cons_succ, List.setIfInBounds_toArray, List.set_cons_zero, List.set_cons_succ]
                  refine wl_take (v := ?_) (by kernel_rfl) (by go_simp; exact rfl) ?_
                  simp only [Act.put, List.getElem_toArray, List.getElem_cons_zero, List.getElem_cons_succ, List.setIfInBounds_toArray, List.set_cons_zero, List.set_cons_succ]
                  refine wl_take (v := ?_) (by kernel_rfl) (by go_simp; exact rfl) ?_
                  simp only [Act.put, List.getElem_toArray, List.getElem_cons_zero, List.getElem_cons_succ, List.setIfInBounds_toArray, List.set_cons_zero, List.set_cons_succ]
                  refine wl_take (v := ?_) (by kernel_rfl) (by go_simp; exact rfl) ?_
                  simp only [Act.put, List.getElem_toArray, List.getElem_cons_zero, List.getElem_cons_succ, List.setIfInBounds_toArray, List.set_cons_zero, List.set_cons_succ]
                  refine wl_take (v := .bool true) (by kernel_rfl) (by (go_simp <;> omega)) ?_
                  simp only [Act.put, List.getElem_toArray, List.getElem_cons_zero, List.getElem_cons_succ, List.setIfInBounds_toArray, List.set_cons_zero, List.set_cons_succ]
                  refine wl_take (v := ?_) (by kernel_rfl) (by go_simp; exact rfl) ?_
                  simp only [Act.put, List.getElem_toArray, List.getElem_cons_zero, List.getElem_cons_succ, List.setIfInBounds_toArray, List.set_cons_zero, List.set_cons_succ]
                  refine wl_take (v := ?_) (by kernel_rfl) (by go_simp; exact rfl) ?_
                  simp only [Act.put, List.getElem_toArray, List.getElem_cons_zero, List.getElem_cons_succ, List.setIfInBounds_toArray, List.set_cons_zero, List.set_cons_succ]
                  refine wl_take (v := ?_) (by kernel_rfl) (by go_simp; exact rfl) ?_
                  simp only [Act.put, List.getElem_toArray, List.getElem_cons_zero, List.getElem_cons_succ, List.setIfInBounds_toArray, List.set_cons_zero, List.set_cons_succ]
                  refine wl_take (v := ?_) (by kernel_rfl) (by go_simp; exact rfl) ?_
                  simp only [Act.put, List.getElem_toArray, List.getElem_cons_zero, List.getElem_cons_succ, List.setIfInBounds_toArray, List.set_cons_zero, List.set_cons_succ]
                  refine wl_take (v := ?_) (by kernel_rfl) (by go_simp; exact rfl) ?_
                  simp only [Act.put, List.getElem_toArray, List.getElem_cons_zero, List.getElem_cons_succ, List.setIfInBounds_toArray, List.set_cons_zero, List.set_cons_succ]
                  refine wl_take (v := ?_) (by kernel_rfl) (by go_simp; exact rfl) ?_
                  simp only [Act.put, List.getElem_toArray, List.getElem_cons_zero, List.getElem_cons_succ, List.setIfInBounds_toArray, List.set_cons_zero, List.set_cons_succ]
                  refine wl_take (v := ?_) (by kernel_rfl) (by go_simp; exact rfl) ?_
                  simp only [Act.put, List.getElem_toArray, List.getElem_cons_zero, List.getElem_cons_succ, List.setIfInBounds_toArray, List.set_cons_zero, List.set_cons_succ]
                  refine wl_take (v := ?_) (by kernel_rfl) (by go_simp; exact rfl) ?_
                  simp only [Act.put, List.getElem_toArray, List.getElem_cons_zero, List.getElem_cons_succ, List.setIfInBounds_toArray, List.set_cons_zero, List.set_cons_succ]
                  refine wl_take (v := ?_) (by kernel_rfl) (by go_simp; exact rfl) ?_
                  simp only [Act.put, List.getElem_toArray, List.getElem_cons_zero, List.getElem_cons_succ, List.setIfInBounds_toArray, List.set_cons_zero, List.set_cons_succ]
                  refine wl_take (v := ?_) (by kernel_rfl) (by go_simp; exact rfl) ?_
                  simp only [Act.put, List.getElem_toArray, List.getElem_cons_zero, List.getElem_cons_succ, List.setIfInBounds_toArray, List.set_cons_zero, List.set_cons_succ]
                  refine wl_take (v := ?_) (by kernel_rfl) (by go_simp; exact rfl) ?_
                  simp only [Act.put, List.getElem_toArray, List.getElem_cons_zero, List.getElem_cons_succ, List.setIfInBounds_toArray, List.set_cons_zero, List.set_cons_succ]
                  refine wl_take (v := ?_) (by kernel_rfl) (by go_simp; exact rfl) ?_
                  simp only [Act.put, List.getElem_toArray, List.getElem_cons_zero, List.getElem_cons_succ, List.setIfInBounds_toArray, List.set_cons_zero, List.set_cons_succ]
                  refine wl_take (v := ?_) (by kernel_rfl) (by go_simp; exact rfl) ?_
                  simp only [Act.put, List.getElem_toArray, List.getElem_cons_zero, List.getElem_cons_succ, List.setIfInBounds_toArray, List.set_cons_zero, List.set_cons_succ]
                  refine wl_take (v := ?_) (by kernel_rfl) (by go_simp; exact rfl) ?_
                  simp only [Act.put, List.getElem_toArray, List.getElem_cons_zero, List.getElem_cons_succ, List.setIfInBounds_toArray, List.set_cons_zero, List.set_cons_succ]
                  refine wl_take (v := ?_) (by kernel_rfl) (by go_simp; exact rfl) ?_
                  simp only [Act.put, List.getElem_toArray, List.getElem_cons_zero, List.getElem_cons_succ, List.setIfInBounds_toArray, List.set_cons_zero, List.set_cons_succ]
                  refine wl_take (v := ?_) (by kernel_rfl) (by go_simp; exact rfl) ?_
                  simp only [Act.put, List.getElem_toArray, List.getElem_cons_zero, List.getElem_cons_succ, List.setIfInBounds_toArray, List.set_cons_zero, List.set_cons_succ]
                  refine wl_take (v := ?_) (by kernel_rfl) (by go_simp; exact rfl) ?_
                  simp only [Act.put, List.getElem_toArray, List.getElem_cons_zero, List.getElem_cons_succ, List.setIfInBounds_toArray, List.set_cons_zero, List.set_cons_succ]
                  refine wl_take (v := ?_) (by kernel_rfl) (by go_simp; exact rfl) ?_
                  simp only [Act.put, List.getElem_toArray, List.getElem_cons_zero, List.getElem_cons_succ, List.setIfInBounds_toArray, List.set_cons_zero, List.set_cons_succ]
                  refine wl_take (v := ?_) (by kernel_rfl) (by go_simp; exact rfl) ?_
                  simp only [Act.put, List.getElem_toArray, List.getElem_cons_zero, List.getElem_cons_succ, List.setIfInBounds_toArray, List.set_cons_zero, List.set_cons_succ]
                  refine wl_take (v := ?_) (by kernel_rfl) (by go_simp; exact rfl) ?_
                  simp only [Act.put, List.getElem_toArray, List.getElem_cons_zero, List.getElem_cons_succ, List.setIfInBounds_toArray, List.set_cons_zero, List.set_cons_succ]
                  refine wl_take (v := ?_) (by kernel_rfl) (by go_simp; exact rfl) ?_
                  simp only [Act.put, List.getElem_toArray, List.getElem_cons_zero, List.getElem_cons_succ, List.setIfInBounds_toArray, List.set_cons_zero, List.set_cons_succ]
                  refine wl_take (v := ?_) (by kernel_rfl) (by go_simp; exact rfl) ?_
                  simp only [Act.put, List.getElem_toArray, List.getElem_cons_zero, List.getElem_cons_succ, List.setIfInBounds_toArray, List.set_cons_zero, List.set_cons_succ]
                  refine wl_take (v := ?_) (by kernel_rfl) (by go_simp; exact rfl) ?_
                  simp only [Act.put, List.getElem_toArray, List.getElem_cons_zero, List.getElem_cons_succ, List.setIfInBounds_toArray, List.set_cons_zero, List.set_cons_succ]
                  refine wl_take (v := ?_) (by kernel_rfl) (by go_simp; exact rfl) ?_
                  simp only [Act.put, List.getElem_toArray, List.getElem_cons_zero, List.getElem_cons_succ, List.setIfInBounds_toArray, List.set_cons_zero, List.set_cons_succ]
                  refine wl_take (v := ?_) (by kernel_rfl) (by go_simp; exact rfl) ?_
                  simp only [Act.put, List.getElem_toArray, List.getElem_cons_zero, List.getElem_cons_succ, List.setIfInBounds_toArray, List.set_cons_zero, List.set_cons_succ]
                  refine wl_take (v := ?_) (by kernel_rfl) (by go_simp; exact rfl) ?_
                  simp only [Act.put, List.getElem_toArray, List.getElem_cons_zero, List.getElem_cons_succ, List.setIfInBounds_toArray, List.set_cons_zero, List.set_cons_succ]
                  refine ⟨?_⟩
                  go_wp2
                  go_ret
                  exact ⟨by rw [HF.out]; first | rfl | (simp; omega) | simp_all, HBB.out⟩
              · skip
                have HF : Hid ((viewP n v).isSome = false) := (show _ = _ from by rw [hfin, decide_eq_false (by omega)])
                have f4b : (ic == x.e) = false := by rw [beq_eq_false_iff_ne]; exact f4
                clear hfin
                go_wp2_with (first
                  | (refine at_load 115 (.tmp 59) rfl ?_; refine load_mid 115 (.tmp 59) HG.out _ Try.underlying115 rfl (by rw [ints_len]; exact info_mb) rfl rfl rfl ?_)
                  | (refine at_store 115 (.tmp 8) (.tmp 60) rfl ?_; refine store_mid 115 (.tmp 8) (.tmp 60) (xs := x.li) HA1.out info_mb rfl rfl rfl rfl ?_; rw [hV])
                  | (refine wl_at 61 rfl ?_)
                  | fail)
                refine wl_take (v := ?_) (by kernel_rfl) (by go_simp; exact rfl) ?_
                simp only [Act.put, List.getElem_toArray, List.getElem_cons_zero, List.getElem_cons_succ, List.setIfInBounds_toArray, List.set_cons_zero, List.set_cons_succ]
                refine wl_take (v := ?_) (by kernel_rfl) (by go_simp; exact rfl) ?_
                simp only [Act.put, List.getElem_toArray, List.getElem_cons_zero, List.getElem_cons_succ, List.setIfInBounds_toArray, List.set_cons_zero, List.set_cons_succ]
                refine wl_take (v := ?_) (by kernel_rfl) (by go_simp; exact rfl) ?_
                simp only [Act.put, List.getElem_toArray, List.getElem_cons_zero, List.getElem_cons_succ, List.setIfInBounds_toArray, List.set_cons_zero, List.set_cons_succ]
                refine wl_take (v := .bool true) (by kernel_rfl) (by (go_simp <;> omega)) ?_
                simp only [Act.put, List.getElem_toArray, List.getElem_cons_zero, List.getElem_cons_succ, List.setIfInBounds_toArray, List.set_cons_zero, List.set_cons_succ]
                refine wl_take (v := ?_) (by kernel_rfl) (by go_simp; exact rfl) ?_
                simp only [Act.put, List.getElem_toArray, List.getElem_cons_zero, List.getElem_cons_succ, List.setIfInBounds_toArray, List.set_cons_zero, List.set_cons_succ]
                refine wl_take (v := ?_) (by kernel_rfl) (by go_simp; exact rfl) ?_
                simp only [Act.put, List.getElem_toArray, List.getElem_cons_zero, List.getElem_cons_succ, List.setIfInBounds_toArray, List.set_cons_zero, List.set_cons_succ]
                refine wl_take (v := ?_) (by kernel_rfl) (by go_simp; exact rfl) ?_
                simp only [Act.put, List.getElem_toArray, List.getElem_cons_zero, List.getElem_cons_succ, List.setIfInBounds_toArray, List.set_cons_zero, List.set_cons_succ]
                refine wl_take (v := ?_) (by kernel_rfl) (by go_simp; exact rfl) ?_
                simp only [Act.put, List.getElem_toArray, List.getElem_cons_zero, List.getElem_cons_succ, List.setIfInBounds_toArray, List.set_cons_zero, List.set_cons_succ]
                refine wl_take (v := .bool true) (by kernel_rfl) (by (go_simp <;> omega)) ?_
                simp only [Act.put, List.getElem_toArray, List.getElem_cons_zero, List.getElem_cons_succ, List.setIfInBounds_toArray, List.set_cons_zero, List.set_cons_succ]
                refine wl_take (v := ?_) (by kernel_rfl) (by go_simp; exact rfl) ?_
                simp only [Act.put, List.getElem_toArray, List.getElem_cons_zero, List.getElem_cons_succ, List.setIfInBounds_toArray, List.set_cons_zero, List.set_cons_succ]
                refine wl_take (v := ?_) (by kernel_rfl) (by go_simp; exact rfl) ?_
                simp only [Act.put, List.getElem_toArray, List.getElem_cons_zero, List.getElem_cons_succ, List.setIfInBounds_toArray, List.set_cons_zero, List.set_cons_succ]
                refine wl_take (v := ?_) (by kernel_rfl) (by go_simp; exact rfl) ?_
                simp only [Act.put, List.getElem_toArray, List.getElem_cons_zero, List.getElem_cons_succ, List.setIfInBounds_toArray, List.set_cons_zero, List.set_cons_succ]
                refine wl_take (v := ?_) (by kernel_rfl) (by go_simp; exact rfl) ?_
                simp only [Act.put, List.getElem_toArray, List.getElem_cons_zero, List.getElem_cons_succ, List.setIfInBounds_toArray, List.set_cons_zero, List.set_cons_succ]
                refine wl_take (v := ?_) (by kernel_rfl) (by go_simp; exact rfl) ?_
                simp only [Act.put, List.getElem_toArray, List.getElem_cons_zero, List.getElem_cons_succ, List.setIfInBounds_toArray, List.set_cons_zero, List.set_cons_succ]
                refine wl_take (v := ?_) (by kernel_rfl) (by go_simp; exact rfl) ?_
                simp only [Act.put, List.getElem_toArray, List.getElem_cons_zero, List.getElem_cons_succ, List.setIfInBounds_toArray, List.set_cons_zero, List.set_cons_succ]
                refine wl_take (v := ?_) (by kernel_rfl) (by go_simp; exact rfl) ?_
                simp only [Act.put, List.getElem_toArray, List.getElem_cons_zero, List.getElem_cons_succ, List.setIfInBounds_toArray, List.set_cons_zero, List.set_cons_succ]
                refine wl_take (v := ?_) (by kernel_rfl) (by go_simp; exact rfl) ?_
                simp only [Act.put, List.getElem_toArray, List.getElem_cons_zero, List.getElem_cons_succ, List.setIfInBounds_toArray, List.set_cons_zero, List.set_cons_succ]
                refine wl_take (v := ?_) (by kernel_rfl) (by go_simp; exact rfl) ?_
                simp only [Act.put, List.getElem_toArray, List.getElem_cons_zero, List.getElem_cons_succ, List.setIfInBounds_toArray, List.set_cons_zero, List.set_cons_succ]
                refine wl_take (v := ?_) (by kernel_rfl) (by go_simp; exact rfl) ?_
                simp only [Act.put, List.getElem_toArray, List.getElem_cons_zero, List.getElem_cons_succ, List.setIfInBounds_toArray, List.set_cons_zero, List.set_cons_succ]
                refine wl_take (v := ?_) (by kernel_rfl) (by go_simp; exact rfl) ?_
                simp only [Act.put, List.getElem_toArray, List.getElem_cons_zero, List.getElem_cons_succ, List.setIfInBounds_toArray, List.set_cons_zero, List.set_cons_succ]
                refine wl_take (v := ?_) (by kernel_rfl) (by go_simp; exact rfl) ?_
                simp only [Act.put, List.getElem_toArray, List.getElem_cons_zero, List.getElem_cons_succ, List.setIfInBounds_toArray, List.set_cons_zero, List.set_cons_succ]
                refine wl_take (v := ?_) (by kernel_rfl) (by go_simp; exact rfl) ?_
                simp only [Act.put, List.getElem_toArray, List.getElem_cons_zero, List.getElem_cons_succ, List.setIfInBounds_toArray, List.set_cons_zero, List.set_cons_succ]
                refine wl_take (v := ?_) (by kernel_rfl) (by go_simp; exact rfl) ?_
                simp only [Act.put, List.getElem_toArray, List.getElem_cons_zero, List.getElem_cons_succ, List.setIfInBounds_toArray, List.set_cons_zero, List.set_cons_succ]
                refine wl_take (v := ?_) (by kernel_rfl) (by go_simp; exact rfl) ?_
                simp only [Act.put, List.getElem_toArray, List.getElem_cons_zero, List.getElem_cons_succ, List.setIfInBounds_toArray, List.set_cons_zero, List.set_cons_succ]
                refine wl_take (v := ?_) (by kernel_rfl) (by go_simp; exact rfl) ?_
                simp only [Act.put, List.getElem_toArray, List.getElem_cons_zero, List.getElem_cons_succ, List.setIfInBounds_toArray, List.set_cons_zero, List.set_cons_succ]
                refine wl_take (v := ?_) (by kernel_rfl) (by go_simp; exact rfl) ?_
                simp only [Act.put, List.getElem_toArray, List.getElem_cons_zero, List.getElem_cons_succ, List.setIfInBounds_toArray, List.set_cons_zero, List.set_cons_succ]
                refine wl_take (v := ?_) (by kernel_rfl) (by go_simp; exact rfl) ?_
                simp only [Act.put, List.getElem_toArray, List.getElem_cons_zero, List.getElem_cons_succ, List.setIfInBounds_toArray, List.set_cons_zero, List.set_cons_succ]
                refine wl_skip (by kernel_rfl) ?_
                simp only [Act.put, List.getElem_toArray, List.getElem_cons_zero, List.getElem_cons_succ, List.setIfInBounds_toArray, List.set_cons_zero, List.set_cons_succ]
                refine wl_skip (by kernel_rfl) ?_
                simp only [Act.put, List.getElem_toArray, List.getElem_cons_zero, List.getElem_cons_succ, List.setIfInBounds_toArray, List.set_cons_zero, List.set_cons_succ]
                refine wl_skip (by kernel_rfl) ?_
                simp only [Act.put, List.getElem_toArray, List.getElem_cons_zero, List.getElem_cons_succ, List.setIfInBounds_toArray, List.set_cons_zero, List.set_cons_succ]
                refine wl_skip (by kernel_rfl) ?_
                simp only [Act.put, List.getElem_toArray, List.getElem_cons_zero, List.getElem_cons_succ, List.setIfInBounds_toArray, List.set_cons_zero, List.set_cons_succ]
                refine wl_skip (by kernel_rfl) ?_
                simp only [Act.put, List.getElem_toArray, List.getElem_cons_zero, List.getElem_cons_succ, List.setIfInBounds_toArray, List.set_cons_zero, List.set_cons_succ]
                refine wl_skip (by kernel_rfl) ?_
                simp only [Act.put, List.getElem_toArray, List.getElem_cons_zero, List.getElem_cons_succ, List.setIfInBounds_toArray, List.set_cons_zero, List.set_cons_succ]
                refine wl_take (v := ?_) (by kernel_rfl) (by go_simp; exact rfl) ?_
                simp only [Act.put, List.getElem_toArray, List.getElem_cons_zero, List.getElem_cons_succ, List.setIfInBounds_toArray, List.set_cons_zero, List.set_cons_succ]
                refine wl_take (v := ?_) (by kernel_rfl) (by go_simp; exact rfl) ?_
                simp only [Act.put, List.getElem_toArray, List.getElem_cons_zero, List.getElem_cons_succ, List.setIfInBounds_toArray, List.set_cons_zero, List.set_cons_succ]
                refine ⟨?_⟩
                go_wp2
                go_ret
                exact ⟨by rw [HF.out]; first | rfl | (simp; omega) | simp_all, HBB.out⟩
            · skip
              have HF : Hid ((viewP n v).isSome = false) := (show _ = _ from by rw [hfin, decide_eq_false (by omega)])
              have f3b : (ld == x.p) = false := by rw [beq_eq_false_iff_ne]; exact f3
              clear hfin
              go_wp2_with (first
                | (refine at_load 115 (.tmp 59) rfl ?_; refine load_mid 115 (.tmp 59) HG.out _ Try.underlying115 rfl (by rw [ints_len]; exact info_mb) rfl rfl rfl ?_)
                | (refine at_store 115 (.tmp 8) (.tmp 60) rfl ?_; refine store_mid 115 (.tmp 8) (.tmp 60) (xs := x.li) HA1.out info_mb rfl rfl rfl rfl ?_; rw [hV])
                | (refine wl_at 61 rfl ?_)
                | fail)
              refine wl_take (v := ?_) (by kernel_rfl) (by go_simp; exact rfl) ?_
              simp only [Act.put, List.getElem_toArray, List.getElem_cons_zero, List.getElem_cons_succ, List.setIfInBounds_toArray, List.set_cons_zero, List.set_cons_succ]
              refine wl_take (v := ?_) (by kernel_rfl) (by go_simp; exact rfl) ?_
              simp only [Act.put, List.getElem_toArray, List.getElem_cons_zero, List.getElem_cons_succ, List.setIfInBounds_toArray, List.set_cons_zero, List.set_cons_succ]
              refine wl_take (v := ?_) (by kernel_rfl) (by go_simp; exact rfl) ?_
              simp only [Act.put, List.getElem_toArray, List.getElem_cons_zero, List.getElem_cons_succ, List.setIfInBounds_toArray, List.set_cons_zero, List.set_cons_succ]
              refine wl_take (v := .bool true) (by kernel_rfl) (by (go_simp <;> omega)) ?_
              simp only [Act.put, List.getElem_toArray, List.getElem_cons_zero, List.getElem_cons_succ, List.setIfInBounds_toArray, List.set_cons_zero, List.set_cons_succ]
              refine wl_take (v := ?_) (by kernel_rfl) (by go_simp; exact rfl) ?_
              simp only [Act.put, List.getElem_toArray, List.getElem_cons_zero, List.getElem_cons_succ, List.setIfInBounds_toArray, List.set_cons_zero, List.set_cons_succ]
              refine wl_take (v := ?_) (by kernel_rfl) (by go_simp; exact rfl) ?_
              simp only [Act.put, List.getElem_toArray, List.getElem_cons_zero, List.getElem_cons_succ, List.setIfInBounds_toArray, List.set_cons_zero, List.set_cons_succ]
              refine wl_take (v := ?_) (by kernel_rfl) (by go_simp; exact rfl) ?_
              simp only [Act.put, List.getElem_toArray, List.getElem_cons_zero, List.getElem_cons_succ, List.setIfInBounds_toArray, List.set_cons_zero, List.set_cons_succ]
              refine wl_take (v := ?_) (by kernel_rfl) (by go_simp; exact rfl) ?_
              simp only [Act.put, List.getElem_toArray, List.getElem_cons_zero, List.getElem_cons_succ, List.setIfInBounds_toArray, List.set_cons_zero, List.set_cons_succ]
              refine wl_take (v := .bool true) (by kernel_rfl) (by (go_simp <;> omega)) ?_
              simp only [Act.put, List.getElem_toArray, List.getElem_cons_zero, List.getElem_cons_succ, List.setIfInBounds_toArray, List.set_cons_zero, List.set_cons_succ]
              refine wl_take (v := ?_) (by kernel_rfl) (by go_simp; exact rfl) ?_
              simp only [Act.put, List.getElem_toArray, List.getElem_cons_zero, List.getElem_cons_succ, List.setIfInBounds_toArray, List.set_cons_zero, List.set_cons_succ]
              refine wl_take (v := ?_) (by kernel_rfl) (by go_simp; exact rfl) ?_
              simp only [Act.put, List.getElem_toArray, List.getElem_cons_zero, List.getElem_cons_succ, List.setIfInBounds_toArray, List.set_cons_zero, List.set_cons_succ]
              refine wl_take (v := ?_) (by kernel_rfl) (by go_simp; exact rfl) ?_
              simp only [Act.put, List.getElem_toArray, List.getElem_cons_zero, List.getElem_cons_succ, List.setIfInBounds_toArray, List.set_cons_zero, List.set_cons_succ]
              refine wl_take (v := ?_) (by kernel_rfl) (by go_simp; exact rfl) ?_
              simp only [Act.put, List.getElem_toArray, List.getElem_cons_zero, List.getElem_cons_succ, List.setIfInBounds_toArray, List.set_cons_zero, List.set_cons_succ]
              refine wl_take (v := ?_) (by kernel_rfl) (by go_simp; exact rfl) ?_
              simp only [Act.put, List.getElem_toArray, List.getElem_cons_zero, List.getElem_cons_succ, List.setIfInBounds_toArray, List.set_cons_zero, List.set_cons_succ]
              refine wl_take (v := ?_) (by kernel_rfl) (by go_simp; exact rfl) ?_
              simp only [Act.put, List.getElem_toArray, List.getElem_cons_zero, List.getElem_cons_succ, List.setIfInBounds_toArray, List.set_cons_zero, List.set_cons_succ]
              refine wl_take (v := ?_) (by kernel_rfl) (by go_simp; exact rfl) ?_
              simp only [Act.put, List.getElem_toArray, List.getElem_cons_zero, List.getElem_cons_succ, List.setIfInBounds_toArray, List.set_cons_zero, List.set_cons_succ]
              refine wl_take (v := ?_) (by kernel_rfl) (by go_simp; exact rfl) ?_
              simp only [Act.put, List.getElem_toArray, List.getElem_cons_zero, List.getElem_cons_succ, List.setIfInBounds_toArray, List.set_cons_zero, List.set_cons_succ]
              refine wl_take (v := ?_) (by kernel_rfl) (by go_simp; exact rfl) ?_
              simp only [Act.put, List.getElem_toArray, List.getElem_cons_zero, List.getElem_cons_succ, List.setIfInBounds_toArray, List.set_cons_zero, List.set_cons_succ]
              refine wl_take (v := ?_) (by kernel_rfl) (by go_simp; exact rfl) ?_
              simp only [Act.put, List.getElem_toArray, List.getElem_cons_zero, List.getElem_cons_succ, List.setIfInBounds_toArray, List.set_cons_zero, List.set_cons_succ]
              refine wl_skip (by kernel_rfl) ?_
              simp only [Act.put, List.getElem_toArray, List.getElem_cons_zero, List.getElem_cons_succ, List.setIfInBounds_toArray, List.set_cons_zero, List.set_cons_succ]
              refine wl_skip (by kernel_rfl) ?_
              simp only [Act.put, List.getElem_toArray, List.getElem_cons_zero, List.getElem_cons_succ, List.setIfInBounds_toArray, List.set_cons_zero, List.set_cons_succ]
              refine wl_skip (by kernel_rfl) ?_
              simp only [Act.put, List.getElem_toArray, List.getElem_cons_zero, List.getElem_cons_succ, List.setIfInBounds_toArray, List.set_cons_zero, List.set_cons_succ]
              refine wl_skip (by kernel_rfl) ?_
              simp only [Act.put, List.getElem_toArray, List.getElem_cons_zero, List.getElem_cons_succ, List.setIfInBounds_toArray, List.set_cons_zero, List.set_cons_succ]
              refine wl_skip (by kernel_rfl) ?_
              simp only [Act.put, List.getElem_toArray, List.getElem_cons_zero, List.getElem_cons_succ, List.setIfInBounds_toArray, List.set_cons_zero, List.set_cons_succ]
              refine wl_skip (by kernel_rfl) ?_
              simp only [Act.put, List.getElem_toArray, List.getElem_cons_zero, List.getElem_cons_succ, List.setIfInBounds_toArray, List.set_cons_zero, List.set_cons_succ]
              refine wl_take (v := ?_) (by kernel_rfl) (by go_simp; exact rfl) ?_
              simp only [Act.put, List.getElem_toArray, List.getElem_cons_zero, List.getElem_cons_succ, List.setIfInBounds_toArray, List.set_cons_zero, List.set_cons_succ]
              refine wl_take (v := ?_) (by kernel_rfl) (by go_simp; exact rfl) ?_
              simp only [Act.put, List.getElem_toArray, List.getElem_cons_zero, List.getElem_cons_succ, List.setIfInBounds_toArray, List.set_cons_zero, List.set_cons_succ]
              refine wl_skip (by kernel_rfl) ?_
              simp only [Act.put, List.getElem_toArray, List.getElem_cons_zero, List.getElem_cons_succ, List.setIfInBounds_toArray, List.set_cons_zero, List.set_cons_succ]
              refine wl_skip (by kernel_rfl) ?_
              simp only [Act.put, List.getElem_toArray, List.getElem_cons_zero, List.getElem_cons_succ, List.setIfInBounds_toArray, List.set_cons_zero, List.set_cons_succ]
              refine wl_skip (by kernel_rfl) ?_
              simp only [Act.put, List.getElem_toArray, List.getElem_cons_zero, List.getElem_cons_succ, List.setIfInBounds_toArray, List.set_cons_zero, List.set_cons_succ]
              refine wl_skip (by kernel_rfl) ?_
              simp only [Act.put, List.getElem_toArray, List.getElem_cons_zero, List.getElem_cons_succ, List.setIfInBounds_toArray, List.set_cons_zero, List.set_cons_succ]
              refine wl_skip (by kernel_rfl) ?_
              simp only [Act.put, List.getElem_toArray, List.getElem_cons_zero, List.getElem_cons_succ, List.setIfInBounds_toArray, List.set_cons_zero, List.set_cons_succ]
              refine wl_skip (by kernel_rfl) ?_
              simp only [Act.put, List.getElem_toArray, List.getElem_cons_zero, List.getElem_cons_succ, List.setIfInBounds_toArray, List.set_cons_zero, List.set_cons_succ]
              refine wl_take (v := ?_) (by kernel_rfl) (by go_simp; exact rfl) ?_
              simp only [Act.put, List.getElem_toArray, List.getElem_cons_zero, List.getElem_cons_succ, List.setIfInBounds_toArray, List.set_cons_zero, List.set_cons_succ]
              refine wl_take (v := ?_) (by kernel_rfl) (by go_simp; exact rfl) ?_
              simp only [Act.put, List.getElem_toArray, List.getElem_cons_zero, List.getElem_cons_succ, List.setIfInBounds_toArray, List.set_cons_zero, List.set_cons_succ]
              refine ⟨?_⟩
              go_wp2
              go_ret
              exact ⟨by rw [HF.out]; first | rfl | (simp; omega) | simp_all, HBB.out⟩
          · skip
            have HF : Hid ((viewP n v).isSome = false) := (show _ = _ from by rw [hfin, decide_eq_false (by omega)])
            clear hfin
            go_wp2_with (first
              | (refine at_load 115 (.tmp 59) rfl ?_; refine load_mid 115 (.tmp 59) HG.out _ Try.underlying115 rfl (by rw [ints_len]; exact info_mb) rfl rfl rfl ?_)
              | (refine at_store 115 (.tmp 8) (.tmp 60) rfl ?_; refine store_mid 115 (.tmp 8) (.tmp 60) (xs := x.li) HA1.out info_mb rfl rfl rfl rfl ?_; rw [hV])
              | (refine wl_at 61 rfl ?_)
              | fail)
            refine wl_take (v := ?_) (by kernel_rfl) (by go_simp; exact rfl) ?_
            simp only [Act.put, List.getElem_toArray, List.getElem_cons_zero, List.getElem_cons_succ, List.setIfInBounds_toArray, List.set_cons_zero, List.set_cons_succ]
            refine wl_take (v := ?_) (by kernel_rfl) (by go_simp; exact rfl) ?_
            simp only [Act.put, List.getElem_toArray, List.getElem_cons_zero, List.getElem_cons_succ, List.setIfInBounds_toArray, List.set_cons_zero, List.set_cons_succ]
            refine wl_take (v := ?_) (by kernel_rfl) (by go_simp; exact rfl) ?_
            simp only [Act.put, List.getElem_toArray, List.getElem_cons_zero, List.getElem_cons_succ, List.setIfInBounds_toArray, List.set_cons_zero, List.set_cons_succ]
            refine wl_take (v := .bool true) (by kernel_rfl) (by (go_simp <;> omega)) ?_
            simp only [Act.put, List.getElem_toArray, List.getElem_cons_zero, List.getElem_cons_succ, List.setIfInBounds_toArray, List.set_cons_zero, List.set_cons_succ]
            refine wl_take (v := ?_) (by kernel_rfl) (by go_simp; exact rfl) ?_
            simp only [Act.put, List.getElem_toArray, List.getElem_cons_zero, List.getElem_cons_succ, List.setIfInBounds_toArray, List.set_cons_zero, List.set_cons_succ]
            refine wl_take (v := ?_) (by kernel_rfl) (by go_simp; exact rfl) ?_
            simp only [Act.put, List.getElem_toArray, List.getElem_cons_zero, List.getElem_cons_succ, List.setIfInBounds_toArray, List.set_cons_zero, List.set_cons_succ]
            refine wl_take (v := ?_) (by kernel_rfl) (by go_simp; exact rfl) ?_
            simp only [Act.put, List.getElem_toArray, List.getElem_cons_zero, List.getElem_cons_succ, List.setIfInBounds_toArray, List.set_cons_zero, List.set_cons_succ]
            refine wl_take (v := ?_) (by kernel_rfl) (by go_simp; exact rfl) ?_
            simp only [Act.put, List.getElem_toArray, List.getElem_cons_zero, List.getElem_cons_succ, List.setIfInBounds_toArray, List.set_cons_zero, List.set_cons_succ]
            refine wl_take (v := .bool false) (by kernel_rfl) (by (go_simp <;> omega)) ?_
            simp only [Act.put, List.getElem_toArray, List.getElem_cons_zero, List.getElem_cons_succ, List.setIfInBounds_toArray, List.set_cons_zero, List.set_cons_succ]
            refine wl_take (v := ?_) (by kernel_rfl) (by go_simp; exact rfl) ?_
            simp only [Act.put, List.getElem_toArray, List.getElem_cons_zero, List.getElem_cons_succ, List.setIfInBounds_toArray, List.set_cons_zero, List.set_cons_succ]
            refine wl_take (v := ?_) (by kernel_rfl) (by go_simp; exact rfl) ?_
            simp only [Act.put, List.getElem_toArray, List.getElem_cons_zero, List.getElem_cons_succ, List.setIfInBounds_toArray, List.set_cons_zero, List.set_cons_succ]
            refine wl_skip (by kernel_rfl) ?_
            simp only [Act.put, List.getElem_toArray, List.getElem_cons_zero, List.getElem_cons_succ, List.setIfInBounds_toArray, List.set_cons_zero, List.set_cons_succ]
            refine wl_skip (by kernel_rfl) ?_
            simp only [Act.put, List.getElem_toArray, List.getElem_cons_zero, List.getElem_cons_succ, List.setIfInBounds_toArray, List.set_cons_zero, List.set_cons_succ]
            refine wl_skip (by kernel_rfl) ?_
            simp only [Act.put, List.getElem_toArray, List.getElem_cons_zero, List.getElem_cons_succ, List.setIfInBounds_toArray, List.set_cons_zero, List.set_cons_succ]
            refine wl_skip (by kernel_rfl) ?_
            simp only [Act.put, List.getElem_toArray, List.getElem_cons_zero, List.getElem_cons_succ, List.setIfInBounds_toArray, List.set_cons_zero, List.set_cons_succ]
            refine wl_skip (by kernel_rfl) ?_
            simp only [Act.put, List.getElem_toArray, List.getElem_cons_zero, List.getElem_cons_succ, List.setIfInBounds_toArray, List.set_cons_zero, List.set_cons_succ]
            refine wl_skip (by kernel_rfl) ?_
            simp only [Act.put, List.getElem_toArray, List.getElem_cons_zero, List.getElem_cons_succ, List.setIfInBounds_toArray, List.set_cons_zero, List.set_cons_succ]
            refine wl_take (v := ?_) (by kernel_rfl) (by go_simp; exact rfl) ?_
            simp only [Act.put, List.getElem_toArray, List.getElem_cons_zero, List.getElem_cons_succ, List.setIfInBounds_toArray, List.set_cons_zero, List.set_cons_succ]
            refine wl_take (v := ?_) (by kernel_rfl) (by go_simp; exact rfl) ?_
            simp only [Act.put, List.getElem_toArray, List.getElem_cons_zero, List.getElem_cons_succ, List.setIfInBounds_toArray, List.set_cons_zero, List.set_cons_succ]
            refine wl_skip (by kernel_rfl) ?_
            simp only [Act.put, List.getElem_toArray, List.getElem_cons_zero, List.getElem_cons_succ, List.setIfInBounds_toArray, List.set_cons_zero, List.set_cons_succ]
            refine wl_skip (by kernel_rfl) ?_
            simp only [Act.put, List.getElem_toArray, List.getElem_cons_zero, List.getElem_cons_succ, List.setIfInBounds_toArray, List.set_cons_zero, List.set_cons_succ]
            refine wl_skip (by kernel_rfl) ?_
            simp only [Act.put, List.getElem_toArray, List.getElem_cons_zero, List.getElem_cons_succ, List.setIfInBounds_toArray, List.set_cons_zero, List.set_cons_succ]
            refine wl_skip (by kernel_rfl) ?_
            simp only [Act.put, List.getElem_toArray, List.getElem_cons_zero, List.getElem_cons_succ, List.setIfInBounds_toArray, List.set_cons_zero, List.set_cons_succ]
            refine wl_skip (by kernel_rfl) ?_
            simp only [Act.put, List.getElem_toArray, List.getElem_cons_zero, List.getElem_cons_succ, List.setIfInBounds_toArray, List.set_cons_zero, List.set_cons_succ]
            refine wl_skip (by kernel_rfl) ?_
            simp only [Act.put, List.getElem_toArray, List.getElem_cons_zero, List.getElem_cons_succ, List.setIfInBounds_toArray, List.set_cons_zero, List.set_cons_succ]
            refine wl_take (v := ?_) (by kernel_rfl) (by go_simp; exact rfl) ?_
            simp only [Act.put, List.getElem_toArray, List.getElem_cons_zero, List.getElem_cons_succ, List.setIfInBounds_toArray, List.set_cons_zero, List.set_cons_succ]
            refine wl_take (v := ?_) (by kernel_rfl) (by go_simp; exact rfl) ?_
            simp only [Act.put, List.getElem_toArray, List.getElem_cons_zero, List.getElem_cons_succ, List.setIfInBounds_toArray, List.set_cons_zero, List.set_cons_succ]
            refine wl_skip (by kernel_rfl) ?_
            simp only [Act.put, List.getElem_toArray, List.getElem_cons_zero, List.getElem_cons_succ, List.setIfInBounds_toArray, List.set_cons_zero, List.set_cons_succ]
            refine wl_skip (by kernel_rfl) ?_
            simp only [Act.put, List.getElem_toArray, List.getElem_cons_zero, List.getElem_cons_succ, List.setIfInBounds_toArray, List.set_cons_zero, List.set_cons_succ]
            refine wl_skip (by kernel_rfl) ?_
            simp only [Act.put, List.getElem_toArray, List.getElem_cons_zero, List.getElem_cons_succ, List.setIfInBounds_toArray, List.set_cons_zero, List.set_cons_succ]
            refine wl_skip (by kernel_rfl) ?_
            simp only [Act.put, List.getElem_toArray, List.getElem_cons_zero, List.getElem_cons_succ, List.setIfInBounds_toArray, List.set_cons_zero, List.set_cons_succ]
            refine wl_skip (by kernel_rfl) ?_
            simp only [Act.put, List.getElem_toArray, List.getElem_cons_zero, List.getElem_cons_succ, List.setIfInBounds_toArray, List.set_cons_zero, List.set_cons_succ]
            refine wl_skip (by kernel_rfl) ?_
            simp only [Act.put, List.getElem_toArray, List.getElem_cons_zero, List.getElem_cons_succ, List.setIfInBounds_toArray, List.set_cons_zero, List.set_cons_succ]
            refine wl_take (v := ?_) (by kernel_rfl) (by go_simp; exact rfl) ?_
            simp only [Act.put, List.getElem_toArray, List.getElem_cons_zero, List.getElem_cons_succ, List.setIfInBounds_toArray, List.set_cons_zero, List.set_cons_succ]
            refine wl_take (v := ?_) (by kernel_rfl) (by go_simp; exact rfl) ?_
            simp only [Act.put, List.getElem_toArray, List.getElem_cons_zero, List.getElem_cons_succ, List.setIfInBounds_toArray, List.set_cons_zero, List.set_cons_succ]
            refine ⟨?_⟩
            go_wp2
            go_ret
            exact ⟨by rw [HF.out]; first | rfl | (simp; omega) | simp_all, HBB.out⟩
        · skip
          have HF : Hid ((viewP n v).isSome = false) := (show _ = _ from by rw [hfin, decide_eq_false (by omega)])
          clear hfin
          go_wp2_with (first
            | (refine at_load 115 (.tmp 59) rfl ?_; refine load_mid 115 (.tmp 59) HG.out _ Try.underlying115 rfl (by rw [ints_len]; exact info_mb) rfl rfl rfl ?_)
            | (refine at_store 115 (.tmp 8) (.tmp 60) rfl ?_; refine store_mid 115 (.tmp 8) (.tmp 60) (xs := x.li) HA1.out info_mb rfl rfl rfl rfl ?_; rw [hV])
            | (refine wl_at 61 rfl ?_)
            | fail)
          refine wl_take (v := ?_) (by kernel_rfl) (by go_simp; exact rfl) ?_
          simp only [Act.put, List.getElem_toArray, List.getElem_cons_zero, List.getElem_cons_succ, List.setIfInBounds_toArray, List.set_cons_zero, List.set_cons_succ]
          refine wl_take (v := ?_) (by kernel_rfl) (by go_simp; exact rfl) ?_
          simp only [Act.put, List.getElem_toArray, List.getElem_cons_zero, List.getElem_cons_succ, List.setIfInBounds_toArray, List.set_cons_zero, List.set_cons_succ]
          refine wl_take (v := ?_) (by kernel_rfl) (by go_simp; exact rfl) ?_
          simp only [Act.put, List.getElem_toArray, List.getElem_cons_zero, List.getElem_cons_succ, List.setIfInBounds_toArray, List.set_cons_zero, List.set_cons_succ]
          refine wl_take (v := .bool false) (by kernel_rfl) (by (go_simp <;> omega)) ?_
          simp only [Act.put, List.getElem_toArray, List.getElem_cons_zero, List.getElem_cons_succ, List.setIfInBounds_toArray, List.set_cons_zero, List.set_cons_succ]
          refine wl_take (v := ?_) (by kernel_rfl) (by go_simp; exact rfl) ?_
          simp only [Act.put, List.getElem_toArray, List.getElem_cons_zero, List.getElem_cons_succ, List.setIfInBounds_toArray, List.set_cons_zero, List.set_cons_succ]
          refine wl_skip (by kernel_rfl) ?_
          simp only [Act.put, List.getElem_toArray, List.getElem_cons_zero, List.getElem_cons_succ, List.setIfInBounds_toArray, List.set_cons_zero, List.set_cons_succ]
          refine wl_skip (by kernel_rfl) ?_
          simp only [Act.put, List.getElem_toArray, List.getElem_cons_zero, List.getElem_cons_succ, List.setIfInBounds_toArray, List.set_cons_zero, List.set_cons_succ]
          refine wl_skip (by kernel_rfl) ?_
          simp only [Act.put, List.getElem_toArray, List.getElem_cons_zero, List.getElem_cons_succ, List.setIfInBounds_toArray, List.set_cons_zero, List.set_cons_succ]
          refine wl_skip (by kernel_rfl) ?_
          simp only [Act.put, List.getElem_toArray, List.getElem_cons_zero, List.getElem_cons_succ, List.setIfInBounds_toArray, List.set_cons_zero, List.set_cons_succ]
          refine wl_take (v := ?_) (by kernel_rfl) (by go_simp; exact rfl) ?_
          simp only [Act.put, List.getElem_toArray, List.getElem_cons_zero, List.getElem_cons_succ, List.setIfInBounds_toArray, List.set_cons_zero, List.set_cons_succ]
          refine wl_take (v := ?_) (by kernel_rfl) (by go_simp; exact rfl) ?_
          simp only [Act.put, List.getElem_toArray, List.getElem_cons_zero, List.getElem_cons_succ, List.setIfInBounds_toArray, List.set_cons_zero, List.set_cons_succ]
          refine wl_skip (by kernel_rfl) ?_
          simp only [Act.put, List.getElem_toArray, List.getElem_cons_zero, List.getElem_cons_succ, List.setIfInBounds_toArray, List.set_cons_zero, List.set_cons_succ]
          refine wl_skip (by kernel_rfl) ?_
          simp only [Act.put, List.getElem_toArray, List.getElem_cons_zero, List.getElem_cons_succ, List.setIfInBounds_toArray, List.set_cons_zero, List.set_cons_succ]
          refine wl_skip (by kernel_rfl) ?_
          simp only [Act.put, List.getElem_toArray, List.getElem_cons_zero, List.getElem_cons_succ, List.setIfInBounds_toArray, List.set_cons_zero, List.set_cons_succ]
          refine wl_skip (by kernel_rfl) ?_
          simp only [Act.put, List.getElem_toArray, List.getElem_cons_zero, List.getElem_cons_succ, List.setIfInBounds_toArray, List.set_cons_zero, List.set_cons_succ]
          refine wl_skip (by kernel_rfl) ?_
          simp only [Act.put, List.getElem_toArray, List.getElem_cons_zero, List.getElem_cons_succ, List.setIfInBounds_toArray, List.set_cons_zero, List.set_cons_succ]
          refine wl_skip (by kernel_rfl) ?_
          simp only [Act.put, List.getElem_toArray, List.getElem_cons_zero, List.getElem_cons_succ, List.setIfInBounds_toArray, List.set_cons_zero, List.set_cons_succ]
          refine wl_take (v := ?_) (by kernel_rfl) (by go_simp; exact rfl) ?_
          simp only [Act.put, List.getElem_toArray, List.getElem_cons_zero, List.getElem_cons_succ, List.setIfInBounds_toArray, List.set_cons_zero, List.set_cons_succ]
          refine wl_take (v := ?_) (by kernel_rfl) (by go_simp; exact rfl) ?_
          simp only [Act.put, List.getElem_toArray, List.getElem_cons_zero, List.getElem_cons_succ, List.setIfInBounds_toArray, List.set_cons_zero, List.set_cons_succ]
          refine wl_skip (by kernel_rfl) ?_
          simp only [Act.put, List.getElem_toArray, List.getElem_cons_zero, List.getElem_cons_succ, List.setIfInBounds_toArray, List.set_cons_zero, List.set_cons_succ]
          refine wl_skip (by kernel_rfl) ?_
          simp only [Act.put, List.getElem_toArray, List.getElem_cons_zero, List.getElem_cons_succ, List.setIfInBounds_toArray, List.set_cons_zero, List.set_cons_succ]
          refine wl_skip (by kernel_rfl) ?_
          simp only [Act.put, List.getElem_toArray, List.getElem_cons_zero, List.getElem_cons_succ, List.setIfInBounds_toArray, List.set_cons_zero, List.set_cons_succ]
          refine wl_skip (by kernel_rfl) ?_
          simp only [Act.put, List.getElem_toArray, List.getElem_cons_zero, List.getElem_cons_succ, List.setIfInBounds_toArray, List.set_cons_zero, List.set_cons_succ]
          refine wl_skip (by kernel_rfl) ?_
          simp only [Act.put, List.getElem_toArray, List.getElem_cons_zero, List.getElem_cons_succ, List.setIfInBounds_toArray, List.set_cons_zero, List.set_cons_succ]
          refine wl_skip (by kernel_rfl) ?_
          simp only [Act.put, List.getElem_toArray, List.getElem_cons_zero, List.getElem_cons_succ, List.setIfInBounds_toArray, List.set_cons_zero, List.set_cons_succ]
          refine wl_take (v := ?_) (by kernel_rfl) (by go_simp; exact rfl) ?_
          simp only [Act.put, List.getElem_toArray, List.getElem_cons_zero, List.getElem_cons_succ, List.setIfInBounds_toArray, List.set_cons_zero, List.set_cons_succ]
          refine wl_take (v := ?_) (by kernel_rfl) (by go_simp; exact rfl) ?_
          simp only [Act.put, List.getElem_toArray, List.getElem_cons_zero, List.getElem_cons_succ, List.setIfInBounds_toArray, List.set_cons_zero, List.set_cons_succ]
          refine wl_skip (by kernel_rfl) ?_
          simp only [Act.put, List.getElem_toArray, List.getElem_cons_zero, List.getElem_cons_succ, List.setIfInBounds_toArray, List.set_cons_zero, List.set_cons_succ]
          refine wl_skip (by kernel_rfl) ?_
          simp only [Act.put, List.getElem_toArray, List.getElem_cons_zero, List.getElem_cons_succ, List.setIfInBounds_toArray, List.set_cons_zero, List.set_cons_succ]
          refine wl_skip (by kernel_rfl) ?_
          simp only [Act.put, List.getElem_toArray, List.getElem_cons_zero, List.getElem_cons_succ, List.setIfInBounds_toArray, List.set_cons_zero, List.set_cons_succ]
          refine wl_skip (by kernel_rfl) ?_
          simp only [Act.put, List.getElem_toArray, List.getElem_cons_zero, List.getElem_cons_succ, List.setIfInBounds_toArray, List.set_cons_zero, List.set_cons_succ]
          refine wl_skip (by kernel_rfl) ?_
          simp only [Act.put, List.getElem_toArray, List.getElem_cons_zero, List.getElem_cons_succ, List.setIfInBounds_toArray, List.set_cons_zero, List.set_cons_succ]
          refine wl_skip (by kernel_rfl) ?_
          simp only [Act.put, List.getElem_toArray, List.getElem_cons_zero, List.getElem_cons_succ, List.setIfInBounds_toArray, List.set_cons_zero, List.set_cons_succ]
          refine wl_take (v := ?_) (by kernel_rfl) (by go_simp; exact rfl) ?_
          simp only [Act.put, List.getElem_toArray, List.getElem_cons_zero, List.getElem_cons_succ, List.setIfInBounds_toArray, List.set_cons_zero, List.set_cons_succ]
          refine wl_take (v := ?_) (by kernel_rfl) (by go_simp; exact rfl) ?_
          simp only [Act.put, List.getElem_toArray, List.getElem_cons_zero, List.getElem_cons_succ, List.setIfInBounds_toArray, List.set_cons_zero, List.set_cons_succ]
          refine ⟨?_⟩
          go_wp2
          go_ret
          exact ⟨by rw [HF.out]; first | rfl | (simp; omega) | simp_all, HBB.out⟩
theorem memP_or {n : Nat} : ∀ (xs : List St) (s t : Nat), memP n s xs = some t → s < 2 ^ 16 → n ≤ 16 → t = s + (xs.map fun x => 2 ^ x.p.toNat).sum ∧ ∀ x ∈ xs, 0 ≤ x.p ∧ x.p ≤ 15
  | [], s, t, h, _, _ => by simp only [memP, Option.some.injEq] at h; simp [h]
  | x :: r, s, t, h, hs, hn => by
      simp only [memP] at h
      split at h
      · rename_i hp
        simp only [Bool.and_eq_true] at hp
        have hp := of_decide_eq_true hp.1
        have hl := lt_len (s := s) hs
        have hsp : s < 2 ^ x.p.toNat := Nat.lt_of_lt_of_le hl (Nat.pow_le_pow_right (by decide) (by omega))
        have hlt : s ||| 2 ^ x.p.toNat < 2 ^ 16 := with_lt hs (by omega)
        obtain ⟨h1, h2⟩ := memP_or r _ t h hlt hn
        refine ⟨?_, fun y hy => ?_⟩
        · rw [h1, or_add hsp, List.map_cons, List.sum_cons]
          omega
        · rcases List.mem_cons.1 hy with rfl | hy
          · omega
          · exact h2 y hy
      · cases h
theorem sum_take (f : St → Nat) (xs : List St) (k : Nat) (hk : k < xs.length) : ((xs.take (k + 1)).map f).sum = ((xs.take k).map f).sum + f (xs.getD k z3) := by
  rw [List.take_add_one, List.map_append, List.sum_append]
  simp [List.getD, hk]
theorem sum_take_le (f : St → Nat) (xs : List St) (k : Nat) : ((xs.take k).map f).sum ≤ (xs.map f).sum := by
  conv => rhs; rw [← List.take_append_drop k xs]
  rw [List.map_append, List.sum_append]
  omega
set_option maxHeartbeats 4000000 in
theorem rpids_any {v : Vw} {mo : Option Addr} {mn mc : Nat} (hr : Rd3 w mo mn mc v.ms) (n s : Nat) (hn : n ≤ 16) (hs : memP n 0 v.ms = some s) (hs16 : s < 65536) (hm : mn ≤ 17592186044416) : Calls Try.prog 71 #[.agg #[.int .i64 v.ep, .int .i64 v.ld, .int .i64 v.ic, .int .i64 v.cd, .slice mo mn mc]] w fun e w' => e = .returned (.int .i64 (s : Int)) ∧ Below w.heap.size w w' := by
  generalize hW : w.alloc (.cells #[.int .i64 v.ep, .int .i64 v.ld, .int .i64 v.ic, .int .i64 v.cd, .slice mo mn mc] 52) = W
  have hbW : Below w.heap.size w W := by rw [← hW]; exact balloc (Below.refl _ w)
  have hblk : W.heap[w.heap.size]? = some (.cells #[.int .i64 v.ep, .int .i64 v.ld, .int .i64 v.ic, .int .i64 v.cd, .slice mo mn mc] 52 (0, 0)) := by rw [← hW]; exact heap_alloc_new w _
  have q0 : W.cell? ⟨w.heap.size, 0, none⟩ = some (.int .i64 v.ep) := blk_cell hblk 0
  have q1 : W.cell? ⟨w.heap.size, 1, none⟩ = some (.int .i64 v.ld) := blk_cell hblk 1
  have q2 : W.cell? ⟨w.heap.size, 2, none⟩ = some (.int .i64 v.ic) := blk_cell hblk 2
  have q3 : W.cell? ⟨w.heap.size, 3, none⟩ = some (.int .i64 v.cd) := blk_cell hblk 3
  have q4 : W.cell? ⟨w.heap.size, 4, none⟩ = some (.slice mo mn mc) := blk_cell hblk 4
  have HR : Hid (Rd3 W mo mn mc v.ms) := hr.still hbW
  have Hl : Hid (v.ms.length = mn) := hr.len
  have HBW : Hid (Below w.heap.size w W) := hbW
  clear hr hblk hbW
  obtain ⟨hsum, hpb⟩ := memP_or v.ms 0 s hs (by decide) hn
  have HS : Hid (s = (v.ms.map fun x => 2 ^ x.p.toNat).sum ∧ ∀ x ∈ v.ms, 0 ≤ x.p ∧ x.p ≤ 15) := ⟨by rw [hsum]; omega, hpb⟩
  clear hsum hpb hs q0 q1 q2 q3
  go_enter Try.func71, Try.ntmps71
  go_wp2
  go_loop [3, 4] (fun y i => ∃ (k t : Nat), k ≤ mn ∧ i = .int .i64 (k : Int) ∧ y = .int .i64 (t : Int) ∧ t < 65536 ∧ Hid (t = ((v.ms.take k).map fun x => 2 ^ x.p.toNat).sum)) (fun _ i => mn - (intOf i).toNat)
  case atStart => exact ⟨0, 0, Nat.zero_le _, rfl, rfl, by decide, (show 0 = _ from by simp)⟩
  case round =>
    obtain ⟨k, t, hk, rfl, rfl, ht, HT⟩ := hrel
    by_cases hlt : k < mn
    · obtain ⟨g, o, hg, hc⟩ := HR.out.at hlt
      have hkx : k < v.ms.length := by have := Hl.out; omega
      have h1 := sum_take (fun x => 2 ^ x.p.toNat) v.ms k hkx
      have h2 := sum_take_le (fun x => 2 ^ x.p.toNat) v.ms (k + 1)
      have hpk := HS.out.2 (v.ms.getD k z3) (by simp [List.getD, hkx])
      rw [← HS.out.1] at h2
      rw [← HT.out] at h1
      have i1 : (0 : Int) ≤ (k : Int) := Int.natCast_nonneg _
      have i2 : (k : Int) < (mn : Int) := by omega
      rw [hg] at q4
      have hcp := hc 0 _ rfl
      rw [Nat.add_zero] at hcp
      have hcp2 : W.cell? ⟨g, o + k * 3, none⟩ = some (.int .i64 (v.ms.getD k z3).p) := hcp
      try simp only at h1
      generalize v.ms.getD k z3 = x at *
      obtain ⟨p, hpp⟩ := Int.eq_ofNat_of_zero_le hpk.1
      rw [hpp] at hcp2 h1 hpk
      rw [Int.toNat_natCast] at h1
      have hp16 : p ≤ 16 := by omega
      have hpw := pow_val p hp16
      have HT2 : Hid (t + 2 ^ p = ((v.ms.take (k + 1)).map fun x => 2 ^ x.p.toNat).sum) := h1.symm
      have ht2 : t + 2 ^ p < 65536 := by rw [HT2.out]; omega
      clear h1 h2 hc hcp hg hpp
      generalize hz : 2 ^ p = z at *
      clear hz
      go_wp2
      go_round
      case rel => exact ⟨k + 1, t + z, by omega, by go_num, by go_num, ht2, HT2⟩
      case measure => simp [intOf]; omega
    · obtain rfl : k = mn := by omega
      have HF : Hid ((t : Int) = (s : Int)) := (show _ = _ from by rw [HT.out, HS.out.1, List.take_of_length_le (by have := Hl.out; omega)])
      go_wp2
      go_ret
      exact ⟨ret_int HF.out, HBW.out⟩
end
end Go.Proofs.Ytcieinejjkddfab.Qm
