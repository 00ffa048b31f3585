import Derived.Test.YtbdefhagpgpoiacQ00
import Derived.Test.YtbdefhagpgpoiacQ18
namespace Go.Proofs.Ytbdefhagpgpoiac.Mb
open Go.RowKit
set_option linter.unusedVariables false
set_option maxRecDepth 100000
set_option linter.unusedSimpArgs false
section
variable {A A' : Ag} {w w' W : World} {B : Nat} {T : Int} {R R' : Rg}
def rvE (R : Rg) (xs : List Int) (cid : Int) (q : Nat) : Int := if q = R.self then cid else if xs.getD q 0 = 0 then 0 else match lat R.all q with
  | none => 0
  | some k => if (R.all.getD k h0).inc = xs.getD q 0 ∧ (R.all.getD k h0).p.ss = xs then (R.all.getD k h0).p.cid else 0
def rvecN (R : Rg) (xs : List Int) (cid : Int) (k : Nat) : List Int := (List.range k).map (rvE R xs cid)
theorem rvecN_next (R : Rg) (xs : List Int) (cid : Int) (k : Nat) : rvecN R xs cid (k + 1) = rvecN R xs cid k ++ [rvE R xs cid k] := by unfold rvecN; rw [List.range_succ, List.map_append]; rfl
theorem rvecN_len (R : Rg) (xs : List Int) (cid : Int) (k : Nat) : (rvecN R xs cid k).length = k := by simp [rvecN]
theorem Rg.Ok.elem (h : R.Ok w B) {j : Nat} (hj : j < R.all.length) : ∃ g c, (Value.slice R.ha R.all.length R.hc) = .slice (some ⟨g, 0, none⟩) R.all.length c ∧ w.rangeAt g (j * 11) (R.all.getD j h0).cs ∧ RowI w B (R.all.getD j h0).p.sa (R.all.getD j h0).p.sn (R.all.getD j h0).p.sc (R.all.getD j h0).p.ss ∧ RowI w B (R.all.getD j h0).p.va (R.all.getD j h0).p.vn (R.all.getD j h0).p.vc (R.all.getD j h0).p.vs ∧ (R.all.getD j h0).p.ss.length = R.n ∧ (R.all.getD j h0).p.vs.length = R.n ∧ (R.all.getD j h0).p.prev.length = 4 := by
  obtain ⟨g, c, e, hr⟩ := h.row.at hj
  have hm : R.all.getD j h0 ∈ R.all := by simp [List.getD, hj]
  exact ⟨g, c, e, hr, h.el _ hm⟩
set_option maxHeartbeats 16000000 in
theorem rvec_any (h : R.Ok w B) (hL : R.all.length ≤ 1000000000000) {ao : Option Addr} {c : Nat} {xs : List Int} (hr : RdI w ao R.n xs) (cid : Int) : Calls Try.prog 43 #[.pointer (some ⟨R.b, 0, none⟩), .slice ao R.n c, .int .i64 cid] w fun e w' => ∃ v, e = .returned v ∧ w'.ownsRow w.heap.size 3 1 v R.n (ints (rvecN R xs cid R.n)) ∧ Below w.heap.size w w' := by
  obtain ⟨i0, hi, hz0, hz1, hz2⟩ := info_parts info_i
  have h16 := h.n16
  have Hh : Hid (R.Ok w B) := h
  have Hr : Hid (RdI w ao R.n xs) := hr
  clear h hr
  go_enter Try.func43, Try.ntmps43
  go_wp2
  go_loopw [7, 8] (fun v7 v8 wr => ∃ k : Nat, k ≤ R.n ∧ v8 = .int .i64 (k : Int) ∧ wr.ownsRow w.heap.size 3 1 v7 k (ints (rvecN R xs cid k)) ∧ Below w.heap.size w wr) (fun _ v8 _ => R.n - (intOf v8).toNat)
  case atStart => exact ⟨0, Nat.zero_le _, rfl, ⟨rfl, .inl ⟨rfl, rfl⟩⟩, Below.refl _ _⟩
  case round =>
    obtain ⟨k, hk, rfl, ho, hb⟩ := hrel
    have hR := Hh.out.still hb
    have x0 := hR.cn
    by_cases hlt : k < R.n
    · obtain ⟨sb, so, hao, e0⟩ := (Hr.out.still hb).at hlt
      have x1 := hR.cself
      have HO : Hid (wr.ownsRow w.heap.size 3 1 u7 k (ints (rvecN R xs cid k))) := ho
      have HB : Hid (Below w.heap.size w wr) := hb
      have HR : Hid (R.Ok wr B) := hR
      have hs1 := hb.size
      have i1 : (0 : Int) ≤ (k : Int) := Int.natCast_nonneg _
      have i2 : (k : Int) < (R.n : Int) := by omega
      have hnx : ints (rvecN R xs cid (k + 1)) = ints (rvecN R xs cid k) ++ [.int .i64 (rvE R xs cid k)] := by rw [rvecN_next]; simp [ints]
      generalize hI : ints (rvecN R xs cid k) = I at HO hnx
      subst hao
      clear ho hb hR
      by_cases hself : k = R.self
      · have hv : rvE R xs cid k = cid := by unfold rvE; rw [if_pos hself]
        rw [hv] at hnx
        have Hnx : Hid (ints (rvecN R xs cid (k + 1)) = I ++ [.int .i64 cid]) := hnx
        have hse : (k : Int) = (R.self : Int) := by omega
        clear hnx hv
        rw [← hself] at x1
        clear hself hse
        go_wp2_with (first
          | (at_builtin; refine wpList_append_lies _ rfl _ _ 36 rfl w.heap.size 3 i0 (.int .i64 0) 1 8 Try.underlying36 hi hz0 hz1 hz2 rfl (by omega) u7 k I rfl (World.ownsRow.alloc HO.out _) _ 1 1 _ rfl rfl (World.news_of_block (heap_alloc_new _ _)) (by simp [Value.oneCell']) (by omega) (by unfold maxLen; omega) (by omega) (by simp; omega) _ rfl ?_; intro g3 cap3 w3 hown3 hgrow3 hat3 hlt3)
          | fail)
        go_roundw
        case rel =>
          refine ⟨k + 1, by omega, by go_num, by rw [Hnx.out]; simpa using hown3, ?_⟩
          exact (balloc HB.out).grown hgrow3 (by simp; omega) (fun q hq => (World.ownsRow.lt HO.out q hq).1)
        case measure => simp [intOf]; omega
      · have hself' : ((k : Int) == (R.self : Int)) = false := by simp; omega
        by_cases hz : xs.getD k 0 = 0
        · have hv : rvE R xs cid k = 0 := by unfold rvE; rw [if_neg hself, if_pos hz]
          rw [hv] at hnx
          have Hnx : Hid (ints (rvecN R xs cid (k + 1)) = I ++ [.int .i64 0]) := hnx
          rw [hz] at e0
          clear hnx hv hself hz
          go_wp2_with (first
            | (at_builtin; refine wpList_append_lies _ rfl _ _ 36 rfl w.heap.size 3 i0 (.int .i64 0) 1 8 Try.underlying36 hi hz0 hz1 hz2 rfl (by omega) u7 k I rfl (World.ownsRow.alloc HO.out _) _ 1 1 _ rfl rfl (World.news_of_block (heap_alloc_new _ _)) (by simp [Value.oneCell']) (by omega) (by unfold maxLen; omega) (by omega) (by simp; omega) _ rfl ?_; intro g3 cap3 w3 hown3 hgrow3 hat3 hlt3)
            | fail)
          go_roundw
          case rel =>
            refine ⟨k + 1, by omega, by go_num, by rw [Hnx.out]; simpa using hown3, ?_⟩
            exact (balloc HB.out).grown hgrow3 (by simp; omega) (fun q hq => (World.ownsRow.lt HO.out q hq).1)
          case measure => simp [intOf]; omega
        · have hz' : (xs.getD k 0 == 0) = false := by simpa using hz
          have HL := rlatest_any HR.out (k : Int) hL
          have Hlt := latN_lt R.all k R.all.length
          obtain ⟨x, hx⟩ : ∃ x, xs.getD k 0 = x := ⟨_, rfl⟩
          have hv0 : rvE R xs cid k = (match lat R.all k with | none => 0 | some k' => if (R.all.getD k' h0).inc = x ∧ (R.all.getD k' h0).p.ss = xs then (R.all.getD k' h0).p.cid else 0) := by unfold rvE; rw [if_neg hself, if_neg hz, hx]
          rw [hv0] at hnx
          rw [hx] at e0 hz'
          clear hself hz hv0 hx
          cases hk' : lat R.all k with
          | none =>
            rw [hk'] at hnx HL
            have Hnx : Hid (ints (rvecN R xs cid (k + 1)) = I ++ [.int .i64 0]) := hnx
            have HLn : Hid (Calls Try.prog 40 #[.pointer (some ⟨R.b, 0, none⟩), .int .i64 (k : Int)] wr fun e w' => e = .returned (.int .i64 (-1)) ∧ Below wr.heap.size wr w') := HL
            clear hnx hk' HL Hlt
            go_wp2_with (fail)
            refine HLn.out.mono ?_
            rintro e z1 ⟨rfl, hb1⟩
            have HB1 : Hid (Below wr.heap.size wr z1) := hb1
            clear hb1
            go_wp2
            refine wp_region_held_drew (S := (fun w' => True)) (by kernel_rfl) trivial (fun hHeld => ?_)
            simp only [Act.put, List.size_toArray, List.length_cons, List.length_nil, Nat.zero_add]
            refine tkI 0 (.int .i64 (-1)) rfl hHeld ?_
            simp only [Act.put, gA, gB, gC, gD, gE, gF]
            refine tkL 1 (.bool false) rfl (fun w' hS => by (go_simp <;> first | omega | simp_all | (simp; omega))) hHeld ?_
            simp only [Act.put, gA, gB, gC, gD, gE, gF]
            refine tkI 2 (.bool false) rfl hHeld ?_
            simp only [Act.put, gA, gB, gC, gD, gE, gF]
            refine tkO 3 rfl hHeld ?_
            simp only [Act.put, gA, gB, gC, gD, gE, gF]
            refine tkO 4 rfl hHeld ?_
            simp only [Act.put, gA, gB, gC, gD, gE, gF]
            refine tkO 5 rfl hHeld ?_
            simp only [Act.put, gA, gB, gC, gD, gE, gF]
            refine tkO 6 rfl hHeld ?_
            simp only [Act.put, gA, gB, gC, gD, gE, gF]
            refine tkO 7 rfl hHeld ?_
            simp only [Act.put, gA, gB, gC, gD, gE, gF]
            refine tkO 8 rfl hHeld ?_
            simp only [Act.put, gA, gB, gC, gD, gE, gF]
            refine tkO 9 rfl hHeld ?_
            simp only [Act.put, gA, gB, gC, gD, gE, gF]
            refine tkO 10 rfl hHeld ?_
            simp only [Act.put, gA, gB, gC, gD, gE, gF]
            refine tkO 11 rfl hHeld ?_
            simp only [Act.put, gA, gB, gC, gD, gE, gF]
            refine tkO 12 rfl hHeld ?_
            simp only [Act.put, gA, gB, gC, gD, gE, gF]
            refine tkO 13 rfl hHeld ?_
            simp only [Act.put, gA, gB, gC, gD, gE, gF]
            refine tkO 14 rfl hHeld ?_
            simp only [Act.put, gA, gB, gC, gD, gE, gF]
            refine tkO 15 rfl hHeld ?_
            simp only [Act.put, gA, gB, gC, gD, gE, gF]
            refine tkI 16 (.bool false) rfl hHeld ?_
            simp only [Act.put, gA, gB, gC, gD, gE, gF]
            refine wpAnyH_done (by kernel_rfl) ?_ _
            clear hHeld
            have HO2 : Hid (z1.drew.ownsRow w.heap.size 3 1 u7 k I) := own_still (own_still HO.out HB1.out) (Below.refl _ _).drew
            have HB2 : Hid (Below w.heap.size w z1.drew) := bstep (bstep HB.out HB1.out) (Below.refl _ _).drew
            have hs2 := HB2.out.size
            generalize z1.drew = d1 at *
            go_wp2_with (first
              | (at_builtin; refine wpList_append_lies _ rfl _ _ 36 rfl w.heap.size 3 i0 (.int .i64 0) 1 8 Try.underlying36 hi hz0 hz1 hz2 rfl (by omega) u7 k I rfl (World.ownsRow.alloc HO2.out _) _ 1 1 _ rfl rfl (World.news_of_block (heap_alloc_new _ _)) (by simp [Value.oneCell']) (by omega) (by unfold maxLen; omega) (by omega) (by simp; omega) _ rfl ?_; intro g3 cap3 w3 hown3 hgrow3 hat3 hlt3)
              | fail)
            go_roundw
            case rel =>
              refine ⟨k + 1, by omega, by go_num, by rw [Hnx.out]; simpa using hown3, ?_⟩
              exact (balloc HB2.out).grown hgrow3 (by simp; omega) (fun q hq => (World.ownsRow.lt HO2.out q hq).1)
            case measure => simp [intOf]; omega
          | some j =>
            have hj := Hlt j hk'
            rw [hk'] at hnx HL
            have HLn : Hid (Calls Try.prog 40 #[.pointer (some ⟨R.b, 0, none⟩), .int .i64 (k : Int)] wr fun e w' => e = .returned (.int .i64 (j : Int)) ∧ Below wr.heap.size wr w') := HL
            obtain ⟨g, hc, hv, hrg, hrs, hrv, hsl, hvl, hpl⟩ := HR.out.elem hj
            have x18 := HR.out.call
            rw [hv] at x18
            have hnx' : ints (rvecN R xs cid (k + 1)) = I ++ [.int .i64 (if (R.all.getD j h0).inc = x ∧ (R.all.getD j h0).p.ss = xs then (R.all.getD j h0).p.cid else 0)] := hnx
            clear hnx
            have hnx := hnx'
            clear hnx'
            generalize R.all.getD j h0 = y at hrg hrs hrv hsl hvl hpl hnx
            have jj1 : (0 : Int) ≤ (j : Int) := Int.natCast_nonneg _
            have jj2 : (j : Int) < (R.all.length : Int) := by omega
            have hsn : y.p.sn = R.n := by have := hrs.rd.1; omega
            have HEq : Hid (∀ W, Below wr.heap.size wr W → Calls Try.prog 35 #[.slice y.p.sa y.p.sn y.p.sc, .slice (some ⟨sb, so, none⟩) R.n c] W fun e w' => e = .returned (.bool (decide (y.p.ss = xs))) ∧ Below W.heap.size W w') := fun W hW => qequal_any (hrs.rd.still hW) ((Hr.out.still HB.out).still hW) (by omega)
            have Hz1 : Hid (wr.cell? ⟨g, j * 11 + 1, none⟩ = some (.int .i64 y.inc)) := hrg 1 _ rfl
            have Hz2 : Hid (wr.cell? ⟨g, j * 11 + 2, none⟩ = some (.slice y.p.sa y.p.sn y.p.sc)) := hrg 2 _ rfl
            have Hz3 : Hid (wr.cell? ⟨g, j * 11 + 3, none⟩ = some (.int .i64 y.p.cid)) := hrg 3 _ rfl
            have He0 : Hid (wr.cell? ⟨sb, so + k, none⟩ = some (.int .i64 x)) := e0
            have H18 : Hid (wr.cell? ⟨R.b, 18, none⟩ = some (.slice (some ⟨g, 0, none⟩) R.all.length hc)) := x18
            clear hk' HL Hlt hv hrg hrs hrv hsl hvl hpl hsn x18
            go_wp2_with (fail)
            refine HLn.out.mono ?_
            rintro e z1 ⟨rfl, hb1⟩
            have HB1 : Hid (Below wr.heap.size wr z1) := hb1
            have HBd : Hid (Below wr.heap.size wr z1.drew) := bstep hb1 (Below.refl _ _).drew
            have d18 : z1.drew.cell? ⟨R.b, 18, none⟩ = some (.slice (some ⟨g, 0, none⟩) R.all.length hc) := below_at HBd.out H18.out
            have d1 : z1.drew.cell? ⟨g, j * 11 + 1, none⟩ = some (.int .i64 y.inc) := below_at HBd.out Hz1.out
            have de : z1.drew.cell? ⟨sb, so + k, none⟩ = some (.int .i64 x) := below_at HBd.out He0.out
            clear hb1 e0 x0 x1
            go_wp2
            by_cases gi : y.inc = x
            · skip
              refine wp_region_held_drew (S := (fun w' => w'.cell? ⟨R.b, 18, none⟩ = some (.slice (some ⟨g, 0, none⟩) R.all.length hc) ∧ w'.cell? ⟨g, j * 11 + 1, none⟩ = some (.int .i64 y.inc) ∧ w'.cell? ⟨sb, so + k, none⟩ = some (.int .i64 x))) (by kernel_rfl) ⟨d18, d1, de⟩ (fun hHeld => ?_)
              simp only [Act.put, List.size_toArray, List.length_cons, List.length_nil, Nat.zero_add]
              refine tkI 0 (.int .i64 (j : Int)) rfl hHeld ?_
              simp only [Act.put, gA, gB, gC, gD, gE, gF]
              refine tkL 1 (.bool true) rfl (fun w' hS => by (go_simp <;> first | omega | simp_all | (simp; omega))) hHeld ?_
              simp only [Act.put, gA, gB, gC, gD, gE, gF]
              refine tkI 2 (.bool true) rfl hHeld ?_
              simp only [Act.put, gA, gB, gC, gD, gE, gF]
              refine tkI 3 (.pointer (some ⟨R.b, 0, none⟩)) rfl hHeld ?_
              simp only [Act.put, gA, gB, gC, gD, gE, gF]
              refine tkI 4 (.pointer (some ⟨R.b, 0, none⟩)) rfl hHeld ?_
              simp only [Act.put, gA, gB, gC, gD, gE, gF]
              refine tkI 5 (.pointer (some ⟨R.b, 18, none⟩)) rfl hHeld ?_
              simp only [Act.put, gA, gB, gC, gD, gE, gF]
              refine tkL 6 (.slice (some ⟨g, 0, none⟩) R.all.length hc) rfl (fun w' hS => by (obtain ⟨s0, s1, s2⟩ := hS; go_simp)) hHeld ?_
              simp only [Act.put, gA, gB, gC, gD, gE, gF]
              refine tkI 7 (.int .i64 (j : Int)) rfl hHeld ?_
              simp only [Act.put, gA, gB, gC, gD, gE, gF]
              refine tkL 8 (.pointer (some ⟨g, j * 11, none⟩)) rfl (fun w' hS => by (go_simp <;> first | omega | simp_all | (simp; omega))) hHeld ?_
              simp only [Act.put, gA, gB, gC, gD, gE, gF]
              refine tkI 9 (.pointer (some ⟨g, j * 11 + 1, none⟩)) rfl hHeld ?_
              simp only [Act.put, gA, gB, gC, gD, gE, gF]
              refine tkL 10 (.int .i64 y.inc) rfl (fun w' hS => by (obtain ⟨s0, s1, s2⟩ := hS; go_simp)) hHeld ?_
              simp only [Act.put, gA, gB, gC, gD, gE, gF]
              refine tkI 11 (.slice (some ⟨sb, so, none⟩) R.n c) rfl hHeld ?_
              simp only [Act.put, gA, gB, gC, gD, gE, gF]
              refine tkI 12 (.int .i64 (k : Int)) rfl hHeld ?_
              simp only [Act.put, gA, gB, gC, gD, gE, gF]
              refine tkL 13 (.pointer (some ⟨sb, so + k, none⟩)) rfl (fun w' hS => by (go_simp <;> first | omega | simp_all | (simp; omega))) hHeld ?_
              simp only [Act.put, gA, gB, gC, gD, gE, gF]
              refine tkL 14 (.int .i64 x) rfl (fun w' hS => by (obtain ⟨s0, s1, s2⟩ := hS; go_simp)) hHeld ?_
              simp only [Act.put, gA, gB, gC, gD, gE, gF]
              refine tkL 15 (.bool true) rfl (fun w' hS => by (go_simp <;> first | omega | simp_all | (simp; omega))) hHeld ?_
              simp only [Act.put, gA, gB, gC, gD, gE, gF]
              refine tkI 16 (.bool true) rfl hHeld ?_
              simp only [Act.put, gA, gB, gC, gD, gE, gF]
              refine wpAnyH_done (by kernel_rfl) ?_ _
              clear hHeld
              have d2 : z1.drew.cell? ⟨g, j * 11 + 2, none⟩ = some (.slice y.p.sa y.p.sn y.p.sc) := below_at HBd.out Hz2.out
              have Gi : Hid (y.inc = x) := gi
              have HEd := HEq.out _ HBd.out
              have HBd2 : Hid (Below wr.heap.size wr z1.drew) := HBd.out
              clear gi d1 de HEq
              generalize z1.drew = d3 at *
              go_wp2_with (fail)
              refine HEd.mono ?_
              rintro e z2 ⟨rfl, hb2⟩
              have HB2' : Hid (Below wr.heap.size wr z2) := bstep HBd.out hb2
              have HO2 : Hid (z2.ownsRow w.heap.size 3 1 u7 k I) := own_still HO.out HB2'.out
              have HB2 : Hid (Below w.heap.size w z2) := bstep HB.out HB2'.out
              have hs2 := HB2.out.size
              have q18 : z2.cell? ⟨R.b, 18, none⟩ = some (.slice (some ⟨g, 0, none⟩) R.all.length hc) := below_at HB2'.out H18.out
              have q3 : z2.cell? ⟨g, j * 11 + 3, none⟩ = some (.int .i64 y.p.cid) := below_at HB2'.out Hz3.out
              clear d18 d2 hb2
              by_cases gs : y.p.ss = xs
              · have Hnx : Hid (ints (rvecN R xs cid (k + 1)) = I ++ [.int .i64 y.p.cid]) := by rw [if_pos ⟨Gi.out, gs⟩] at hnx; exact hnx
                rw [decide_eq_true gs]
                clear hnx gs
                go_wp2_with (first
                  | (at_builtin; refine wpList_append_lies _ rfl _ _ 36 rfl w.heap.size 3 i0 (.int .i64 0) 1 8 Try.underlying36 hi hz0 hz1 hz2 rfl (by omega) u7 k I rfl (World.ownsRow.alloc HO2.out _) _ 1 1 _ rfl rfl (World.news_of_block (heap_alloc_new _ _)) (by simp [Value.oneCell']) (by omega) (by unfold maxLen; omega) (by omega) (by simp; omega) _ rfl ?_; intro g3 cap3 w3 hown3 hgrow3 hat3 hlt3)
                  | fail)
                go_roundw
                case rel =>
                  refine ⟨k + 1, by omega, by go_num, by rw [Hnx.out]; simpa using hown3, ?_⟩
                  exact (balloc HB2.out).grown hgrow3 (by simp; omega) (fun q hq => (World.ownsRow.lt HO2.out q hq).1)
                case measure => simp [intOf]; omega
              · have Hnx : Hid (ints (rvecN R xs cid (k + 1)) = I ++ [.int .i64 0]) := by rw [if_neg (fun h => gs h.2)] at hnx; exact hnx
                rw [decide_eq_false gs]
                clear hnx gs
                go_wp2_with (first
                  | (at_builtin; refine wpList_append_lies _ rfl _ _ 36 rfl w.heap.size 3 i0 (.int .i64 0) 1 8 Try.underlying36 hi hz0 hz1 hz2 rfl (by omega) u7 k I rfl (World.ownsRow.alloc HO2.out _) _ 1 1 _ rfl rfl (World.news_of_block (heap_alloc_new _ _)) (by simp [Value.oneCell']) (by omega) (by unfold maxLen; omega) (by omega) (by simp; omega) _ rfl ?_; intro g3 cap3 w3 hown3 hgrow3 hat3 hlt3)
                  | fail)
                go_roundw
                case rel =>
                  refine ⟨k + 1, by omega, by go_num, by rw [Hnx.out]; simpa using hown3, ?_⟩
                  exact (balloc HB2.out).grown hgrow3 (by simp; omega) (fun q hq => (World.ownsRow.lt HO2.out q hq).1)
                case measure => simp [intOf]; omega
            · have Hnx : Hid (ints (rvecN R xs cid (k + 1)) = I ++ [.int .i64 0]) := by rw [if_neg (fun h => gi h.1)] at hnx; exact hnx
              clear hnx
              refine wp_region_held_drew (S := (fun w' => w'.cell? ⟨R.b, 18, none⟩ = some (.slice (some ⟨g, 0, none⟩) R.all.length hc) ∧ w'.cell? ⟨g, j * 11 + 1, none⟩ = some (.int .i64 y.inc) ∧ w'.cell? ⟨sb, so + k, none⟩ = some (.int .i64 x))) (by kernel_rfl) ⟨d18, d1, de⟩ (fun hHeld => ?_)
              simp only [Act.put, List.size_toArray, List.length_cons, List.length_nil, Nat.zero_add]
              refine tkI 0 (.int .i64 (j : Int)) rfl hHeld ?_
              simp only [Act.put, gA, gB, gC, gD, gE, gF]
              refine tkL 1 (.bool true) rfl (fun w' hS => by (go_simp <;> first | omega | simp_all | (simp; omega))) hHeld ?_
              simp only [Act.put, gA, gB, gC, gD, gE, gF]
              refine tkI 2 (.bool true) rfl hHeld ?_
              simp only [Act.put, gA, gB, gC, gD, gE, gF]
              refine tkI 3 (.pointer (some ⟨R.b, 0, none⟩)) rfl hHeld ?_
              simp only [Act.put, gA, gB, gC, gD, gE, gF]
              refine tkI 4 (.pointer (some ⟨R.b, 0, none⟩)) rfl hHeld ?_
              simp only [Act.put, gA, gB, gC, gD, gE, gF]
              refine tkI 5 (.pointer (some ⟨R.b, 18, none⟩)) rfl hHeld ?_
              simp only [Act.put, gA, gB, gC, gD, gE, gF]
              refine tkL 6 (.slice (some ⟨g, 0, none⟩) R.all.length hc) rfl (fun w' hS => by (obtain ⟨s0, s1, s2⟩ := hS; go_simp)) hHeld ?_
              simp only [Act.put, gA, gB, gC, gD, gE, gF]
              refine tkI 7 (.int .i64 (j : Int)) rfl hHeld ?_
              simp only [Act.put, gA, gB, gC, gD, gE, gF]
              refine tkL 8 (.pointer (some ⟨g, j * 11, none⟩)) rfl (fun w' hS => by (go_simp <;> first | omega | simp_all | (simp; omega))) hHeld ?_
              simp only [Act.put, gA, gB, gC, gD, gE, gF]
              refine tkI 9 (.pointer (some ⟨g, j * 11 + 1, none⟩)) rfl hHeld ?_
              simp only [Act.put, gA, gB, gC, gD, gE, gF]
              refine tkL 10 (.int .i64 y.inc) rfl (fun w' hS => by (obtain ⟨s0, s1, s2⟩ := hS; go_simp)) hHeld ?_
              simp only [Act.put, gA, gB, gC, gD, gE, gF]
              refine tkI 11 (.slice (some ⟨sb, so, none⟩) R.n c) rfl hHeld ?_
              simp only [Act.put, gA, gB, gC, gD, gE, gF]
              refine tkI 12 (.int .i64 (k : Int)) rfl hHeld ?_
              simp only [Act.put, gA, gB, gC, gD, gE, gF]
              refine tkL 13 (.pointer (some ⟨sb, so + k, none⟩)) rfl (fun w' hS => by (go_simp <;> first | omega | simp_all | (simp; omega))) hHeld ?_
              simp only [Act.put, gA, gB, gC, gD, gE, gF]
              refine tkL 14 (.int .i64 x) rfl (fun w' hS => by (obtain ⟨s0, s1, s2⟩ := hS; go_simp)) hHeld ?_
              simp only [Act.put, gA, gB, gC, gD, gE, gF]
              refine tkL 15 (.bool false) rfl (fun w' hS => by (go_simp <;> first | omega | simp_all | (simp; omega))) hHeld ?_
              simp only [Act.put, gA, gB, gC, gD, gE, gF]
              refine tkI 16 (.bool false) rfl hHeld ?_
              simp only [Act.put, gA, gB, gC, gD, gE, gF]
              refine wpAnyH_done (by kernel_rfl) ?_ _
              clear hHeld
              have HO2 : Hid (z1.drew.ownsRow w.heap.size 3 1 u7 k I) := own_still HO.out HBd.out
              have HB2 : Hid (Below w.heap.size w z1.drew) := bstep HB.out HBd.out
              have hs2 := HB2.out.size
              clear d18 d1 de gi
              generalize z1.drew = dd at *
              go_wp2_with (first
                | (at_builtin; refine wpList_append_lies _ rfl _ _ 36 rfl w.heap.size 3 i0 (.int .i64 0) 1 8 Try.underlying36 hi hz0 hz1 hz2 rfl (by omega) u7 k I rfl (World.ownsRow.alloc HO2.out _) _ 1 1 _ rfl rfl (World.news_of_block (heap_alloc_new _ _)) (by simp [Value.oneCell']) (by omega) (by unfold maxLen; omega) (by omega) (by simp; omega) _ rfl ?_; intro g3 cap3 w3 hown3 hgrow3 hat3 hlt3)
                | fail)
              go_roundw
              case rel =>
                refine ⟨k + 1, by omega, by go_num, by rw [Hnx.out]; simpa using hown3, ?_⟩
                exact (balloc HB2.out).grown hgrow3 (by simp; omega) (fun q hq => (World.ownsRow.lt HO2.out q hq).1)
              case measure => simp [intOf]; omega
    · obtain rfl : k = R.n := by omega
      have j2 : decide ((R.n : Int) < (R.n : Int)) = false := decide_eq_false (by omega)
      clear hR
      go_wp2
      go_ret
      exact ⟨_, rfl, ho, hb⟩
end
end Go.Proofs.Ytbdefhagpgpoiac.Mb
