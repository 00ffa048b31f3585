import Derived.Test.YtbdefhagpgpoiacQ00
import Derived.Test.YtbdefhagpgpoiacQ36
import Derived.Test.YtbdefhagpgpoiacQ16
namespace Go.Proofs.Ytbdefhagpgpoiac.Mb
open Go.RowKit
set_option linter.unusedVariables false
set_option maxRecDepth 100000
set_option linter.unusedSimpArgs false
section
variable {A A' : Ag} {w w' W : World} {B : Nat} {T : Int} {R R' : Rg}
set_option maxHeartbeats 2000000 in
theorem rview_any (h : R.Ok w B) : Calls Try.prog 29 #[.pointer (some ⟨R.b, 0, none⟩)] w fun e w' => ∃ a2' c2', e = .returned (.agg [.int .i64 (R.id[0]?.getD 0), .int .i64 (R.id[1]?.getD 0), .int .i64 (R.id[2]?.getD 0), .int .i64 (R.id[3]?.getD 0), .slice a2' R.k c2'].toArray) ∧ w'.ownsRow w.heap.size 92 3 (.slice a2' R.k c2') R.k (ints R.ms) ∧ Below w.heap.size w w' := by
  obtain ⟨ma, mc, hmv⟩ := own_slice h.mem
  generalize hW1 : w.alloc (.cells [.int .i64 0, .int .i64 0, .int .i64 0, .int .i64 0, .slice none 0 0].toArray 51) = W1
  have b1 : Below w.heap.size w W1 := by rw [← hW1]; exact balloc (Below.refl _ _)
  have k1 : W1.heap[w.heap.size]? = some (.cells [.int .i64 0, .int .i64 0, .int .i64 0, .int .i64 0, .slice none 0 0].toArray 51 (0, 0)) := by rw [← hW1]; exact heap_alloc_new w _
  have hR := h.still b1
  have R3 : Hid (W1.rangeAt R.b 3 [.int .i64 (R.id[0]?.getD 0), .int .i64 (R.id[1]?.getD 0), .int .i64 (R.id[2]?.getD 0), .int .i64 (R.id[3]?.getD 0), .slice ma R.k mc]) := range_sub hR.blk (by unfold Rg.cs; rw [hmv]; rfl)
  have hmem := hR.mem
  rw [hmv] at hmem
  have HT := qview_any (c := mc) (R.id[0]?.getD 0) (R.id[1]?.getD 0) (R.id[2]?.getD 0) (R.id[3]?.getD 0) (own_rdM hmem) hR.k16
  have HK1 : Hid (W1.heap[w.heap.size]? = some (.cells [.int .i64 0, .int .i64 0, .int .i64 0, .int .i64 0, .slice none 0 0].toArray 51 (0, 0))) := k1
  have HB1 : Hid (Below w.heap.size w W1) := b1
  have hs1 : w.heap.size < W1.heap.size := lt_heap k1
  simp only [List.toArray] at hW1
  clear h hR b1 k1 hmv hmem
  go_enter Try.func29, Try.ntmps29
  go_wp2_with (first | (refine load_mid 51 (.tmp 5) R3.out _ Try.underlying51 rfl (by kernel_rfl) rfl rfl rfl ?_) | fail)
  refine HT.mono ?_
  rintro e w2 ⟨a2, c2, rfl, o1, hb2⟩
  have k2 := (hb2.block _ (lt_heap HK1.out)).trans HK1.out
  generalize hM : w2.setCells w.heap.size 0 [.int .i64 (R.id[0]?.getD 0), .int .i64 (R.id[1]?.getD 0), .int .i64 (R.id[2]?.getD 0), .int .i64 (R.id[3]?.getD 0), .slice a2 R.k c2] = M
  have kk : Kept w2 M (fun j => j = w.heap.size) := by rw [← hM]; exact ksets (P := fun j => j = w.heap.size) (b := w.heap.size) rfl [.int .i64 (R.id[0]?.getD 0), .int .i64 (R.id[1]?.getD 0), .int .i64 (R.id[2]?.getD 0), .int .i64 (R.id[3]?.getD 0), .slice a2 R.k c2] 0 w2
  have m2 : M.heap[w.heap.size]? = some (.cells [.int .i64 (R.id[0]?.getD 0), .int .i64 (R.id[1]?.getD 0), .int .i64 (R.id[2]?.getD 0), .int .i64 (R.id[3]?.getD 0), .slice a2 R.k c2].toArray 51 (0, 0)) := by rw [← hM]; exact sets_whole k2 rfl
  have T3 : Hid (w2.there w.heap.size 0 5) := blk_there k2 rfl
  have B2 := bstep HB1.out hb2
  have HFin : Hid (∃ a2' c2', (Ending.returned (.agg [.int .i64 (R.id[0]?.getD 0), .int .i64 (R.id[1]?.getD 0), .int .i64 (R.id[2]?.getD 0), .int .i64 (R.id[3]?.getD 0), .slice a2 R.k c2].toArray)) = .returned (.agg [.int .i64 (R.id[0]?.getD 0), .int .i64 (R.id[1]?.getD 0), .int .i64 (R.id[2]?.getD 0), .int .i64 (R.id[3]?.getD 0), .slice a2' R.k c2'].toArray) ∧ M.ownsRow w.heap.size 92 3 (.slice a2' R.k c2') R.k (ints R.ms) ∧ Below w.heap.size w M) := ⟨a2, c2, rfl, own_lower (kk.owns o1 (own_ne o1 k2 (by decide))) (by omega), B2.trans (kk.below B2.size (fun k hk e => by omega))⟩
  clear HT o1 hb2 k2 kk B2 hW1
  go_wp2_with (first
    | (refine store_midL 51 (.tmp 2) (.tmp 7) (L := [.int .i64 (R.id[0]?.getD 0), .int .i64 (R.id[1]?.getD 0), .int .i64 (R.id[2]?.getD 0), .int .i64 (R.id[3]?.getD 0), .slice a2 R.k c2]) T3.out info_view (by simp [Value.oneCell']) rfl rfl rfl rfl ?_; rw [hM])
    | fail)
  (try simp only [Exit.inBlock, Exit.then])
  refine bodyPost_ret (v := .agg [.int .i64 (R.id[0]?.getD 0), .int .i64 (R.id[1]?.getD 0), .int .i64 (R.id[2]?.getD 0), .int .i64 (R.id[3]?.getD 0), .slice a2 R.k c2].toArray) ?_ ?_ ?_
  · exact results_cell_row rfl _ _ w.heap.size 51 _ (0, 0) _ rfl m2 Try.underlying51 rfl (by kernel_rfl)
  · rfl
  · exact HFin.out
end
end Go.Proofs.Ytbdefhagpgpoiac.Mb
namespace Go.Proofs.Ytbdefhagpgpoiac.Mb
open Go.RowKit
set_option linter.unusedVariables false
set_option maxRecDepth 100000
set_option linter.unusedSimpArgs false
section
variable {A A' : Ag} {w w' W : World} {B : Nat} {T : Int} {R R' : Rg}
def Rg.ragP (R : Rg) (q : Nat) : Bool := decide (R.own.ss.getD q 0 = 0) || (!(decide (R.own.vs.getD q 0 = 0)) && (decide (q = R.self) || (match lat R.all q with | some k => decide ((R.all.getD k h0).p.vs = R.own.vs) | none => false)))
def Rg.ragr (R : Rg) : Bool := R.op && (List.range R.n).all R.ragP
def Rg.Hlat (R : Rg) : Prop := ∀ q, q < R.n → q ≠ R.self → R.own.vs.getD q 0 ≠ 0 → ∃ k, lat R.all q = some k
set_option maxHeartbeats 8000000 in
theorem ragreement_any (h : R.Ok w B) (hL : R.all.length ≤ 1000000000000) (hl : R.Hlat) : Calls Try.prog 49 #[.pointer (some ⟨R.b, 0, none⟩)] w fun e w' => e = .returned (.bool R.ragr) ∧ Below w.heap.size w w' := by
  have c8 : w.cell? ⟨R.b, 8, none⟩ = some (.bool R.op) := h.c 8
  have h16 := h.n16
  have Hh : Hid (R.Ok w B) := h
  have Hl : Hid (R.Hlat) := hl
  clear h hl
  cases hop : R.op with
  | false =>
    have HV : Hid (R.ragr = false) := by show _ = _; unfold Rg.ragr; rw [hop]; rfl
    rw [hop] at c8
    clear hop
    go_enter Try.func49, Try.ntmps49
    go_wp2
    go_ret
    exact ⟨by rw [HV.out]; rfl, Below.refl _ _⟩
  | true =>
    have HV : Hid (R.ragr = (List.range R.n).all R.ragP) := by show _ = _; unfold Rg.ragr; rw [hop, Bool.true_and]
    rw [hop] at c8
    clear hop
    go_enter Try.func49, Try.ntmps49
    go_wp2
    clear c8
    go_loopw [3] (fun v3 wr => ∃ k : Nat, k ≤ R.n ∧ v3 = .int .i64 (k : Int) ∧ (∀ i, i < k → R.ragP i = true) ∧ Below w.heap.size w wr) (fun v3 _ => R.n - (intOf v3).toNat)
    case atStart => exact ⟨0, Nat.zero_le _, rfl, fun i hi => by omega, Below.refl _ _⟩
    case round =>
      obtain ⟨k, hk, rfl, hall, hb⟩ := hrel
      have hR := Hh.out.still hb
      have x0 := hR.cn
      by_cases hlt : k < R.n
      · have x1 := hR.cself
        have x9 : wr.cell? ⟨R.b, 9, none⟩ = some (.slice R.own.sa R.own.sn R.own.sc) := hR.c 9
        have x17 : wr.cell? ⟨R.b, 17, none⟩ = some (.slice R.own.va R.own.vn R.own.vc) := hR.c 17
        have hsn := hR.sn
        obtain ⟨gs, os, hgs, es⟩ := hR.os.rd.at (i := k) (by omega)
        obtain ⟨gv, ov, hgv, ev⟩ := hR.ov.rd.at (i := k) (by omega)
        rw [hgs] at x9
        rw [hsn.1] at x9
        have x17w := x17
        rw [hgv, hsn.2] at x17w
        have HR : Hid (R.Ok wr B) := hR
        have HB : Hid (Below w.heap.size w wr) := hb
        have i1 : (0 : Int) ≤ (k : Int) := Int.natCast_nonneg _
        have i2 : (k : Int) < (R.n : Int) := by omega
        have HN : Hid (∀ (X : World), Below w.heap.size w X → R.ragP k = true → (∃ k_1 : Nat, k_1 ≤ R.n ∧ Value.int .i64 ((k : Int) + 1) = .int .i64 (k_1 : Int) ∧ (∀ i, i < k_1 → R.ragP i = true) ∧ Below w.heap.size w X)) := fun X hX hp => ⟨k + 1, by omega, by simp, fun i hi => by
          by_cases e : i = k
          · subst e; exact hp
          · exact hall i (by omega), hX⟩
        have HF : Hid (R.ragP k = false → R.ragr = false) := fun hp => by
          rw [HV.out]
          cases ha : (List.range R.n).all R.ragP with
          | false => rfl
          | true => have := List.all_eq_true.1 ha k (List.mem_range.2 hlt); rw [hp] at this; cases this
        have hP : R.ragP k = (decide (R.own.ss.getD k 0 = 0) || (!(decide (R.own.vs.getD k 0 = 0)) && (decide (k = R.self) || (match lat R.all k with | some k => decide ((R.all.getD k h0).p.vs = R.own.vs) | none => false)))) := rfl
        have Hlk : Hid (k ≠ R.self → R.own.vs.getD k 0 ≠ 0 → ∃ j, lat R.all k = some j) := Hl.out k hlt
        generalize R.own.ss.getD k 0 = sx at es hP
        generalize R.own.vs.getD k 0 = vx at ev hP Hlk
        have hvn := hsn.2
        clear hall hb hR hgs hgv
        by_cases g0 : sx = 0
        · subst g0
          have HE : Hid (∃ k_1 : Nat, k_1 ≤ R.n ∧ Value.int .i64 ((k : Int) + 1) = .int .i64 (k_1 : Int) ∧ (∀ i, i < k_1 → R.ragP i = true) ∧ Below w.heap.size w wr) := HN.out wr HB.out (by rw [hP]; simp)
          clear hP HN HF x17 hsn hvn
          go_wp2
          first
            | exact ⟨HE.out, by simp [intOf]; omega⟩
            | (go_roundw
               case rel => exact HE.out
               case measure => simp [intOf]; omega)
        · have g0' : (sx == 0) = false := by simpa using g0
          rw [decide_eq_false g0, Bool.false_or] at hP
          by_cases g1 : vx = 0
          · subst g1
            have HV2 : Hid (R.ragr = false) := HF.out (by rw [hP]; simp)
            clear hP HN HF x17 g0 hsn hvn
            go_wp2
            go_ret
            exact ⟨by rw [HV2.out]; rfl, HB.out⟩
          · have g1' : (vx == 0) = false := by simpa using g1
            rw [decide_eq_false g1, Bool.not_false, Bool.true_and] at hP
            by_cases g2 : k = R.self
            · have HE : Hid (∃ k_1 : Nat, k_1 ≤ R.n ∧ Value.int .i64 ((k : Int) + 1) = .int .i64 (k_1 : Int) ∧ (∀ i, i < k_1 → R.ragP i = true) ∧ Below w.heap.size w wr) := HN.out wr HB.out (by rw [hP, decide_eq_true g2]; rfl)
              rw [← g2] at x1
              clear hP HN HF x17 g0 g1 g2 hsn hvn Hlk
              go_wp2
              first
                | exact ⟨HE.out, by simp [intOf]; omega⟩
                | (go_roundw
                   case rel => exact HE.out
                   case measure => simp [intOf]; omega)
            · have g2' : ((k : Int) == (R.self : Int)) = false := by simp; omega
              rw [decide_eq_false g2, Bool.false_or] at hP
              obtain ⟨j, hj⟩ := Hlk.out g2 g1
              rw [hj] at hP
              have HLa := rlatest_any HR.out (k : Int) hL
              rw [hj] at HLa
              have HLn : Hid (Calls Try.prog 40 #[.pointer (some ⟨R.b, 0, none⟩), .int .i64 (k : Int)] wr fun e w' => e = .returned (.int .i64 (j : Int)) ∧ Below wr.heap.size wr w') := HLa
              have hjl := latN_lt R.all k R.all.length j hj
              obtain ⟨g, hc, hv, hrg, hrs, hrv, hsl, hvl, hpl⟩ := HR.out.elem hjl
              have x18 := HR.out.call
              rw [hv] at x18
              have hP' : R.ragP k = decide ((R.all.getD j h0).p.vs = R.own.vs) := hP
              generalize R.all.getD j h0 = y at hrg hrs hrv hsl hvl hpl hP'
              have jj1 : (0 : Int) ≤ (j : Int) := Int.natCast_nonneg _
              have jj2 : (j : Int) < (R.all.length : Int) := by omega
              obtain ⟨bb, hbb⟩ : ∃ bb, decide (y.p.vs = R.own.vs) = bb := ⟨_, rfl⟩
              rw [hbb] at hP'
              have HP : Hid (R.ragP k = bb) := hP'
              have HEq : Hid (∀ W, Below wr.heap.size wr W → Calls Try.prog 35 #[.slice y.p.va y.p.vn y.p.vc, .slice R.own.va R.own.vn R.own.vc] W fun e w' => e = .returned (.bool bb) ∧ Below W.heap.size W w') := fun W hW => by
                have hh := qequal_any (c1 := y.p.vc) (c2 := R.own.vc) (hrv.rd.still hW) (HR.out.ov.rd.still hW) (by have := hrv.rd.1; omega)
                rw [hbb] at hh
                exact hh
              have H10 : Hid (wr.cell? ⟨g, j * 11 + 10, none⟩ = some (.slice y.p.va y.p.vn y.p.vc)) := hrg 10 _ rfl
              have H18 : Hid (wr.cell? ⟨R.b, 18, none⟩ = some (.slice (some ⟨g, 0, none⟩) R.all.length hc)) := x18
              have H17 : Hid (wr.cell? ⟨R.b, 17, none⟩ = some (.slice R.own.va R.own.vn R.own.vc)) := x17
              clear hP hP' hj HLa hv hrg hrs hrv hsl hvl hpl x18 hbb Hlk g0 g1 x17 hsn hvn
              go_wp2_with (fail)
              refine HLn.out.mono ?_
              rintro e z1 ⟨rfl, hb1⟩
              have HBd : Hid (Below wr.heap.size wr z1.drew) := bstep hb1 (Below.refl _ _).drew
              have d18 : z1.drew.cell? ⟨R.b, 18, none⟩ = some (.slice (some ⟨g, 0, none⟩) R.all.length hc) := below_at HBd.out H18.out
              have d10 : z1.drew.cell? ⟨g, j * 11 + 10, none⟩ = some (.slice y.p.va y.p.vn y.p.vc) := below_at HBd.out H10.out
              have d17 : z1.drew.cell? ⟨R.b, 17, none⟩ = some (.slice R.own.va R.own.vn R.own.vc) := below_at HBd.out H17.out
              have HEd := HEq.out _ HBd.out
              clear hb1 x0 x1 x9 x17w es ev HLn HEq
              go_wp2
              refine wp_region_held_drew (S := (fun w' => w'.cell? ⟨R.b, 18, none⟩ = some (.slice (some ⟨g, 0, none⟩) R.all.length hc) ∧ w'.cell? ⟨g, j * 11 + 10, none⟩ = some (.slice y.p.va y.p.vn y.p.vc) ∧ w'.cell? ⟨R.b, 17, none⟩ = some (.slice R.own.va R.own.vn R.own.vc))) (by kernel_rfl) ⟨d18, d10, d17⟩ (fun hHeld => ?_)
              simp only [Act.put, List.size_toArray, List.length_cons, List.length_nil, Nat.zero_add]
              refine tkI 0 (.pointer (some ⟨R.b, 0, none⟩)) rfl hHeld ?_
              simp only [Act.put, gA, gB, gC, gD, gE, gF]
              refine tkI 1 (.pointer (some ⟨R.b, 0, none⟩)) rfl hHeld ?_
              simp only [Act.put, gA, gB, gC, gD, gE, gF]
              refine tkI 2 (.pointer (some ⟨R.b, 18, none⟩)) rfl hHeld ?_
              simp only [Act.put, gA, gB, gC, gD, gE, gF]
              refine tkL 3 (.slice (some ⟨g, 0, none⟩) R.all.length hc) rfl (fun w' hS => by (obtain ⟨s0, s1, s2⟩ := hS; go_simp)) hHeld ?_
              simp only [Act.put, gA, gB, gC, gD, gE, gF]
              refine tkI 4 (.int .i64 (j : Int)) rfl hHeld ?_
              simp only [Act.put, gA, gB, gC, gD, gE, gF]
              refine tkL 5 (.pointer (some ⟨g, j * 11, none⟩)) rfl (fun w' hS => by (go_simp <;> first | omega | simp_all | (simp; omega))) hHeld ?_
              simp only [Act.put, gA, gB, gC, gD, gE, gF]
              refine tkI 6 (.pointer (some ⟨g, j * 11 + 2, none⟩)) rfl hHeld ?_
              simp only [Act.put, gA, gB, gC, gD, gE, gF]
              refine tkI 7 (.pointer (some ⟨g, j * 11 + 10, none⟩)) rfl hHeld ?_
              simp only [Act.put, gA, gB, gC, gD, gE, gF]
              refine tkL 8 (.slice y.p.va y.p.vn y.p.vc) rfl (fun w' hS => by (obtain ⟨s0, s1, s2⟩ := hS; go_simp)) hHeld ?_
              simp only [Act.put, gA, gB, gC, gD, gE, gF]
              refine tkI 9 (.pointer (some ⟨R.b, 0, none⟩)) rfl hHeld ?_
              simp only [Act.put, gA, gB, gC, gD, gE, gF]
              refine tkI 10 (.pointer (some ⟨R.b, 0, none⟩)) rfl hHeld ?_
              simp only [Act.put, gA, gB, gC, gD, gE, gF]
              refine tkI 11 (.pointer (some ⟨R.b, 9, none⟩)) rfl hHeld ?_
              simp only [Act.put, gA, gB, gC, gD, gE, gF]
              refine tkI 12 (.pointer (some ⟨R.b, 17, none⟩)) rfl hHeld ?_
              simp only [Act.put, gA, gB, gC, gD, gE, gF]
              refine tkL 13 (.slice R.own.va R.own.vn R.own.vc) rfl (fun w' hS => by (obtain ⟨s0, s1, s2⟩ := hS; go_simp)) hHeld ?_
              simp only [Act.put, gA, gB, gC, gD, gE, gF]
              refine wpAnyH_ready (rs := [14]) (by kernel_rfl) (by simp) ?_
              refine AllReadyH.cons rfl (fun K hK => ?_) AllReadyH.nil
              go_simp
              refine (HEd).mono ?_
              rintro e z2 ⟨rfl, hb2⟩
              have HB2' : Hid (Below wr.heap.size wr z2) := bstep HBd.out hb2
              refine hK.out _ _ ⟨below_at hb2 d18, below_at hb2 d10, below_at hb2 d17⟩ (fun hHeld => ?_)
              clear hK K
              refine tkI 15 (.bool bb) rfl hHeld ?_
              simp only [Act.put, gA, gB, gC, gD, gE, gF]
              refine wpAnyH_done (by kernel_rfl) ?_ _
              clear hHeld
              have HBz : Hid (Below w.heap.size w z2) := bstep HB.out HB2'.out
              clear d18 d10 d17 HEd
              cases bb with
              | true =>
                have HE : Hid (∃ k_1 : Nat, k_1 ≤ R.n ∧ Value.int .i64 ((k : Int) + 1) = .int .i64 (k_1 : Int) ∧ (∀ i, i < k_1 → R.ragP i = true) ∧ Below w.heap.size w z2) := HN.out z2 HBz.out HP.out
                clear HN HF
                go_wp2
                first
                  | exact ⟨HE.out, by simp [intOf]; omega⟩
                  | (go_roundw
                     case rel => exact HE.out
                     case measure => simp [intOf]; omega)
              | false =>
                have HV2 : Hid (R.ragr = false) := HF.out HP.out
                clear HN HF
                go_wp2
                go_ret
                exact ⟨by rw [HV2.out]; rfl, HBz.out⟩
      · obtain rfl : k = R.n := by omega
        have j2 : decide ((R.n : Int) < (R.n : Int)) = false := decide_eq_false (by omega)
        have HV2 : Hid (R.ragr = true) := by
          show _ = _
          rw [HV.out, List.all_eq_true]
          intro i hi
          exact hall i (List.mem_range.1 hi)
        clear hR hall
        go_wp2
        go_ret
        exact ⟨by rw [HV2.out]; rfl, hb⟩
end
end Go.Proofs.Ytbdefhagpgpoiac.Mb
namespace Go.Proofs.Ytbdefhagpgpoiac.Mb
open Go.RowKit
set_option linter.unusedVariables false
set_option maxRecDepth 100000
set_option linter.unusedSimpArgs false
section
variable {A A' : Ag} {w w' W : World} {B : Nat} {T : Int} {R R' : Rg}
theorem wpList_append_rd {P : Program} (w : World) {ops : Array Oper} {rest : List Oper} {o : Oper} {a : Act} {Q : Exit → Act → World → Prop} (hgd : o.guard = none) (s x : Operand) (t : TypeId)
    (ho : o.op = .call { callee := .builtin .append, args := #[s, x], argTypes := #[t, t] })
    (base : Nat) (e : TypeId) (i : TypeInfo) (z : Value) (bytes : Nat) (ht : P.underlying t = some (.slice e)) (hi : P.info? e = some i) (hz : i.zero = some z)
    (hsize : i.size = 1) (hby : i.bytes = bytes) (hzs : z.cells.size = 1)
    (v : Value) (n : Nat) (xs : List Value) (hs : a.eval s = v) (hown : w.ownsRow base e 1 v n xs)
    (ao : Option Addr) (m c : Nat) (news : List Value) (hx : a.eval x = .slice ao m c) (hnone : ao = none → m = 0 ∧ c = 0) (hl : news.length = m) (hnews : ∀ ad, ao = some ad → ∀ j u, news[j]? = some u → w.cell? (ad.add j) = some u) (h1 : ∀ u ∈ news, u.oneCell' = true)
    (h63 : n + m ≤ maxLen) (hbytes : (n + m) * bytes ≤ 140737488355328) (hbase : base ≤ w.heap.size)
    (h : ∀ v' w', w'.ownsRow base e 1 v' (n + m) (xs ++ news) → w.grownBy w' v.ownBlock → wpList P ops Q rest (a.put o.dst v') w') : wpList P ops Q (o :: rest) a w := by
  cases ao with
  | some ad => exact wpList_append_own w hgd s x t ho base e i z 1 bytes ht hi hz hsize hby hzs (by decide) v n xs hs hown ad m c news hx (by omega) (hnews ad rfl) h1 h63 hbytes hbase fun v' w' h2 h3 _ => h v' w' h2 h3
  | none =>
    obtain ⟨rfl, rfl⟩ := hnone rfl
    obtain rfl : news = [] := List.eq_nil_of_length_eq_zero hl
    exact wpList_append_own_none hgd s x t ho base e i 1 ht hi v n xs hs hown hx (h v w (by simpa using hown) (World.grownBy.refl _ _))
theorem rd_cells {ao : Option Addr} {n : Nat} {xs : List Int} (h : RdI w ao n xs) : ∀ ad, ao = some ad → ∀ j u, (ints xs)[j]? = some u → w.cell? (ad.add j) = some u := by
  intro ad ha
  obtain ⟨h1, h2⟩ := h
  rcases h2 with h2 | ⟨b, o, e, hc⟩
  · obtain rfl : xs = [] := List.eq_nil_of_length_eq_zero (by omega)
    intro j u hu
    simp [ints] at hu
  · obtain rfl : ad = ⟨b, o, none⟩ := by rw [ha] at e; simpa using e
    intro j u hu
    have hj : j < n := by
      have := (List.getElem?_eq_some_iff.1 hu).1
      rw [ints_len] at this
      omega
    rw [Addr.add_lit, hc j hj]
    have e2 : (ints xs)[j]? = some (.int .i64 (xs.getD j 0)) := by simp [ints, List.getD, show j < xs.length by omega]
    rw [e2] at hu
    exact hu
theorem row_nil (w : World) (B t s : Nat) : w.ownsRow B t s (.slice none 0 0) 0 [] := ⟨by simp, .inl ⟨rfl, rfl⟩⟩
def mkI (k : Nat) : List Int := (List.range k).map fun (i : Nat) => (77 : Int) + (i : Int)
theorem mkI_succ (k : Nat) : mkI (k + 1) = mkI k ++ [(77 : Int) + (k : Int)] := by simp [mkI, List.range_succ]
theorem mkI_at (k i : Nat) (hi : i < k) : (mkI k).getD i 0 = 77 + (i : Int) := by simp [mkI, List.getD, hi]
def MarkedF (w : World) (B g n c : Nat) (xs : List Int) : Prop := w.ownsRow B 3 1 (.slice (some ⟨g, 0, none⟩) (n + 64) c) (n + 64) (ints (xs ++ mkI 64))
set_option maxHeartbeats 2000000 in
theorem fresh_any {ao : Option Addr} {n c : Nat} {xs : List Int} (hr : RdI w ao n xs) (hnone : ao = none → c = 0) (hlen : n ≤ 17592186043904) : Calls Try.prog 11 #[.slice ao n c] w fun e w' => ∃ g cap, e = .returned (.slice (some ⟨g, 0, none⟩) n cap) ∧ MarkedF w' w.heap.size g n cap xs ∧ Below w.heap.size w w' := by
  obtain ⟨i0, hi, hz0, hz1, hz2⟩ := info_parts info_i
  have hlb := hr.1
  have Hr : Hid (RdI w ao n xs) := hr
  have hn0 : ao = none → n = 0 := fun e => by
    rcases hr.2 with h | ⟨b, o, h, _⟩
    · exact h
    · rw [e] at h
      cases h
  have Hnone : Hid (ao = none → n = 0 ∧ c = 0) := fun e => ⟨hn0 e, hnone e⟩
  clear hr hnone hn0
  go_enter Try.func11, Try.ntmps11
  go_wp2_with (first
    | (at_builtin; refine wpList_append_rd _ rfl _ _ 36 rfl w.heap.size 3 i0 (.int .i64 0) 8 Try.underlying36 hi hz0 hz1 hz2 rfl (.slice none 0 0) 0 [] rfl (row_nil _ _ _ _) _ _ _ (ints xs) rfl Hnone.out (by rw [ints_len]; exact hlb) (rd_cells Hr.out) (ints_one xs) ?c1 ?c2 (Nat.le_refl _) ?_)
    | fail)
  case c1 => unfold maxLen; omega
  case c2 => omega
  intro v' w2 hown' hgrow
  have HO : Hid (w2.ownsRow w.heap.size 3 1 v' n (ints xs)) := by
    show World.ownsRow _ _ _ _ _ _ _
    simpa using hown'
  have HB : Hid (Below w.heap.size w w2) := (Below.refl _ w).grown hgrow (Nat.le_refl _) (fun k hk => by simp [Value.ownBlock] at hk)
  clear hown' hgrow
  go_wp2
  go_loopw [3, 4] (fun v i wr => ∃ k : Nat, k ≤ 64 ∧ i = .int .i64 k ∧ wr.ownsRow w.heap.size 3 1 v (n + k) (ints (xs ++ mkI k)) ∧ Below w.heap.size w wr) (fun _ i _ => 64 - (intOf i).toNat)
  case atStart => exact ⟨0, Nat.zero_le _, rfl, by simpa [mkI] using HO.out, HB.out⟩
  case round =>
    obtain ⟨k, hk, rfl, ho, hb⟩ := hrel
    by_cases hlt : k < 64
    · have HO : Hid (wr.ownsRow w.heap.size 3 1 u3 (n + k) (ints (xs ++ mkI k))) := ho
      have HB : Hid (Below w.heap.size w wr) := hb
      have hws := hb.size
      have i1 : (0 : Int) ≤ (k : Int) := Int.natCast_nonneg _
      have i2 : (k : Int) < 64 := by omega
      have Hmk : Hid (ints (xs ++ mkI (k + 1)) = ints (xs ++ mkI k) ++ [.int .i64 (77 + (k : Int))]) := by
        show _ = _
        rw [mkI_succ]; simp [ints]
      generalize ints (xs ++ mkI k) = T at HO Hmk
      clear ho hb
      go_wp2_with (first
        | (at_builtin; refine wpList_append_lies _ rfl _ _ 36 rfl w.heap.size 3 i0 (.int .i64 0) 1 8 Try.underlying36 hi hz0 hz1 hz2 rfl (by omega) u3 (n + k) T rfl (World.ownsRow.alloc HO.out _) _ 1 1 _ rfl rfl (World.news_of_block (heap_alloc_new _ _)) (by simp [Value.oneCell']) (by omega) (by unfold maxLen; omega) (by omega) (by simp; omega) _ rfl ?_; intro g3 cap3 w3 hown3 hgrow3 hat3 hlt3)
        | fail)
      have hb3 : Below w.heap.size w w3 := (balloc HB.out).grown hgrow3 (by simp; omega) (fun q hq => (World.ownsRow.lt HO.out q hq).1)
      clear hgrow3 hat3
      first
        | exact ⟨⟨k + 1, by omega, by go_num, by rw [Hmk.out, ← Nat.add_assoc]; simpa using hown3, hb3⟩, by simp [intOf]; omega⟩
        | (go_roundw
           case rel => exact ⟨k + 1, by omega, by go_num, by rw [Hmk.out, ← Nat.add_assoc]; simpa using hown3, hb3⟩
           case measure => simp [intOf]; omega)
    · obtain rfl : k = 64 := by omega
      rcases ho.2 with ⟨h1, h2⟩ | ⟨g, cap, cur, hv, hg1, hg2, hnc, _⟩
      · omega
      · subst hv
        have i1 : (0 : Int) ≤ (n : Int) := Int.natCast_nonneg _
        have i2 : (n : Int) ≤ (cap : Int) := by omega
        have HO : Hid (wr.ownsRow w.heap.size 3 1 (.slice (some ⟨g, 0, none⟩) (n + 64) cap) (n + 64) (ints (xs ++ mkI 64))) := ho
        clear ho hg2
        go_wp2
        go_ret
        exact ⟨g, cap, by simp, HO.out, hb⟩
theorem MarkedF.cell {g n c : Nat} {xs : List Int} (h : MarkedF w B g n c xs) (i : Nat) (hi : i < n + 64) : w.cell? ⟨g, i, none⟩ = some (.int .i64 ((xs ++ mkI 64).getD i 0)) := by
  have hr := own_rd h
  obtain ⟨b, o, e, hc⟩ := hr.at hi
  cases e
  rwa [Nat.zero_add] at hc
theorem MarkedF.rd {g n c : Nat} {xs : List Int} (h : MarkedF w B g n c xs) (hn : xs.length = n) : RdI w (some ⟨g, 0, none⟩) n xs := by
  refine ⟨hn, .inr ⟨g, 0, rfl, fun i hi => ?_⟩⟩
  rw [Nat.zero_add, h.cell i (by omega)]
  simp [List.getD, List.getElem?_append_left (show i < xs.length by omega)]
theorem MarkedF.at {g n c : Nat} {xs : List Int} (h : MarkedF w B g n c xs) (hn : xs.length = n) {k : Nat} (hk : k < 64) : w.cell? ⟨g, n + k, none⟩ = some (.int .i64 (77 + (k : Int))) := by
  rw [h.cell (n + k) (by omega)]
  have := mkI_at 64 k hk
  simp only [List.getD] at this ⊢
  rw [List.getElem?_append_right (by omega), show n + k - xs.length = k by omega, this]
theorem MarkedF.cap {g n c : Nat} {xs : List Int} (h : MarkedF w B g n c xs) : n + 64 ≤ c := by
  rcases h.2 with ⟨h1, h2⟩ | ⟨g, cap, cur, hv, hg1, hg2, hnc, _⟩
  · omega
  · simp at hv; omega
set_option maxHeartbeats 2000000 in
theorem intact_any {ao : Option Addr} {g n c cap : Nat} {xs : List Int} (hm : MarkedF w B g n cap xs) (hr : RdI w ao n xs) (hlen : n ≤ 17592186043904) : Calls Try.prog 14 #[.slice (some ⟨g, 0, none⟩) n cap, .slice ao n c] w fun e w' => e = .returned (.bool true) ∧ Below w.heap.size w w' := by
  have hc := hm.cap
  have HS := ints_any (c1 := cap) (c2 := c) (hm.rd hr.1) hr (by omega)
  rw [decide_eq_true rfl] at HS
  have HM : Hid (∀ k, k < 64 → w.cell? ⟨g, n + k, none⟩ = some (.int .i64 (77 + (k : Int)))) := fun k hk => hm.at hr.1 hk
  clear hm hr
  go_enter Try.func14, Try.ntmps14
  have i0 : (0 : Int) ≤ (n : Int) + 64 := by omega
  have i9 : (n : Int) + 64 ≤ (cap : Int) := by omega
  go_wp2
  go_loopw [6] (fun i wr => ∃ k : Nat, k ≤ 64 ∧ i = .int .i64 k ∧ wr = w) (fun i _ => 64 - (intOf i).toNat)
  case atStart => exact ⟨0, Nat.zero_le _, rfl, rfl⟩
  case round =>
    obtain ⟨k, hk, rfl, rfl⟩ := hrel
    by_cases hlt : k < 64
    · have hcell := HM.out k hlt
      have i1 : (0 : Int) ≤ (k : Int) := Int.natCast_nonneg _
      have i2 : (k : Int) < 64 := by omega
      have i3 : (0 : Int) ≤ (n : Int) + (k : Int) := by omega
      have i4 : (n : Int) + (k : Int) < (n : Int) + 64 := by omega
      have i5 : ((n : Int) + (k : Int)).toNat = n + k := by omega
      go_wp2
      go_roundw
      case rel => exact ⟨k + 1, by omega, by go_num, (by first | trivial | rfl)⟩
      case measure => simp [intOf]; omega
    · obtain rfl : k = 64 := by omega
      go_wp2_with (first | (go_at_call 25; refine HS.mono ?_; rintro e w1 ⟨rfl, hb1⟩) | fail)
      go_ret
      exact ⟨rfl, hb1⟩
set_option maxHeartbeats 2000000 in
theorem spoil_any {g n cap len : Nat} {cur : Array Value} (hg : w.heap[g]? = some (.cells cur 3 (0, 0))) (hn : n ≤ cur.size) (hlen : n ≤ 17592186044416) : Calls Try.prog 15 #[.slice (some ⟨g, 0, none⟩) n cap] w fun e w' => e = .returned (.tuple #[]) ∧ Kept w w' (fun j => j = g) := by
  go_enter Try.func15, Try.ntmps15
  go_wp2
  go_loopw [2] (fun i wr => ∃ k : Nat, k ≤ n ∧ i = .int .i64 k ∧ (∃ cur' : Array Value, wr.heap[g]? = some (.cells cur' 3 (0, 0)) ∧ cur'.size = cur.size) ∧ Kept w wr (fun j => j = g)) (fun i _ => n - (intOf i).toNat)
  case atStart => exact ⟨0, Nat.zero_le _, rfl, ⟨cur, hg, rfl⟩, Kept.refl _ _⟩
  case round =>
    obtain ⟨k, hk, rfl, ⟨cur', hc, hs⟩, hkt⟩ := hrel
    by_cases hlt : k < n
    · have hcell : wr.cell? ⟨g, k, none⟩ = some (cur'.getD k undef) := by rw [blk_cell hc]; simp [show k < cur'.size by omega]
      have hz : wr.frozen? ⟨g, k, none⟩ = false := frozen_of_row wr _ _ _ _ hc
      have i1 : (0 : Int) ≤ (k : Int) := Int.natCast_nonneg _
      have i2 : (k : Int) < (n : Int) := by omega
      have HE : Hid (∃ k_1 : Nat, k_1 ≤ n ∧ Value.int .i64 ((k : Int) + 1) = .int .i64 (k_1 : Int) ∧ (∃ cur'' : Array Value, (wr.setCell ⟨g, k, none⟩ (.int .i64 5)).heap[g]? = some (.cells cur'' 3 (0, 0)) ∧ cur''.size = cur.size) ∧ Kept w (wr.setCell ⟨g, k, none⟩ (.int .i64 5)) (fun j => j = g)) := ⟨k + 1, by omega, by simp, ⟨_, blk_set hc rfl, by simp [hs]⟩, hkt.trans (kset _ _ _ _ rfl)⟩
      generalize cur'.getD k undef = cv at hcell
      generalize hM : wr.setCell ⟨g, k, none⟩ (.int .i64 5) = M at HE
      clear hc hs hkt hg hn
      go_wp2
      first
        | exact ⟨HE.out, by simp [intOf]; omega⟩
        | (go_roundw
           case rel => exact HE.out
           case measure => simp [intOf]; omega)
    · obtain rfl : k = n := by omega
      have j2 : decide ((k : Int) < (k : Int)) = false := decide_eq_false (by omega)
      clear hc hg
      go_wp2
      go_end0
      exact ⟨rfl, hkt⟩
end
end Go.Proofs.Ytbdefhagpgpoiac.Mb
