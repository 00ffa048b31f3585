import Derived.Test.YtbdefhagpgpoiacQ00
import Derived.Test.YtbdefhagpgpoiacQ33
namespace Go.Proofs.Ytbdefhagpgpoiac.Mb
open Go.RowKit
set_option linter.unusedVariables false
set_option maxRecDepth 100000
set_option linter.unusedSimpArgs false
section
variable {A A' : Ag} {w w' W : World} {B : Nat} {T : Int} {R R' : Rg}
theorem Rg.Ok.still' (h : R.Ok w B) (hb : Below w.heap.size w w') : R.Ok w' B := h.still hb
set_option maxHeartbeats 8000000 in
theorem rbegin_yes0 (h : R.Ok w B) (hL : R.all.length ≤ 1000000000000) {ao : Option Addr} {c : Nat} {xs : List Int} (hr : RdI w ao R.n xs) (hc : 0 ≤ R.own.cid ∧ R.own.cid < 4611686018427387904) (hv : 0 ≤ R.own.rev ∧ R.own.rev < 4611686018427387904) (he : 0 ≤ R.id.getD 0 0 ∧ R.id.getD 0 0 < 4611686018427387904) (hk : R.k = 0) : Calls Try.prog 36 #[.pointer (some ⟨R.b, 0, none⟩), .slice ao R.n c] w fun e w' => ∃ b1' c1' b2' c2', e = .returned (.tuple #[.agg [.slice b1' R.n c1', .int .i64 (R.own.cid + 1), .int .i64 (R.own.rev + 1), .int .i64 R.own.top, .int .i64 (R.own.prev[0]?.getD 0), .int .i64 (R.own.prev[1]?.getD 0), .int .i64 (R.own.prev[2]?.getD 0), .int .i64 (R.own.prev[3]?.getD 0), .slice b2' R.n c2'].toArray, .bool true]) ∧ RowI w' w.heap.size b1' R.n c1' xs ∧ RowI w' w.heap.size b2' R.n c2' (rvecN R xs (R.own.cid + 1) R.n) ∧ Below w.heap.size w w' := by
  generalize hW1 : w.alloc (.cells [.slice none 0 0, .int .i64 0, .int .i64 0, .int .i64 0, .int .i64 0, .int .i64 0, .int .i64 0, .int .i64 0, .slice none 0 0].toArray 40) = W1
  have b1 : Below w.heap.size w W1 := by rw [← hW1]; exact balloc (Below.refl _ _)
  have k1 : W1.heap[w.heap.size]? = some (.cells [.slice none 0 0, .int .i64 0, .int .i64 0, .int .i64 0, .int .i64 0, .int .i64 0, .int .i64 0, .int .i64 0, .slice none 0 0].toArray 40 (0, 0)) := by rw [← hW1]; exact heap_alloc_new w _
  generalize hW2 : W1.alloc (.cells [.slice R.own.sa R.own.sn R.own.sc, .int .i64 R.own.cid, .int .i64 R.own.rev, .int .i64 R.own.top, .int .i64 (R.own.prev[0]?.getD 0), .int .i64 (R.own.prev[1]?.getD 0), .int .i64 (R.own.prev[2]?.getD 0), .int .i64 (R.own.prev[3]?.getD 0), .slice R.own.va R.own.vn R.own.vc].toArray 40) = W2
  have b2 : Below W1.heap.size W1 W2 := by rw [← hW2]; exact balloc (Below.refl _ _)
  have k2 : W2.heap[W1.heap.size]? = some (.cells [.slice R.own.sa R.own.sn R.own.sc, .int .i64 R.own.cid, .int .i64 R.own.rev, .int .i64 R.own.top, .int .i64 (R.own.prev[0]?.getD 0), .int .i64 (R.own.prev[1]?.getD 0), .int .i64 (R.own.prev[2]?.getD 0), .int .i64 (R.own.prev[3]?.getD 0), .slice R.own.va R.own.vn R.own.vc].toArray 40 (0, 0)) := by rw [← hW2]; exact heap_alloc_new W1 _
  have k1' := (b2.block _ (lt_heap k1)).trans k1
  have R9 : Hid (W1.rangeAt R.b 9 [.slice R.own.sa R.own.sn R.own.sc, .int .i64 R.own.cid, .int .i64 R.own.rev, .int .i64 R.own.top, .int .i64 (R.own.prev[0]?.getD 0), .int .i64 (R.own.prev[1]?.getD 0), .int .i64 (R.own.prev[2]?.getD 0), .int .i64 (R.own.prev[3]?.getD 0), .slice R.own.va R.own.vn R.own.vc]) := (h.still b1).own_r
  have hR2 := (h.still b1).still b2
  have e3 : W2.cell? ⟨R.b, 3, none⟩ = some (.int .i64 (R.id[0]?.getD 0)) := hR2.c 3
  have c1 : W2.cell? ⟨W1.heap.size, 1, none⟩ = some (.int .i64 R.own.cid) := blk_cell k2 1
  have c2 : W2.cell? ⟨W1.heap.size, 2, none⟩ = some (.int .i64 R.own.rev) := blk_cell k2 2
  have HR2 : Hid (R.Ok W2 B) := hR2
  have HK : Hid ((W2.heap[w.heap.size]? = some (.cells [.slice none 0 0, .int .i64 0, .int .i64 0, .int .i64 0, .int .i64 0, .int .i64 0, .int .i64 0, .int .i64 0, .slice none 0 0].toArray 40 (0, 0))) ∧ (W2.heap[W1.heap.size]? = some (.cells [.slice R.own.sa R.own.sn R.own.sc, .int .i64 R.own.cid, .int .i64 R.own.rev, .int .i64 R.own.top, .int .i64 (R.own.prev[0]?.getD 0), .int .i64 (R.own.prev[1]?.getD 0), .int .i64 (R.own.prev[2]?.getD 0), .int .i64 (R.own.prev[3]?.getD 0), .slice R.own.va R.own.vn R.own.vc].toArray 40 (0, 0)))) := ⟨k1', k2⟩
  have HB2 : Hid (Below w.heap.size w W2) := bstep b1 b2
  have s1 : w.heap.size < W1.heap.size := lt_heap k1
  have s2 : W1.heap.size < W2.heap.size := lt_heap k2
  have hbl : R.b < w.heap.size := lt_heap h.blk
  simp only [List.toArray] at hW1 hW2
  obtain ⟨ma, mc, hmv⟩ := own_slice h.mem
  have h16 := h.n16
  have hil := h.il
  generalize hM1 : W2.setCell ⟨W1.heap.size, 1, none⟩ (.int .i64 (R.own.cid + 1)) = M1
  have m1 : M1.heap[W1.heap.size]? = some (.cells [.slice R.own.sa R.own.sn R.own.sc, .int .i64 (R.own.cid + 1), .int .i64 R.own.rev, .int .i64 R.own.top, .int .i64 (R.own.prev[0]?.getD 0), .int .i64 (R.own.prev[1]?.getD 0), .int .i64 (R.own.prev[2]?.getD 0), .int .i64 (R.own.prev[3]?.getD 0), .slice R.own.va R.own.vn R.own.vc].toArray 40 (0, 0)) := by rw [← hM1]; exact blk_set k2 rfl
  generalize hM2 : M1.setCell ⟨W1.heap.size, 2, none⟩ (.int .i64 (R.own.rev + 1)) = M2
  have m2 : M2.heap[W1.heap.size]? = some (.cells [.slice R.own.sa R.own.sn R.own.sc, .int .i64 (R.own.cid + 1), .int .i64 (R.own.rev + 1), .int .i64 R.own.top, .int .i64 (R.own.prev[0]?.getD 0), .int .i64 (R.own.prev[1]?.getD 0), .int .i64 (R.own.prev[2]?.getD 0), .int .i64 (R.own.prev[3]?.getD 0), .slice R.own.va R.own.vn R.own.vc].toArray 40 (0, 0)) := by rw [← hM2]; exact blk_set m1 rfl
  have kk2 : Kept W2 M2 (fun j => j = W1.heap.size) := by rw [← hM2, ← hM1]; exact (kset (P := fun j => j = W1.heap.size) _ _ _ _ rfl).trans (kset (P := fun j => j = W1.heap.size) _ _ _ _ rfl)
  have B2 : Below w.heap.size w M2 := HB2.out.trans (kk2.below HB2.out.size (fun k hk e => by omega))
  have z2 := kk2.obj k1' (fun e => by omega)
  have HI := qints_any (c := c) (hr.still B2) (by omega)
  have g1 : W2.frozen? ⟨W1.heap.size, 1, none⟩ = false := frozen_of_row W2 _ _ _ _ k2
  have c2m : M1.cell? ⟨W1.heap.size, 2, none⟩ = some (.int .i64 R.own.rev) := blk_cell m1 2
  have g2 : M1.frozen? ⟨W1.heap.size, 2, none⟩ = false := frozen_of_row M1 _ _ _ _ m1
  have hw1 : IntKind.i64.wrap (R.own.cid + 1) = R.own.cid + 1 := wrap_id (by omega) (by omega)
  have hw2 : IntKind.i64.wrap (R.own.rev + 1) = R.own.rev + 1 := wrap_id (by omega) (by omega)
  have Hh : Hid (R.Ok w B) := h
  have Hr : Hid (RdI w ao R.n xs) := hr
  have Hm2 : Hid ((M2.heap[w.heap.size]? = some (.cells [.slice none 0 0, .int .i64 0, .int .i64 0, .int .i64 0, .int .i64 0, .int .i64 0, .int .i64 0, .int .i64 0, .slice none 0 0].toArray 40 (0, 0))) ∧ (M2.heap[W1.heap.size]? = some (.cells [.slice R.own.sa R.own.sn R.own.sc, .int .i64 (R.own.cid + 1), .int .i64 (R.own.rev + 1), .int .i64 R.own.top, .int .i64 (R.own.prev[0]?.getD 0), .int .i64 (R.own.prev[1]?.getD 0), .int .i64 (R.own.prev[2]?.getD 0), .int .i64 (R.own.prev[3]?.getD 0), .slice R.own.va R.own.vn R.own.vc].toArray 40 (0, 0)))) := ⟨z2, m2⟩
  have HBM2 : Hid (Below w.heap.size w M2) := B2
  have Hmv : Hid (R.mv = .slice ma R.k mc) := hmv
  have Hil : Hid (R.id.length = 4) := hil
  have q0 : (R.own.cid == 4611686018427387904) = false := by simp; omega
  have q1' : (R.own.rev == 4611686018427387904) = false := by simp; omega
  have q2' : (R.id[0]?.getD 0 == 4611686018427387904) = false := by
    have he2 := he.2
    have e : R.id.getD 0 0 = R.id[0]?.getD 0 := rfl
    rw [e] at he2
    simp
    omega
  have he' : R.id[0]?.getD 0 < 4611686018427387904 := he.2
  have hkI : (R.k : Int) = (R.k : Int) := rfl
  clear h hr hR2 b1 b2 k1 k2 k1' m1 m2 kk2 B2 z2 hmv hil he hkI
  go_enter Try.func36, Try.ntmps36
  go_wp2_with (first | (refine load_mid 40 (.tmp 9) R9.out _ Try.underlying40 rfl (by kernel_rfl) rfl rfl rfl ?_) | (refine wl_at 13 rfl ?_) | fail)
  refine wl_take (v := .bool false) (by kernel_rfl) (by (go_simp <;> first | omega | simp_all | (simp; omega))) ?_
  simp only [Act.put, gA, gB, gC, gD, gE, gF]
  refine wlT (.bool false) ?_
  simp only [Act.put, gA, gB, gC, gD, gE, gF]
  refine wlT (.pointer (some ⟨W1.heap.size, 2, none⟩)) ?_
  simp only [Act.put, gA, gB, gC, gD, gE, gF]
  refine wlT (.int .i64 R.own.rev) ?_
  simp only [Act.put, gA, gB, gC, gD, gE, gF]
  refine wl_take (v := .bool false) (by kernel_rfl) (by (go_simp <;> first | omega | simp_all | (simp; omega))) ?_
  simp only [Act.put, gA, gB, gC, gD, gE, gF]
  refine wlT (.bool false) ?_
  simp only [Act.put, gA, gB, gC, gD, gE, gF]
  refine wlT (.bool false) ?_
  simp only [Act.put, gA, gB, gC, gD, gE, gF]
  refine wlT (.pointer (some ⟨R.b, 0, none⟩)) ?_
  simp only [Act.put, gA, gB, gC, gD, gE, gF]
  refine wlT (.pointer (some ⟨R.b, 0, none⟩)) ?_
  simp only [Act.put, gA, gB, gC, gD, gE, gF]
  refine wlT (.pointer (some ⟨R.b, 3, none⟩)) ?_
  simp only [Act.put, gA, gB, gC, gD, gE, gF]
  refine wlT (.pointer (some ⟨R.b, 3, none⟩)) ?_
  simp only [Act.put, gA, gB, gC, gD, gE, gF]
  refine wlT (.pointer (some ⟨R.b, 3, none⟩)) ?_
  simp only [Act.put, gA, gB, gC, gD, gE, gF]
  refine wlT (.int .i64 (R.id[0]?.getD 0)) ?_
  simp only [Act.put, gA, gB, gC, gD, gE, gF]
  refine wl_take (v := .bool false) (by kernel_rfl) (by (go_simp <;> first | omega | simp_all | (simp; omega))) ?_
  simp only [Act.put, gA, gB, gC, gD, gE, gF]
  refine wlT (.bool false) ?_
  simp only [Act.put, gA, gB, gC, gD, gE, gF]
  refine ⟨?_⟩
  go_wp2_with (fail)
  refine HI.mono ?_
  rintro e w5 ⟨v1, rfl, ho1, hb5⟩
  obtain ⟨a1, q1, rfl⟩ := own_slice ho1
  have k25 := (hb5.block _ (lt_heap Hm2.out.2)).trans Hm2.out.2
  have k15 := (hb5.block _ (lt_heap Hm2.out.1)).trans Hm2.out.1
  have sM2 := lt_heap Hm2.out.2
  have B5 := bstep HBM2.out hb5
  generalize hM3 : w5.setCell ⟨W1.heap.size, 0, none⟩ (.slice a1 R.n q1) = M3
  have m3 : M3.heap[W1.heap.size]? = some (.cells [.slice a1 R.n q1, .int .i64 (R.own.cid + 1), .int .i64 (R.own.rev + 1), .int .i64 R.own.top, .int .i64 (R.own.prev[0]?.getD 0), .int .i64 (R.own.prev[1]?.getD 0), .int .i64 (R.own.prev[2]?.getD 0), .int .i64 (R.own.prev[3]?.getD 0), .slice R.own.va R.own.vn R.own.vc].toArray 40 (0, 0)) := by rw [← hM3]; exact blk_set k25 rfl
  have kk3 : Kept w5 M3 (fun j => j = W1.heap.size) := by rw [← hM3]; exact kset _ _ _ _ rfl
  have B3 : Below w.heap.size w M3 := B5.trans (kk3.below B5.size (fun k hk e => by omega))
  have o1 : RowI M3 w.heap.size a1 R.n q1 xs := own_lower (kk3.owns ho1 (own_ne ho1 k25 (by decide))) (by have := HBM2.out.size; omega)
  have z3 := kk3.obj k15 (fun e => by omega)
  have f5 : w5.cell? ⟨W1.heap.size, 0, none⟩ = some (.slice R.own.sa R.own.sn R.own.sc) := blk_cell k25 0
  have g5 : w5.frozen? ⟨W1.heap.size, 0, none⟩ = false := frozen_of_row w5 _ _ _ _ k25
  have x7 : M3.cell? ⟨R.b, 7, none⟩ = some (.slice ma R.k mc) := by rw [← Hmv.out]; exact (Hh.out.still' B3).c 7
  have BL := B3
  have oL := o1
  have zL := z3
  have mL := m3
  have hk' : decide ((0 : Int) < (R.k : Int)) = false := decide_eq_false (by omega)
  have HV := rvec_any (c := c) (Hh.out.still' BL) hL (Hr.out.still BL) (R.own.cid + 1)
  have xc : M3.cell? ⟨W1.heap.size, 1, none⟩ = some (.int .i64 (R.own.cid + 1)) := blk_cell mL 1
  have HBL : Hid (Below w.heap.size w M3) := BL
  have HoL : Hid (RowI M3 w.heap.size a1 R.n q1 xs) := oL
  have HmL : Hid ((M3.heap[w.heap.size]? = some (.cells [.slice none 0 0, .int .i64 0, .int .i64 0, .int .i64 0, .int .i64 0, .int .i64 0, .int .i64 0, .int .i64 0, .slice none 0 0].toArray 40 (0, 0))) ∧ (M3.heap[W1.heap.size]? = some (.cells [.slice a1 R.n q1, .int .i64 (R.own.cid + 1), .int .i64 (R.own.rev + 1), .int .i64 R.own.top, .int .i64 (R.own.prev[0]?.getD 0), .int .i64 (R.own.prev[1]?.getD 0), .int .i64 (R.own.prev[2]?.getD 0), .int .i64 (R.own.prev[3]?.getD 0), .slice R.own.va R.own.vn R.own.vc].toArray 40 (0, 0)))) := ⟨zL, mL⟩
  clear HI ho1 hb5 k25 k15 B5 m3 kk3 B3 o1 z3 BL oL zL mL hM1 hM2 c1 c2 c2m g1 g2 hw1 hw2 e3 R9 q0 q1' q2'
  go_wp2_with (first
    | fail)
  refine HV.mono ?_
  rintro e w6 ⟨v2, rfl, ho2, hb6⟩
  obtain ⟨a2, q2, rfl⟩ := own_slice ho2
  have k26 := (hb6.block _ (lt_heap HmL.out.2)).trans HmL.out.2
  have k16 := (hb6.block _ (lt_heap HmL.out.1)).trans HmL.out.1
  have B6 := bstep HBL.out hb6
  generalize hM6 : w6.setCell ⟨W1.heap.size, 8, none⟩ (.slice a2 R.n q2) = M6
  have m6 : M6.heap[W1.heap.size]? = some (.cells [.slice a1 R.n q1, .int .i64 (R.own.cid + 1), .int .i64 (R.own.rev + 1), .int .i64 R.own.top, .int .i64 (R.own.prev[0]?.getD 0), .int .i64 (R.own.prev[1]?.getD 0), .int .i64 (R.own.prev[2]?.getD 0), .int .i64 (R.own.prev[3]?.getD 0), .slice a2 R.n q2].toArray 40 (0, 0)) := by rw [← hM6]; exact blk_set k26 rfl
  have kk6 : Kept w6 M6 (fun j => j = W1.heap.size) := by rw [← hM6]; exact kset _ _ _ _ rfl
  have z6 := kk6.obj k16 (fun e => by omega)
  have f8 : w6.cell? ⟨W1.heap.size, 8, none⟩ = some (.slice R.own.va R.own.vn R.own.vc) := blk_cell k26 8
  have g8 : w6.frozen? ⟨W1.heap.size, 8, none⟩ = false := frozen_of_row w6 _ _ _ _ k26
  generalize hM7 : M6.setCells w.heap.size 0 [.slice a1 R.n q1, .int .i64 (R.own.cid + 1), .int .i64 (R.own.rev + 1), .int .i64 R.own.top, .int .i64 (R.own.prev[0]?.getD 0), .int .i64 (R.own.prev[1]?.getD 0), .int .i64 (R.own.prev[2]?.getD 0), .int .i64 (R.own.prev[3]?.getD 0), .slice a2 R.n q2] = M7
  have m7 : M7.heap[w.heap.size]? = some (.cells [.slice a1 R.n q1, .int .i64 (R.own.cid + 1), .int .i64 (R.own.rev + 1), .int .i64 R.own.top, .int .i64 (R.own.prev[0]?.getD 0), .int .i64 (R.own.prev[1]?.getD 0), .int .i64 (R.own.prev[2]?.getD 0), .int .i64 (R.own.prev[3]?.getD 0), .slice a2 R.n q2].toArray 40 (0, 0)) := by rw [← hM7]; exact sets_whole z6 rfl
  have kk7 : Kept M6 M7 (fun j => j = w.heap.size) := by rw [← hM7]; exact ksets (P := fun j => j = w.heap.size) (b := w.heap.size) rfl _ 0 M6
  have R6 : Hid (M6.rangeAt W1.heap.size 0 [.slice a1 R.n q1, .int .i64 (R.own.cid + 1), .int .i64 (R.own.rev + 1), .int .i64 R.own.top, .int .i64 (R.own.prev[0]?.getD 0), .int .i64 (R.own.prev[1]?.getD 0), .int .i64 (R.own.prev[2]?.getD 0), .int .i64 (R.own.prev[3]?.getD 0), .slice a2 R.n q2]) := blk_range m6
  have T7 : Hid (M6.there w.heap.size 0 9) := blk_there z6 rfl
  have oa := HoL.out.still hb6
  have ob := kk6.owns oa (own_ne oa k26 (by decide))
  have oc := kk7.owns ob (own_ne ob z6 (by decide))
  have pa := kk6.owns ho2 (own_ne ho2 k26 (by decide))
  have pb := kk7.owns pa (own_ne pa z6 (by decide))
  have HFin : Hid (∃ b1' c1' b2' c2', (Ending.returned (.tuple #[.agg [.slice a1 R.n q1, .int .i64 (R.own.cid + 1), .int .i64 (R.own.rev + 1), .int .i64 R.own.top, .int .i64 (R.own.prev[0]?.getD 0), .int .i64 (R.own.prev[1]?.getD 0), .int .i64 (R.own.prev[2]?.getD 0), .int .i64 (R.own.prev[3]?.getD 0), .slice a2 R.n q2].toArray, .bool true])) = .returned (.tuple #[.agg [.slice b1' R.n c1', .int .i64 (R.own.cid + 1), .int .i64 (R.own.rev + 1), .int .i64 R.own.top, .int .i64 (R.own.prev[0]?.getD 0), .int .i64 (R.own.prev[1]?.getD 0), .int .i64 (R.own.prev[2]?.getD 0), .int .i64 (R.own.prev[3]?.getD 0), .slice b2' R.n c2'].toArray, .bool true]) ∧ RowI M7 w.heap.size b1' R.n c1' xs ∧ RowI M7 w.heap.size b2' R.n c2' (rvecN R xs (R.own.cid + 1) R.n) ∧ Below w.heap.size w M7) := ⟨a1, q1, a2, q2, rfl, oc, own_lower pb (HBL.out.size), (B6.trans (kk6.below B6.size (fun k hk e => by omega))).trans (kk7.below (Nat.le_trans B6.size kk6.size) (fun k hk e => by omega))⟩
  clear HV ho2 hb6 k26 k16 B6 m6 kk6 z6 kk7 oa ob oc pa pb xc x7 f5 g5 hM3 hk'
  go_wp2_with (first
    | (refine load_mid 40 (.tmp 6) R6.out _ Try.underlying40 rfl (by kernel_rfl) rfl rfl rfl ?_)
    | (refine store_midL 40 (.tmp 4) (.tmp 66) (L := [.slice a1 R.n q1, .int .i64 (R.own.cid + 1), .int .i64 (R.own.rev + 1), .int .i64 R.own.top, .int .i64 (R.own.prev[0]?.getD 0), .int .i64 (R.own.prev[1]?.getD 0), .int .i64 (R.own.prev[2]?.getD 0), .int .i64 (R.own.prev[3]?.getD 0), .slice a2 R.n q2]) T7.out info_propose (by simp [Value.oneCell']) rfl rfl rfl rfl ?_; rw [hM7])
    | fail)
  (try simp only [Exit.inBlock, Exit.then])
  refine bodyPost_ret (v := .tuple #[.agg [.slice a1 R.n q1, .int .i64 (R.own.cid + 1), .int .i64 (R.own.rev + 1), .int .i64 R.own.top, .int .i64 (R.own.prev[0]?.getD 0), .int .i64 (R.own.prev[1]?.getD 0), .int .i64 (R.own.prev[2]?.getD 0), .int .i64 (R.own.prev[3]?.getD 0), .slice a2 R.n q2].toArray, .bool true]) ?_ ?_ ?_
  · exact results_cell_tmpA rfl _ _ w.heap.size 40 _ _ _ rfl rfl m7 Try.underlying40 rfl (by kernel_rfl)
  · rfl
  · exact HFin.out
set_option maxHeartbeats 8000000 in
theorem rbegin_yes1 (h : R.Ok w B) (hL : R.all.length ≤ 1000000000000) {ao : Option Addr} {c : Nat} {xs : List Int} (hr : RdI w ao R.n xs) (hc : 0 ≤ R.own.cid ∧ R.own.cid < 4611686018427387904) (hv : 0 ≤ R.own.rev ∧ R.own.rev < 4611686018427387904) (he : 0 ≤ R.id.getD 0 0 ∧ R.id.getD 0 0 < 4611686018427387904) (hk : 0 < R.k) : Calls Try.prog 36 #[.pointer (some ⟨R.b, 0, none⟩), .slice ao R.n c] w fun e w' => ∃ b1' c1' b2' c2', e = .returned (.tuple #[.agg [.slice b1' R.n c1', .int .i64 (R.own.cid + 1), .int .i64 (R.own.rev + 1), .int .i64 (R.id[0]?.getD 0), .int .i64 (R.id[0]?.getD 0), .int .i64 (R.id[1]?.getD 0), .int .i64 (R.id[2]?.getD 0), .int .i64 (R.id[3]?.getD 0), .slice b2' R.n c2'].toArray, .bool true]) ∧ RowI w' w.heap.size b1' R.n c1' xs ∧ RowI w' w.heap.size b2' R.n c2' (rvecN R xs (R.own.cid + 1) R.n) ∧ Below w.heap.size w w' := by
  generalize hW1 : w.alloc (.cells [.slice none 0 0, .int .i64 0, .int .i64 0, .int .i64 0, .int .i64 0, .int .i64 0, .int .i64 0, .int .i64 0, .slice none 0 0].toArray 40) = W1
  have b1 : Below w.heap.size w W1 := by rw [← hW1]; exact balloc (Below.refl _ _)
  have k1 : W1.heap[w.heap.size]? = some (.cells [.slice none 0 0, .int .i64 0, .int .i64 0, .int .i64 0, .int .i64 0, .int .i64 0, .int .i64 0, .int .i64 0, .slice none 0 0].toArray 40 (0, 0)) := by rw [← hW1]; exact heap_alloc_new w _
  generalize hW2 : W1.alloc (.cells [.slice R.own.sa R.own.sn R.own.sc, .int .i64 R.own.cid, .int .i64 R.own.rev, .int .i64 R.own.top, .int .i64 (R.own.prev[0]?.getD 0), .int .i64 (R.own.prev[1]?.getD 0), .int .i64 (R.own.prev[2]?.getD 0), .int .i64 (R.own.prev[3]?.getD 0), .slice R.own.va R.own.vn R.own.vc].toArray 40) = W2
  have b2 : Below W1.heap.size W1 W2 := by rw [← hW2]; exact balloc (Below.refl _ _)
  have k2 : W2.heap[W1.heap.size]? = some (.cells [.slice R.own.sa R.own.sn R.own.sc, .int .i64 R.own.cid, .int .i64 R.own.rev, .int .i64 R.own.top, .int .i64 (R.own.prev[0]?.getD 0), .int .i64 (R.own.prev[1]?.getD 0), .int .i64 (R.own.prev[2]?.getD 0), .int .i64 (R.own.prev[3]?.getD 0), .slice R.own.va R.own.vn R.own.vc].toArray 40 (0, 0)) := by rw [← hW2]; exact heap_alloc_new W1 _
  have k1' := (b2.block _ (lt_heap k1)).trans k1
  have R9 : Hid (W1.rangeAt R.b 9 [.slice R.own.sa R.own.sn R.own.sc, .int .i64 R.own.cid, .int .i64 R.own.rev, .int .i64 R.own.top, .int .i64 (R.own.prev[0]?.getD 0), .int .i64 (R.own.prev[1]?.getD 0), .int .i64 (R.own.prev[2]?.getD 0), .int .i64 (R.own.prev[3]?.getD 0), .slice R.own.va R.own.vn R.own.vc]) := (h.still b1).own_r
  have hR2 := (h.still b1).still b2
  have e3 : W2.cell? ⟨R.b, 3, none⟩ = some (.int .i64 (R.id[0]?.getD 0)) := hR2.c 3
  have c1 : W2.cell? ⟨W1.heap.size, 1, none⟩ = some (.int .i64 R.own.cid) := blk_cell k2 1
  have c2 : W2.cell? ⟨W1.heap.size, 2, none⟩ = some (.int .i64 R.own.rev) := blk_cell k2 2
  have HR2 : Hid (R.Ok W2 B) := hR2
  have HK : Hid ((W2.heap[w.heap.size]? = some (.cells [.slice none 0 0, .int .i64 0, .int .i64 0, .int .i64 0, .int .i64 0, .int .i64 0, .int .i64 0, .int .i64 0, .slice none 0 0].toArray 40 (0, 0))) ∧ (W2.heap[W1.heap.size]? = some (.cells [.slice R.own.sa R.own.sn R.own.sc, .int .i64 R.own.cid, .int .i64 R.own.rev, .int .i64 R.own.top, .int .i64 (R.own.prev[0]?.getD 0), .int .i64 (R.own.prev[1]?.getD 0), .int .i64 (R.own.prev[2]?.getD 0), .int .i64 (R.own.prev[3]?.getD 0), .slice R.own.va R.own.vn R.own.vc].toArray 40 (0, 0)))) := ⟨k1', k2⟩
  have HB2 : Hid (Below w.heap.size w W2) := bstep b1 b2
  have s1 : w.heap.size < W1.heap.size := lt_heap k1
  have s2 : W1.heap.size < W2.heap.size := lt_heap k2
  have hbl : R.b < w.heap.size := lt_heap h.blk
  simp only [List.toArray] at hW1 hW2
  obtain ⟨ma, mc, hmv⟩ := own_slice h.mem
  have h16 := h.n16
  have hil := h.il
  generalize hM1 : W2.setCell ⟨W1.heap.size, 1, none⟩ (.int .i64 (R.own.cid + 1)) = M1
  have m1 : M1.heap[W1.heap.size]? = some (.cells [.slice R.own.sa R.own.sn R.own.sc, .int .i64 (R.own.cid + 1), .int .i64 R.own.rev, .int .i64 R.own.top, .int .i64 (R.own.prev[0]?.getD 0), .int .i64 (R.own.prev[1]?.getD 0), .int .i64 (R.own.prev[2]?.getD 0), .int .i64 (R.own.prev[3]?.getD 0), .slice R.own.va R.own.vn R.own.vc].toArray 40 (0, 0)) := by rw [← hM1]; exact blk_set k2 rfl
  generalize hM2 : M1.setCell ⟨W1.heap.size, 2, none⟩ (.int .i64 (R.own.rev + 1)) = M2
  have m2 : M2.heap[W1.heap.size]? = some (.cells [.slice R.own.sa R.own.sn R.own.sc, .int .i64 (R.own.cid + 1), .int .i64 (R.own.rev + 1), .int .i64 R.own.top, .int .i64 (R.own.prev[0]?.getD 0), .int .i64 (R.own.prev[1]?.getD 0), .int .i64 (R.own.prev[2]?.getD 0), .int .i64 (R.own.prev[3]?.getD 0), .slice R.own.va R.own.vn R.own.vc].toArray 40 (0, 0)) := by rw [← hM2]; exact blk_set m1 rfl
  have kk2 : Kept W2 M2 (fun j => j = W1.heap.size) := by rw [← hM2, ← hM1]; exact (kset (P := fun j => j = W1.heap.size) _ _ _ _ rfl).trans (kset (P := fun j => j = W1.heap.size) _ _ _ _ rfl)
  have B2 : Below w.heap.size w M2 := HB2.out.trans (kk2.below HB2.out.size (fun k hk e => by omega))
  have z2 := kk2.obj k1' (fun e => by omega)
  have HI := qints_any (c := c) (hr.still B2) (by omega)
  have g1 : W2.frozen? ⟨W1.heap.size, 1, none⟩ = false := frozen_of_row W2 _ _ _ _ k2
  have c2m : M1.cell? ⟨W1.heap.size, 2, none⟩ = some (.int .i64 R.own.rev) := blk_cell m1 2
  have g2 : M1.frozen? ⟨W1.heap.size, 2, none⟩ = false := frozen_of_row M1 _ _ _ _ m1
  have hw1 : IntKind.i64.wrap (R.own.cid + 1) = R.own.cid + 1 := wrap_id (by omega) (by omega)
  have hw2 : IntKind.i64.wrap (R.own.rev + 1) = R.own.rev + 1 := wrap_id (by omega) (by omega)
  have Hh : Hid (R.Ok w B) := h
  have Hr : Hid (RdI w ao R.n xs) := hr
  have Hm2 : Hid ((M2.heap[w.heap.size]? = some (.cells [.slice none 0 0, .int .i64 0, .int .i64 0, .int .i64 0, .int .i64 0, .int .i64 0, .int .i64 0, .int .i64 0, .slice none 0 0].toArray 40 (0, 0))) ∧ (M2.heap[W1.heap.size]? = some (.cells [.slice R.own.sa R.own.sn R.own.sc, .int .i64 (R.own.cid + 1), .int .i64 (R.own.rev + 1), .int .i64 R.own.top, .int .i64 (R.own.prev[0]?.getD 0), .int .i64 (R.own.prev[1]?.getD 0), .int .i64 (R.own.prev[2]?.getD 0), .int .i64 (R.own.prev[3]?.getD 0), .slice R.own.va R.own.vn R.own.vc].toArray 40 (0, 0)))) := ⟨z2, m2⟩
  have HBM2 : Hid (Below w.heap.size w M2) := B2
  have Hmv : Hid (R.mv = .slice ma R.k mc) := hmv
  have Hil : Hid (R.id.length = 4) := hil
  have q0 : (R.own.cid == 4611686018427387904) = false := by simp; omega
  have q1' : (R.own.rev == 4611686018427387904) = false := by simp; omega
  have q2' : (R.id[0]?.getD 0 == 4611686018427387904) = false := by
    have he2 := he.2
    have e : R.id.getD 0 0 = R.id[0]?.getD 0 := rfl
    rw [e] at he2
    simp
    omega
  have he' : R.id[0]?.getD 0 < 4611686018427387904 := he.2
  have hkI : (R.k : Int) = (R.k : Int) := rfl
  clear h hr hR2 b1 b2 k1 k2 k1' m1 m2 kk2 B2 z2 hmv hil he hkI
  go_enter Try.func36, Try.ntmps36
  go_wp2_with (first | (refine load_mid 40 (.tmp 9) R9.out _ Try.underlying40 rfl (by kernel_rfl) rfl rfl rfl ?_) | (refine wl_at 13 rfl ?_) | fail)
  refine wl_take (v := .bool false) (by kernel_rfl) (by (go_simp <;> first | omega | simp_all | (simp; omega))) ?_
  simp only [Act.put, gA, gB, gC, gD, gE, gF]
  refine wlT (.bool false) ?_
  simp only [Act.put, gA, gB, gC, gD, gE, gF]
  refine wlT (.pointer (some ⟨W1.heap.size, 2, none⟩)) ?_
  simp only [Act.put, gA, gB, gC, gD, gE, gF]
  refine wlT (.int .i64 R.own.rev) ?_
  simp only [Act.put, gA, gB, gC, gD, gE, gF]
  refine wl_take (v := .bool false) (by kernel_rfl) (by (go_simp <;> first | omega | simp_all | (simp; omega))) ?_
  simp only [Act.put, gA, gB, gC, gD, gE, gF]
  refine wlT (.bool false) ?_
  simp only [Act.put, gA, gB, gC, gD, gE, gF]
  refine wlT (.bool false) ?_
  simp only [Act.put, gA, gB, gC, gD, gE, gF]
  refine wlT (.pointer (some ⟨R.b, 0, none⟩)) ?_
  simp only [Act.put, gA, gB, gC, gD, gE, gF]
  refine wlT (.pointer (some ⟨R.b, 0, none⟩)) ?_
  simp only [Act.put, gA, gB, gC, gD, gE, gF]
  refine wlT (.pointer (some ⟨R.b, 3, none⟩)) ?_
  simp only [Act.put, gA, gB, gC, gD, gE, gF]
  refine wlT (.pointer (some ⟨R.b, 3, none⟩)) ?_
  simp only [Act.put, gA, gB, gC, gD, gE, gF]
  refine wlT (.pointer (some ⟨R.b, 3, none⟩)) ?_
  simp only [Act.put, gA, gB, gC, gD, gE, gF]
  refine wlT (.int .i64 (R.id[0]?.getD 0)) ?_
  simp only [Act.put, gA, gB, gC, gD, gE, gF]
  refine wl_take (v := .bool false) (by kernel_rfl) (by (go_simp <;> first | omega | simp_all | (simp; omega))) ?_
  simp only [Act.put, gA, gB, gC, gD, gE, gF]
  refine wlT (.bool false) ?_
  simp only [Act.put, gA, gB, gC, gD, gE, gF]
  refine ⟨?_⟩
  go_wp2_with (fail)
  refine HI.mono ?_
  rintro e w5 ⟨v1, rfl, ho1, hb5⟩
  obtain ⟨a1, q1, rfl⟩ := own_slice ho1
  have k25 := (hb5.block _ (lt_heap Hm2.out.2)).trans Hm2.out.2
  have k15 := (hb5.block _ (lt_heap Hm2.out.1)).trans Hm2.out.1
  have sM2 := lt_heap Hm2.out.2
  have B5 := bstep HBM2.out hb5
  generalize hM3 : w5.setCell ⟨W1.heap.size, 0, none⟩ (.slice a1 R.n q1) = M3
  have m3 : M3.heap[W1.heap.size]? = some (.cells [.slice a1 R.n q1, .int .i64 (R.own.cid + 1), .int .i64 (R.own.rev + 1), .int .i64 R.own.top, .int .i64 (R.own.prev[0]?.getD 0), .int .i64 (R.own.prev[1]?.getD 0), .int .i64 (R.own.prev[2]?.getD 0), .int .i64 (R.own.prev[3]?.getD 0), .slice R.own.va R.own.vn R.own.vc].toArray 40 (0, 0)) := by rw [← hM3]; exact blk_set k25 rfl
  have kk3 : Kept w5 M3 (fun j => j = W1.heap.size) := by rw [← hM3]; exact kset _ _ _ _ rfl
  have B3 : Below w.heap.size w M3 := B5.trans (kk3.below B5.size (fun k hk e => by omega))
  have o1 : RowI M3 w.heap.size a1 R.n q1 xs := own_lower (kk3.owns ho1 (own_ne ho1 k25 (by decide))) (by have := HBM2.out.size; omega)
  have z3 := kk3.obj k15 (fun e => by omega)
  have f5 : w5.cell? ⟨W1.heap.size, 0, none⟩ = some (.slice R.own.sa R.own.sn R.own.sc) := blk_cell k25 0
  have g5 : w5.frozen? ⟨W1.heap.size, 0, none⟩ = false := frozen_of_row w5 _ _ _ _ k25
  have x7 : M3.cell? ⟨R.b, 7, none⟩ = some (.slice ma R.k mc) := by rw [← Hmv.out]; exact (Hh.out.still' B3).c 7
  have x3 : M3.cell? ⟨R.b, 3, none⟩ = some (.int .i64 (R.id[0]?.getD 0)) := (Hh.out.still' B3).c 3
  have f3 : M3.cell? ⟨W1.heap.size, 3, none⟩ = some (.int .i64 R.own.top) := blk_cell m3 3
  have g3 : M3.frozen? ⟨W1.heap.size, 3, none⟩ = false := frozen_of_row M3 _ _ _ _ m3
  generalize hM4 : M3.setCell ⟨W1.heap.size, 3, none⟩ (.int .i64 (R.id[0]?.getD 0)) = M4
  have m4 : M4.heap[W1.heap.size]? = some (.cells [.slice a1 R.n q1, .int .i64 (R.own.cid + 1), .int .i64 (R.own.rev + 1), .int .i64 (R.id[0]?.getD 0), .int .i64 (R.own.prev[0]?.getD 0), .int .i64 (R.own.prev[1]?.getD 0), .int .i64 (R.own.prev[2]?.getD 0), .int .i64 (R.own.prev[3]?.getD 0), .slice R.own.va R.own.vn R.own.vc].toArray 40 (0, 0)) := by rw [← hM4]; exact blk_set m3 rfl
  have kk4 : Kept M3 M4 (fun j => j = W1.heap.size) := by rw [← hM4]; exact kset _ _ _ _ rfl
  have B4 : Below w.heap.size w M4 := B3.trans (kk4.below B3.size (fun k hk e => by omega))
  have R39 : Hid (M4.rangeAt R.b 3 [.int .i64 (R.id[0]?.getD 0), .int .i64 (R.id[1]?.getD 0), .int .i64 (R.id[2]?.getD 0), .int .i64 (R.id[3]?.getD 0)]) := range_sub (Hh.out.still' B4).blk rfl
  have T4 : Hid (M4.there W1.heap.size 4 4) := blk_there' m4 (by simp)
  generalize hM5 : M4.setCells W1.heap.size 4 [.int .i64 (R.id[0]?.getD 0), .int .i64 (R.id[1]?.getD 0), .int .i64 (R.id[2]?.getD 0), .int .i64 (R.id[3]?.getD 0)] = M5
  have m5 : M5.heap[W1.heap.size]? = some (.cells [.slice a1 R.n q1, .int .i64 (R.own.cid + 1), .int .i64 (R.own.rev + 1), .int .i64 (R.id[0]?.getD 0), .int .i64 (R.id[0]?.getD 0), .int .i64 (R.id[1]?.getD 0), .int .i64 (R.id[2]?.getD 0), .int .i64 (R.id[3]?.getD 0), .slice R.own.va R.own.vn R.own.vc].toArray 40 (0, 0)) := by rw [← hM5]; exact sets_list _ 4 M4 [.slice a1 R.n q1, .int .i64 (R.own.cid + 1), .int .i64 (R.own.rev + 1), .int .i64 (R.id[0]?.getD 0), .int .i64 (R.own.prev[0]?.getD 0), .int .i64 (R.own.prev[1]?.getD 0), .int .i64 (R.own.prev[2]?.getD 0), .int .i64 (R.own.prev[3]?.getD 0), .slice R.own.va R.own.vn R.own.vc] m4 (by simp)
  have kk5 : Kept M4 M5 (fun j => j = W1.heap.size) := by rw [← hM5]; exact ksets (P := fun j => j = W1.heap.size) (b := W1.heap.size) rfl _ 4 M4
  have BL : Below w.heap.size w M5 := B4.trans (kk5.below B4.size (fun k hk e => by omega))
  have oL : RowI M5 w.heap.size a1 R.n q1 xs := kk5.owns (kk4.owns o1 (own_ne o1 m3 (by decide))) (own_ne (kk4.owns o1 (own_ne o1 m3 (by decide))) m4 (by decide))
  have zL := kk5.obj (kk4.obj z3 (fun e => by omega)) (fun e => by omega)
  have mL := m5
  have hk' : decide ((0 : Int) < (R.k : Int)) = true := decide_eq_true (by omega)
  have HV := rvec_any (c := c) (Hh.out.still' BL) hL (Hr.out.still BL) (R.own.cid + 1)
  have xc : M5.cell? ⟨W1.heap.size, 1, none⟩ = some (.int .i64 (R.own.cid + 1)) := blk_cell mL 1
  have HBL : Hid (Below w.heap.size w M5) := BL
  have HoL : Hid (RowI M5 w.heap.size a1 R.n q1 xs) := oL
  have HmL : Hid ((M5.heap[w.heap.size]? = some (.cells [.slice none 0 0, .int .i64 0, .int .i64 0, .int .i64 0, .int .i64 0, .int .i64 0, .int .i64 0, .int .i64 0, .slice none 0 0].toArray 40 (0, 0))) ∧ (M5.heap[W1.heap.size]? = some (.cells [.slice a1 R.n q1, .int .i64 (R.own.cid + 1), .int .i64 (R.own.rev + 1), .int .i64 (R.id[0]?.getD 0), .int .i64 (R.id[0]?.getD 0), .int .i64 (R.id[1]?.getD 0), .int .i64 (R.id[2]?.getD 0), .int .i64 (R.id[3]?.getD 0), .slice R.own.va R.own.vn R.own.vc].toArray 40 (0, 0)))) := ⟨zL, mL⟩
  clear HI ho1 hb5 k25 k15 B5 m3 kk3 B3 o1 z3 BL oL zL mL hM1 hM2 c1 c2 c2m g1 g2 hw1 hw2 e3 R9 q0 q1' q2' m4 kk4 B4 m5 kk5
  go_wp2_with (first
    | (refine load_mid 38 (.tmp 57) R39.out _ Try.underlying38 rfl (by kernel_rfl) rfl rfl rfl ?_)
    | (refine store_midL 38 (.tmp 59) (.tmp 58) (L := [.int .i64 (R.id[0]?.getD 0), .int .i64 (R.id[1]?.getD 0), .int .i64 (R.id[2]?.getD 0), .int .i64 (R.id[3]?.getD 0)]) T4.out info_id (by simp [Value.oneCell']) rfl rfl rfl rfl ?_; rw [hM5])
    | fail)
  refine HV.mono ?_
  rintro e w6 ⟨v2, rfl, ho2, hb6⟩
  obtain ⟨a2, q2, rfl⟩ := own_slice ho2
  have k26 := (hb6.block _ (lt_heap HmL.out.2)).trans HmL.out.2
  have k16 := (hb6.block _ (lt_heap HmL.out.1)).trans HmL.out.1
  have B6 := bstep HBL.out hb6
  generalize hM6 : w6.setCell ⟨W1.heap.size, 8, none⟩ (.slice a2 R.n q2) = M6
  have m6 : M6.heap[W1.heap.size]? = some (.cells [.slice a1 R.n q1, .int .i64 (R.own.cid + 1), .int .i64 (R.own.rev + 1), .int .i64 (R.id[0]?.getD 0), .int .i64 (R.id[0]?.getD 0), .int .i64 (R.id[1]?.getD 0), .int .i64 (R.id[2]?.getD 0), .int .i64 (R.id[3]?.getD 0), .slice a2 R.n q2].toArray 40 (0, 0)) := by rw [← hM6]; exact blk_set k26 rfl
  have kk6 : Kept w6 M6 (fun j => j = W1.heap.size) := by rw [← hM6]; exact kset _ _ _ _ rfl
  have z6 := kk6.obj k16 (fun e => by omega)
  have f8 : w6.cell? ⟨W1.heap.size, 8, none⟩ = some (.slice R.own.va R.own.vn R.own.vc) := blk_cell k26 8
  have g8 : w6.frozen? ⟨W1.heap.size, 8, none⟩ = false := frozen_of_row w6 _ _ _ _ k26
  generalize hM7 : M6.setCells w.heap.size 0 [.slice a1 R.n q1, .int .i64 (R.own.cid + 1), .int .i64 (R.own.rev + 1), .int .i64 (R.id[0]?.getD 0), .int .i64 (R.id[0]?.getD 0), .int .i64 (R.id[1]?.getD 0), .int .i64 (R.id[2]?.getD 0), .int .i64 (R.id[3]?.getD 0), .slice a2 R.n q2] = M7
  have m7 : M7.heap[w.heap.size]? = some (.cells [.slice a1 R.n q1, .int .i64 (R.own.cid + 1), .int .i64 (R.own.rev + 1), .int .i64 (R.id[0]?.getD 0), .int .i64 (R.id[0]?.getD 0), .int .i64 (R.id[1]?.getD 0), .int .i64 (R.id[2]?.getD 0), .int .i64 (R.id[3]?.getD 0), .slice a2 R.n q2].toArray 40 (0, 0)) := by rw [← hM7]; exact sets_whole z6 rfl
  have kk7 : Kept M6 M7 (fun j => j = w.heap.size) := by rw [← hM7]; exact ksets (P := fun j => j = w.heap.size) (b := w.heap.size) rfl _ 0 M6
  have R6 : Hid (M6.rangeAt W1.heap.size 0 [.slice a1 R.n q1, .int .i64 (R.own.cid + 1), .int .i64 (R.own.rev + 1), .int .i64 (R.id[0]?.getD 0), .int .i64 (R.id[0]?.getD 0), .int .i64 (R.id[1]?.getD 0), .int .i64 (R.id[2]?.getD 0), .int .i64 (R.id[3]?.getD 0), .slice a2 R.n q2]) := blk_range m6
  have T7 : Hid (M6.there w.heap.size 0 9) := blk_there z6 rfl
  have oa := HoL.out.still hb6
  have ob := kk6.owns oa (own_ne oa k26 (by decide))
  have oc := kk7.owns ob (own_ne ob z6 (by decide))
  have pa := kk6.owns ho2 (own_ne ho2 k26 (by decide))
  have pb := kk7.owns pa (own_ne pa z6 (by decide))
  have HFin : Hid (∃ b1' c1' b2' c2', (Ending.returned (.tuple #[.agg [.slice a1 R.n q1, .int .i64 (R.own.cid + 1), .int .i64 (R.own.rev + 1), .int .i64 (R.id[0]?.getD 0), .int .i64 (R.id[0]?.getD 0), .int .i64 (R.id[1]?.getD 0), .int .i64 (R.id[2]?.getD 0), .int .i64 (R.id[3]?.getD 0), .slice a2 R.n q2].toArray, .bool true])) = .returned (.tuple #[.agg [.slice b1' R.n c1', .int .i64 (R.own.cid + 1), .int .i64 (R.own.rev + 1), .int .i64 (R.id[0]?.getD 0), .int .i64 (R.id[0]?.getD 0), .int .i64 (R.id[1]?.getD 0), .int .i64 (R.id[2]?.getD 0), .int .i64 (R.id[3]?.getD 0), .slice b2' R.n c2'].toArray, .bool true]) ∧ RowI M7 w.heap.size b1' R.n c1' xs ∧ RowI M7 w.heap.size b2' R.n c2' (rvecN R xs (R.own.cid + 1) R.n) ∧ Below w.heap.size w M7) := ⟨a1, q1, a2, q2, rfl, oc, own_lower pb (HBL.out.size), (B6.trans (kk6.below B6.size (fun k hk e => by omega))).trans (kk7.below (Nat.le_trans B6.size kk6.size) (fun k hk e => by omega))⟩
  clear HV ho2 hb6 k26 k16 B6 m6 kk6 z6 kk7 oa ob oc pa pb xc x7 f5 g5 hM3 hk' x3 f3 g3 hM4 hM5
  go_wp2_with (first
    | (refine load_mid 40 (.tmp 6) R6.out _ Try.underlying40 rfl (by kernel_rfl) rfl rfl rfl ?_)
    | (refine store_midL 40 (.tmp 4) (.tmp 66) (L := [.slice a1 R.n q1, .int .i64 (R.own.cid + 1), .int .i64 (R.own.rev + 1), .int .i64 (R.id[0]?.getD 0), .int .i64 (R.id[0]?.getD 0), .int .i64 (R.id[1]?.getD 0), .int .i64 (R.id[2]?.getD 0), .int .i64 (R.id[3]?.getD 0), .slice a2 R.n q2]) T7.out info_propose (by simp [Value.oneCell']) rfl rfl rfl rfl ?_; rw [hM7])
    | fail)
  (try simp only [Exit.inBlock, Exit.then])
  refine bodyPost_ret (v := .tuple #[.agg [.slice a1 R.n q1, .int .i64 (R.own.cid + 1), .int .i64 (R.own.rev + 1), .int .i64 (R.id[0]?.getD 0), .int .i64 (R.id[0]?.getD 0), .int .i64 (R.id[1]?.getD 0), .int .i64 (R.id[2]?.getD 0), .int .i64 (R.id[3]?.getD 0), .slice a2 R.n q2].toArray, .bool true]) ?_ ?_ ?_
  · exact results_cell_tmpA rfl _ _ w.heap.size 40 _ _ _ rfl rfl m7 Try.underlying40 rfl (by kernel_rfl)
  · rfl
  · exact HFin.out
end
end Go.Proofs.Ytbdefhagpgpoiac.Mb
