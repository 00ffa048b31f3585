import Derived.Test.YtbdefhagpgpoiacQ00
import Derived.Test.YtbdefhagpgpoiacQ43
import Derived.Deep.DeepCutAuto
namespace Go.Proofs.Ytbdefhagpgpoiac.Mb
open Go.RowKit
set_option linter.unusedVariables false
set_option maxRecDepth 100000
set_option linter.unusedSimpArgs false
section
variable {A A' : Ag} {w w' W : World} {B : Nat} {T : Int} {R R' : Rg}
theorem info_h : (Try.prog.info? 86).map (fun i => (i.zero, i.size, i.bytes)) = some (some (.agg #[.int .i64 0, .int .i64 0, .slice none 0 0, .int .i64 0, .int .i64 0, .int .i64 0, .int .i64 0, .int .i64 0, .int .i64 0, .int .i64 0, .slice none 0 0]), 11, 120) := by kernel_rfl
def Pq.tw (p : Pq) (a1 : Option Addr) (q1 : Nat) (a2 : Option Addr) (q2 : Nat) : Pq := { p with sa := a1, sc := q1, va := a2, vc := q2 }
theorem tw_tw (p : Pq) (a1 : Option Addr) (q1 : Nat) (a2 : Option Addr) (q2 : Nat) : Tw p (p.tw a1 q1 a2 q2) := ⟨rfl, rfl, rfl, rfl, rfl, rfl⟩
theorem own_slice1 {b t s n : Nat} {v : Value} {l : List Value} (h : w.ownsRow b t s v n l) (hn : 0 < n) : ∃ g c, v = .slice (some ⟨g, 0, none⟩) n c := by
  rcases h.2 with ⟨e1, e2⟩ | ⟨g0, cap0, cur, e0, _⟩
  · first | exact absurd e2 (by omega) | exact absurd e1 (by omega)
  · exact ⟨g0, cap0, e0⟩
structure Adx (R : Rg) (q : Nat) (inc : Int) (p : Pq) (b : Nat) (L : List Value) (B : Nat) (W4 wx : World) : Prop where
  out : ∃ (g cap : Nat) (a1 : Option Addr) (q1 : Nat) (a2 : Option Addr) (q2 : Nat), (R.add (some ⟨g, 0, none⟩) cap ⟨q, inc, p.tw a1 q1 a2 q2⟩).Ok wx B ∧ RowH wx B (.slice R.ha R.all.length R.hc) R.all ∧ Kept W4 wx R.own1 ∧ wx.heap[b]? = some (.cells L.toArray 40 (0, 0)) ∧ (R.add (some ⟨g, 0, none⟩) cap ⟨q, inc, p.tw a1 q1 a2 q2⟩).Nb R W4.heap.size
structure TkPost (R : Rg) (q : Nat) (inc : Int) (p : Pq) (w : World) (B : Nat) (e : Ending) (w' : World) : Prop where
  out : ∃ (x : Bool) (E : Int) (R' : Rg), e = .returned (.tuple #[.bool x, .int .i64 E]) ∧ R'.Ok w' B ∧ Kept w w' R.own1 ∧ RTk R q inc p x E R' ∧ R'.Nb R w.heap.size
set_option maxHeartbeats 16000000 in
theorem rtake_in (h : R.Ok w B) (hd : R.Bd) (hrv : R.own.rev < 4611686018427387904) (hL : R.all.length ≤ 999999999999) {q : Nat} {inc : Int} (hq : q < R.n) (hne : q ≠ R.self) (hi : 1 ≤ inc ∧ inc ≤ 4611686018427387904) (p : Pq) (hp : p.Rd w) : Calls Try.prog 18 #[.pointer (some ⟨R.b, 0, none⟩), .int .i64 (q : Int), .int .i64 inc, .agg p.cs] w fun e w' => TkPost R q inc p w B e w' := by
  have h16 := h.n16
  obtain ⟨L, hL0⟩ : ∃ L : List Value, [.slice p.sa p.sn p.sc, .int .i64 p.cid, .int .i64 p.rev, .int .i64 p.top, .int .i64 (p.prev[0]?.getD 0), .int .i64 (p.prev[1]?.getD 0), .int .i64 (p.prev[2]?.getD 0), .int .i64 (p.prev[3]?.getD 0), .slice p.va p.vn p.vc] = L := ⟨_, rfl⟩
  have hpc : p.cs = L.toArray := by rw [← hL0]; rfl
  have hLl : L.length = 9 := by rw [← hL0]; rfl
  generalize hW1 : w.alloc (.cells L.toArray 40) = W1
  have b1 : Below w.heap.size w W1 := hW1 ▸ balloc (Below.refl _ _)
  have k1 : W1.heap[w.heap.size]? = some (.cells L.toArray 40 (0, 0)) := by rw [← hW1]; exact heap_alloc_new w _
  have hR1 := h.still b1
  have hp1 := hp.still b1
  obtain ⟨vb, hvb⟩ : ∃ vb, p.valid q inc R.n = vb := ⟨_, rfl⟩
  have HV : Hid (Calls Try.prog 39 #[.agg L.toArray, .int .i64 (q : Int), .int .i64 inc, .int .i64 (R.n : Int)] W1.drew fun e w' => e = .returned (.bool vb) ∧ Below W1.drew.heap.size W1.drew w') := by
    have := qvalid_any p (hp1.still (Below.refl _ _).drew) q R.n hq (by omega) inc
    rw [hpc, hvb] at this
    exact this
  have d0 := hR1.cn
  have d1 := hR1.cself
  have y1 : Hid (∀ W2, Below W1.heap.size W1 W2 → W2.heap[w.heap.size]? = some (.cells L.toArray 40 (0, 0))) := fun W2 hb => (hb.block _ (lt_heap k1)).trans k1
  have HL0 : Hid ([.slice p.sa p.sn p.sc, .int .i64 p.cid, .int .i64 p.rev, .int .i64 p.top, .int .i64 (p.prev[0]?.getD 0), .int .i64 (p.prev[1]?.getD 0), .int .i64 (p.prev[2]?.getD 0), .int .i64 (p.prev[3]?.getD 0), .slice p.va p.vn p.vc] = L) := hL0
  have Hvb : Hid (p.valid q inc R.n = vb) := hvb
  have Hh : Hid (R.Ok w B) := h
  have HB1 : Hid (Below w.heap.size w W1) := b1
  have Hp1 : Hid (p.Rd W1) := hp1
  have HLl : Hid (L.length = 9) := hLl
  have HL : Hid (R.all.length ≤ 999999999999) := hL
  have HR1 : Hid (R.Ok W1 B) := hR1
  have q0 : ¬ (q : Int) < 0 := by omega
  have q1 : ¬ (q : Int) ≥ (R.n : Int) := by omega
  have q2 : ¬ (q : Int) = (R.self : Int) := by omega
  have q3 : ¬ inc < 1 := by omega
  have q4 : ¬ inc > 4611686018427387904 := by omega
  rw [hpc]
  clear h b1 k1 hR1 hp1 hp hvb hLl hL hpc hL0
  go_enter Try.func18, Try.ntmps18
  go_upto_region 3 with (fail)
  refine wp_region_held_drew (S := (fun w' => w'.rangeAt w.heap.size 0 L ∧ w'.cell? ⟨R.b, 0, none⟩ = some (.int .i64 (R.n : Int)))) (by kernel_rfl) ⟨blk_range (y1.out _ (Below.refl _ _).drew), below_at (Below.refl _ _).drew d0⟩ (fun hHeld => ?_)
  simp only [Act.put, List.size_toArray, List.length_cons, List.length_nil, Nat.zero_add]
  refine tkL 0 (.agg L.toArray) rfl (fun w' hS => run_loadmid 40 (.tmp 7) rfl rfl hS.1 Try.underlying40 rfl (by rw [HLl.out]; exact info_propose)) hHeld ?_
  simp only [Act.put, gA, gB, gC, gD, gE, gF]
  refine tkI 1 (.int .i64 (q : Int)) rfl hHeld ?_
  simp only [Act.put, gA, gB, gC, gD, gE, gF]
  refine tkI 2 (.int .i64 inc) rfl hHeld ?_
  simp only [Act.put, gA, gB, gC, gD, gE, gF]
  refine tkI 3 (.pointer (some ⟨R.b, 0, none⟩)) rfl hHeld ?_
  simp only [Act.put, gA, gB, gC, gD, gE, gF]
  refine tkI 4 (.pointer (some ⟨R.b, 0, none⟩)) rfl hHeld ?_
  simp only [Act.put, gA, gB, gC, gD, gE, gF]
  refine tkI 5 (.pointer (some ⟨R.b, 0, none⟩)) rfl hHeld ?_
  simp only [Act.put, gA, gB, gC, gD, gE, gF]
  refine tkL 6 ((.int .i64 (R.n : Int))) rfl (fun w' hS => by (obtain ⟨s0, s1⟩ := hS; go_simp)) hHeld ?_
  simp only [Act.put, gA, gB, gC, gD, gE, gF]
  refine wpAnyH_ready (rs := [7]) (by kernel_rfl) (by simp) ?_
  refine AllReadyH.cons rfl (fun K hK => ?_) AllReadyH.nil
  go_simp
  refine (HV.out).mono ?_
  rintro e W2 ⟨rfl, hb2⟩
  have HB2 : Hid (Below W1.heap.size W1 W2) := bstep (Below.refl _ _).drew hb2
  refine hK.out _ _ ⟨blk_range (y1.out _ (bstep (Below.refl _ _).drew hb2)), below_at (bstep (Below.refl _ _).drew hb2) d0⟩ (fun hHeld => ?_)
  clear hK K
  refine tkI 8 (.bool vb) rfl hHeld ?_
  simp only [Act.put, gA, gB, gC, gD, gE, gF]
  refine wpAnyH_done (by kernel_rfl) ?_ _
  clear hHeld
  have Hh2 : Hid (R.Ok W2 B) := HR1.out.still HB2.out
  have Hw2 : Hid (Below w.heap.size w W2) := bstep HB1.out HB2.out
  have Hp2 : Hid (p.Rd W2) := Hp1.out.still HB2.out
  have Hk2 : Hid (W2.heap[w.heap.size]? = some (.cells L.toArray 40 (0, 0))) := y1.out _ HB2.out
  clear HV d0 d1 y1 HR1 Hp1 hb2 HB1
  cases vb with
  | false =>
    go_wp2
    (try simp only [Exit.inBlock, Exit.then]); refine bodyPost_ret (results_tmp2 rfl _ _ _) rfl ?_
    exact ⟨false, 60, R, rfl, Hh2.out, Kept.ofBelow Hw2.out _, .set Hvb.out, Rg.Nb.rfl _ _⟩
  | true =>
  obtain ⟨kv, hkv⟩ : ∃ kv, oI (lat R.all q) = kv := ⟨_, rfl⟩
  have HLt := rlatest_any Hh2.out (q : Int) (by have := HL.out; omega)
  rw [hkv] at HLt
  have Hkv : Hid (oI (lat R.all q) = kv) := hkv
  clear hkv
  go_wp2_with (fail)
  refine HLt.mono ?_
  rintro e W3 ⟨rfl, hb3⟩
  have Hh3 : Hid (R.Ok W3 B) := Hh2.out.still hb3
  have Hw3 : Hid (Below w.heap.size w W3) := bstep Hw2.out hb3
  have Hp3 : Hid (p.Rd W3) := Hp2.out.still hb3
  have Hk3 : Hid (W3.heap[w.heap.size]? = some (.cells L.toArray 40 (0, 0))) := (hb3.block _ (lt_heap Hk2.out)).trans Hk2.out
  clear HLt hb3 Hh2 Hw2 Hp2 Hk2 HB2 hW1
  go_upto_region 7 with (fail)
  go_cut [70] (fun c wx => .bool (R.b7 q inc) = c ∧ W3 = wx)
  case first =>
    cases hlt : lat R.all q with
    | none =>
      obtain rfl : -1 = kv := by have := Hkv.out; rw [hlt] at this; exact this
      have Hb : Hid (R.b7 q inc = false) := by show _ = _; unfold Rg.b7; rw [hlt]
      clear hlt Hkv
      go_wp2
      go_meet
      exact ⟨by rw [Hb.out], rfl⟩
    | some j =>
      obtain rfl : (j : Int) = kv := by have := Hkv.out; rw [hlt] at this; exact this
      have hj := latN_lt _ _ _ _ hlt
      obtain ⟨g, c, hv, hrg⟩ := RowH.at Hh3.out.row hj
      have c18 : W3.cell? ⟨R.b, 18, none⟩ = some (.slice (some ⟨g, 0, none⟩) R.all.length c) := by rw [← hv]; exact Hh3.out.call
      obtain ⟨yj, hyj⟩ : ∃ y, R.all.getD j h0 = y := ⟨_, rfl⟩
      rw [hyj] at hrg
      have Hb : Hid (R.b7 q inc = decide (inc < yj.inc)) := by show _ = _; unfold Rg.b7; rw [hlt]; simp only [hyj]
      have cI : W3.cell? ⟨g, j * 11 + 1, none⟩ = some (.int .i64 yj.inc) := hrg 1 _ rfl
      have j0 : (0 : Int) ≤ (j : Int) := Int.natCast_nonneg _
      have j1 : (j : Int) < (R.all.length : Int) := by omega
      clear hlt Hkv hv hrg hyj
      go_wp2
      go_meet
      exact ⟨by rw [Hb.out], rfl⟩
  case rest =>
  obtain ⟨rfl, rfl⟩ := hcut
  obtain ⟨b7, hb7⟩ : ∃ b, R.b7 q inc = b := ⟨_, rfl⟩
  have Hb7 : Hid (R.b7 q inc = b7) := hb7
  rw [hb7]
  clear hb7
  cases b7 with
  | true =>
    go_wp2
    (try simp only [Exit.inBlock, Exit.then]); refine bodyPost_ret (results_tmp2 rfl _ _ _) rfl ?_
    exact ⟨false, 50, R, rfl, Hh3.out, Kept.ofBelow Hw3.out _, .old Hvb.out Hb7.out, Rg.Nb.rfl _ _⟩
  | false =>
  go_upto_region 9 with (fail)
  obtain ⟨W4, hW4⟩ : ∃ X, W3.drew = X := ⟨_, rfl⟩
  have HW4 : Hid (W3.drew = W4) := hW4
  clear hW4
  go_cut [98] (fun c wx => .bool (R.b9 q inc p) = c ∧ W4 = wx)
  case first =>
    cases hlt : lat R.all q with
    | none =>
      obtain rfl : -1 = kv := by have := Hkv.out; rw [hlt] at this; exact this
      have Hb : Hid (R.b9 q inc p = false) := by show _ = _; unfold Rg.b9; rw [hlt]
      clear hlt Hkv
      refine wp_region_held_drew (S := (fun w' => True)) (by kernel_rfl) trivial (fun hHeld => ?_)
      simp only [Act.put, List.size_toArray, List.length_cons, List.length_nil, Nat.zero_add]
      refine tkI 0 (.int .i64 (-1)) rfl hHeld ?_
      simp only [Act.put, gA, gB, gC, gD, gE, gF]
      refine tkI 1 (.bool false) rfl hHeld ?_
      simp only [Act.put, gA, gB, gC, gD, gE, gF]
      refine tkI 2 (.bool false) rfl hHeld ?_
      simp only [Act.put, gA, gB, gC, gD, gE, gF]
      refine tkO 3 rfl hHeld ?_
      simp only [Act.put, gA, gB, gC, gD, gE, gF]
      refine tkO 4 rfl hHeld ?_
      simp only [Act.put, gA, gB, gC, gD, gE, gF]
      refine tkO 5 rfl hHeld ?_
      simp only [Act.put, gA, gB, gC, gD, gE, gF]
      refine tkO 6 rfl hHeld ?_
      simp only [Act.put, gA, gB, gC, gD, gE, gF]
      refine tkO 7 rfl hHeld ?_
      simp only [Act.put, gA, gB, gC, gD, gE, gF]
      refine tkO 8 rfl hHeld ?_
      simp only [Act.put, gA, gB, gC, gD, gE, gF]
      refine tkO 9 rfl hHeld ?_
      simp only [Act.put, gA, gB, gC, gD, gE, gF]
      refine tkO 10 rfl hHeld ?_
      simp only [Act.put, gA, gB, gC, gD, gE, gF]
      refine tkO 11 rfl hHeld ?_
      simp only [Act.put, gA, gB, gC, gD, gE, gF]
      refine tkO 12 rfl hHeld ?_
      simp only [Act.put, gA, gB, gC, gD, gE, gF]
      refine tkI 13 (.bool false) rfl hHeld ?_
      simp only [Act.put, gA, gB, gC, gD, gE, gF]
      refine tkI 14 (.bool false) rfl hHeld ?_
      simp only [Act.put, gA, gB, gC, gD, gE, gF]
      refine tkO 15 rfl hHeld ?_
      simp only [Act.put, gA, gB, gC, gD, gE, gF]
      refine tkO 16 rfl hHeld ?_
      simp only [Act.put, gA, gB, gC, gD, gE, gF]
      refine tkO 17 rfl hHeld ?_
      simp only [Act.put, gA, gB, gC, gD, gE, gF]
      refine tkO 18 rfl hHeld ?_
      simp only [Act.put, gA, gB, gC, gD, gE, gF]
      refine tkO 19 rfl hHeld ?_
      simp only [Act.put, gA, gB, gC, gD, gE, gF]
      refine tkO 20 rfl hHeld ?_
      simp only [Act.put, gA, gB, gC, gD, gE, gF]
      refine tkO 21 rfl hHeld ?_
      simp only [Act.put, gA, gB, gC, gD, gE, gF]
      refine tkO 22 rfl hHeld ?_
      simp only [Act.put, gA, gB, gC, gD, gE, gF]
      refine tkO 23 rfl hHeld ?_
      simp only [Act.put, gA, gB, gC, gD, gE, gF]
      refine tkO 24 rfl hHeld ?_
      simp only [Act.put, gA, gB, gC, gD, gE, gF]
      refine tkO 25 rfl hHeld ?_
      simp only [Act.put, gA, gB, gC, gD, gE, gF]
      refine tkO 26 rfl hHeld ?_
      simp only [Act.put, gA, gB, gC, gD, gE, gF]
      refine tkI 27 (.bool false) rfl hHeld ?_
      simp only [Act.put, gA, gB, gC, gD, gE, gF]
      refine wpAnyH_done (by kernel_rfl) ?_ _
      clear hHeld
      rw [HW4.out]
      go_wp2
      go_meet
      exact ⟨by rw [Hb.out], rfl⟩
    | some j =>
      obtain rfl : (j : Int) = kv := by have := Hkv.out; rw [hlt] at this; exact this
      have hj := latN_lt _ _ _ _ hlt
      obtain ⟨g, c, hv, hrg⟩ := RowH.at Hh3.out.row hj
      have c18 : W3.cell? ⟨R.b, 18, none⟩ = some (.slice (some ⟨g, 0, none⟩) R.all.length c) := by rw [← hv]; exact Hh3.out.call
      obtain ⟨yj, hyj⟩ : ∃ y, R.all.getD j h0 = y := ⟨_, rfl⟩
      rw [hyj] at hrg
      have hb : R.b9 q inc p = (decide (yj.inc = inc) && decide (p.rev ≤ yj.p.rev)) := by unfold Rg.b9; rw [hlt]; simp only [hyj]
      have cI : W3.cell? ⟨g, j * 11 + 1, none⟩ = some (.int .i64 yj.inc) := hrg 1 _ rfl
      have cR : W3.cell? ⟨g, j * 11 + 2 + 2, none⟩ = some (.int .i64 yj.p.rev) := hrg 4 _ rfl
      have cP : W3.cell? ⟨w.heap.size, 2, none⟩ = some (.int .i64 p.rev) := by rw [blk_cell Hk3.out, ← HL0.out]; rfl
      have j0 : (0 : Int) ≤ (j : Int) := Int.natCast_nonneg _
      have j1 : (j : Int) < (R.all.length : Int) := by omega
      clear hlt Hkv hv hrg hyj
      by_cases hE : yj.inc = inc
      · have Hb : Hid (R.b9 q inc p = decide (p.rev ≤ yj.p.rev)) := by show _ = _; rw [hb, decide_eq_true hE, Bool.true_and]
        clear hb
        refine wp_region_held_drew (S := (fun w' => w'.cell? ⟨R.b, 18, none⟩ = some (.slice (some ⟨g, 0, none⟩) R.all.length c) ∧ w'.cell? ⟨g, j * 11 + 1, none⟩ = some (.int .i64 yj.inc) ∧ w'.cell? ⟨g, j * 11 + 2 + 2, none⟩ = some (.int .i64 yj.p.rev) ∧ w'.cell? ⟨w.heap.size, 2, none⟩ = some (.int .i64 p.rev))) (by kernel_rfl) ⟨below_at (Below.refl _ _).drew c18, below_at (Below.refl _ _).drew cI, below_at (Below.refl _ _).drew cR, below_at (Below.refl _ _).drew cP⟩ (fun hHeld => ?_)
        simp only [Act.put, List.size_toArray, List.length_cons, List.length_nil, Nat.zero_add]
        refine tkI 0 (.int .i64 (j : Int)) rfl hHeld ?_
        simp only [Act.put, gA, gB, gC, gD, gE, gF]
        refine tkL 1 ((.bool true)) rfl (fun w' hS => by (go_simp <;> first | omega | simp_all | (simp; omega))) hHeld ?_
        simp only [Act.put, gA, gB, gC, gD, gE, gF]
        refine tkI 2 (.bool true) rfl hHeld ?_
        simp only [Act.put, gA, gB, gC, gD, gE, gF]
        refine tkI 3 (.pointer (some ⟨R.b, 0, none⟩)) rfl hHeld ?_
        simp only [Act.put, gA, gB, gC, gD, gE, gF]
        refine tkI 4 (.pointer (some ⟨R.b, 0, none⟩)) rfl hHeld ?_
        simp only [Act.put, gA, gB, gC, gD, gE, gF]
        refine tkI 5 (.pointer (some ⟨R.b, 18, none⟩)) rfl hHeld ?_
        simp only [Act.put, gA, gB, gC, gD, gE, gF]
        refine tkL 6 ((.slice (some ⟨g, 0, none⟩) R.all.length c)) rfl (fun w' hS => by (obtain ⟨s0, s1, s2, s3⟩ := hS; go_simp)) hHeld ?_
        simp only [Act.put, gA, gB, gC, gD, gE, gF]
        refine tkI 7 (.int .i64 (j : Int)) rfl hHeld ?_
        simp only [Act.put, gA, gB, gC, gD, gE, gF]
        refine tkL 8 ((.pointer (some ⟨g, j * 11, none⟩))) rfl (fun w' hS => by (go_simp <;> first | omega | simp_all | (simp; omega))) hHeld ?_
        simp only [Act.put, gA, gB, gC, gD, gE, gF]
        refine tkI 9 (.pointer (some ⟨g, j * 11 + 1, none⟩)) rfl hHeld ?_
        simp only [Act.put, gA, gB, gC, gD, gE, gF]
        refine tkL 10 ((.int .i64 yj.inc)) rfl (fun w' hS => by (obtain ⟨s0, s1, s2, s3⟩ := hS; go_simp)) hHeld ?_
        simp only [Act.put, gA, gB, gC, gD, gE, gF]
        refine tkI 11 (.int .i64 inc) rfl hHeld ?_
        simp only [Act.put, gA, gB, gC, gD, gE, gF]
        refine tkL 12 ((.bool true)) rfl (fun w' hS => by (go_simp <;> first | omega | simp_all | (simp; omega))) hHeld ?_
        simp only [Act.put, gA, gB, gC, gD, gE, gF]
        refine tkI 13 (.bool true) rfl hHeld ?_
        simp only [Act.put, gA, gB, gC, gD, gE, gF]
        refine tkI 14 (.bool true) rfl hHeld ?_
        simp only [Act.put, gA, gB, gC, gD, gE, gF]
        refine tkI 15 (.pointer (some ⟨R.b, 0, none⟩)) rfl hHeld ?_
        simp only [Act.put, gA, gB, gC, gD, gE, gF]
        refine tkI 16 (.pointer (some ⟨R.b, 0, none⟩)) rfl hHeld ?_
        simp only [Act.put, gA, gB, gC, gD, gE, gF]
        refine tkI 17 (.pointer (some ⟨R.b, 18, none⟩)) rfl hHeld ?_
        simp only [Act.put, gA, gB, gC, gD, gE, gF]
        refine tkL 18 ((.slice (some ⟨g, 0, none⟩) R.all.length c)) rfl (fun w' hS => by (obtain ⟨s0, s1, s2, s3⟩ := hS; go_simp)) hHeld ?_
        simp only [Act.put, gA, gB, gC, gD, gE, gF]
        refine tkI 19 (.int .i64 (j : Int)) rfl hHeld ?_
        simp only [Act.put, gA, gB, gC, gD, gE, gF]
        refine tkL 20 ((.pointer (some ⟨g, j * 11, none⟩))) rfl (fun w' hS => by (go_simp <;> first | omega | simp_all | (simp; omega))) hHeld ?_
        simp only [Act.put, gA, gB, gC, gD, gE, gF]
        refine tkI 21 (.pointer (some ⟨g, j * 11 + 2, none⟩)) rfl hHeld ?_
        simp only [Act.put, gA, gB, gC, gD, gE, gF]
        refine tkI 22 (.pointer (some ⟨g, j * 11 + 2 + 2, none⟩)) rfl hHeld ?_
        simp only [Act.put, gA, gB, gC, gD, gE, gF]
        refine tkL 23 ((.int .i64 yj.p.rev)) rfl (fun w' hS => by (obtain ⟨s0, s1, s2, s3⟩ := hS; go_simp)) hHeld ?_
        simp only [Act.put, gA, gB, gC, gD, gE, gF]
        refine tkI 24 (.pointer (some ⟨w.heap.size, 2, none⟩)) rfl hHeld ?_
        simp only [Act.put, gA, gB, gC, gD, gE, gF]
        refine tkL 25 ((.int .i64 p.rev)) rfl (fun w' hS => by (obtain ⟨s0, s1, s2, s3⟩ := hS; go_simp)) hHeld ?_
        simp only [Act.put, gA, gB, gC, gD, gE, gF]
        refine tkI 26 (.bool (decide (p.rev ≤ yj.p.rev))) rfl hHeld ?_
        simp only [Act.put, gA, gB, gC, gD, gE, gF]
        refine tkI 27 (.bool (decide (p.rev ≤ yj.p.rev))) rfl hHeld ?_
        simp only [Act.put, gA, gB, gC, gD, gE, gF]
        refine wpAnyH_done (by kernel_rfl) ?_ _
        clear hHeld
        rw [HW4.out]
        clear hE
        go_wp2
        go_meet
        exact ⟨by rw [Hb.out], rfl⟩
      · have Hb : Hid (R.b9 q inc p = false) := by show _ = _; rw [hb, decide_eq_false hE, Bool.false_and]
        clear hb
        refine wp_region_held_drew (S := (fun w' => w'.cell? ⟨R.b, 18, none⟩ = some (.slice (some ⟨g, 0, none⟩) R.all.length c) ∧ w'.cell? ⟨g, j * 11 + 1, none⟩ = some (.int .i64 yj.inc) ∧ w'.cell? ⟨g, j * 11 + 2 + 2, none⟩ = some (.int .i64 yj.p.rev) ∧ w'.cell? ⟨w.heap.size, 2, none⟩ = some (.int .i64 p.rev))) (by kernel_rfl) ⟨below_at (Below.refl _ _).drew c18, below_at (Below.refl _ _).drew cI, below_at (Below.refl _ _).drew cR, below_at (Below.refl _ _).drew cP⟩ (fun hHeld => ?_)
        simp only [Act.put, List.size_toArray, List.length_cons, List.length_nil, Nat.zero_add]
        refine tkI 0 (.int .i64 (j : Int)) rfl hHeld ?_
        simp only [Act.put, gA, gB, gC, gD, gE, gF]
        refine tkL 1 ((.bool true)) rfl (fun w' hS => by (go_simp <;> first | omega | simp_all | (simp; omega))) hHeld ?_
        simp only [Act.put, gA, gB, gC, gD, gE, gF]
        refine tkI 2 (.bool true) rfl hHeld ?_
        simp only [Act.put, gA, gB, gC, gD, gE, gF]
        refine tkI 3 (.pointer (some ⟨R.b, 0, none⟩)) rfl hHeld ?_
        simp only [Act.put, gA, gB, gC, gD, gE, gF]
        refine tkI 4 (.pointer (some ⟨R.b, 0, none⟩)) rfl hHeld ?_
        simp only [Act.put, gA, gB, gC, gD, gE, gF]
        refine tkI 5 (.pointer (some ⟨R.b, 18, none⟩)) rfl hHeld ?_
        simp only [Act.put, gA, gB, gC, gD, gE, gF]
        refine tkL 6 ((.slice (some ⟨g, 0, none⟩) R.all.length c)) rfl (fun w' hS => by (obtain ⟨s0, s1, s2, s3⟩ := hS; go_simp)) hHeld ?_
        simp only [Act.put, gA, gB, gC, gD, gE, gF]
        refine tkI 7 (.int .i64 (j : Int)) rfl hHeld ?_
        simp only [Act.put, gA, gB, gC, gD, gE, gF]
        refine tkL 8 ((.pointer (some ⟨g, j * 11, none⟩))) rfl (fun w' hS => by (go_simp <;> first | omega | simp_all | (simp; omega))) hHeld ?_
        simp only [Act.put, gA, gB, gC, gD, gE, gF]
        refine tkI 9 (.pointer (some ⟨g, j * 11 + 1, none⟩)) rfl hHeld ?_
        simp only [Act.put, gA, gB, gC, gD, gE, gF]
        refine tkL 10 ((.int .i64 yj.inc)) rfl (fun w' hS => by (obtain ⟨s0, s1, s2, s3⟩ := hS; go_simp)) hHeld ?_
        simp only [Act.put, gA, gB, gC, gD, gE, gF]
        refine tkI 11 (.int .i64 inc) rfl hHeld ?_
        simp only [Act.put, gA, gB, gC, gD, gE, gF]
        refine tkL 12 ((.bool false)) rfl (fun w' hS => by (go_simp <;> first | omega | simp_all | (simp; omega))) hHeld ?_
        simp only [Act.put, gA, gB, gC, gD, gE, gF]
        refine tkI 13 (.bool false) rfl hHeld ?_
        simp only [Act.put, gA, gB, gC, gD, gE, gF]
        refine tkI 14 (.bool false) rfl hHeld ?_
        simp only [Act.put, gA, gB, gC, gD, gE, gF]
        refine tkO 15 rfl hHeld ?_
        simp only [Act.put, gA, gB, gC, gD, gE, gF]
        refine tkO 16 rfl hHeld ?_
        simp only [Act.put, gA, gB, gC, gD, gE, gF]
        refine tkO 17 rfl hHeld ?_
        simp only [Act.put, gA, gB, gC, gD, gE, gF]
        refine tkO 18 rfl hHeld ?_
        simp only [Act.put, gA, gB, gC, gD, gE, gF]
        refine tkO 19 rfl hHeld ?_
        simp only [Act.put, gA, gB, gC, gD, gE, gF]
        refine tkO 20 rfl hHeld ?_
        simp only [Act.put, gA, gB, gC, gD, gE, gF]
        refine tkO 21 rfl hHeld ?_
        simp only [Act.put, gA, gB, gC, gD, gE, gF]
        refine tkO 22 rfl hHeld ?_
        simp only [Act.put, gA, gB, gC, gD, gE, gF]
        refine tkO 23 rfl hHeld ?_
        simp only [Act.put, gA, gB, gC, gD, gE, gF]
        refine tkO 24 rfl hHeld ?_
        simp only [Act.put, gA, gB, gC, gD, gE, gF]
        refine tkO 25 rfl hHeld ?_
        simp only [Act.put, gA, gB, gC, gD, gE, gF]
        refine tkO 26 rfl hHeld ?_
        simp only [Act.put, gA, gB, gC, gD, gE, gF]
        refine tkI 27 (.bool false) rfl hHeld ?_
        simp only [Act.put, gA, gB, gC, gD, gE, gF]
        refine wpAnyH_done (by kernel_rfl) ?_ _
        clear hHeld
        rw [HW4.out]
        clear hE
        go_wp2
        go_meet
        exact ⟨by rw [Hb.out], rfl⟩
  case rest =>
  obtain ⟨rfl, rfl⟩ := hcut
  have Hh4 : Hid (R.Ok W4 B) := by rw [← HW4.out]; exact Hh3.out.still (Below.refl _ _).drew
  have Hw4 : Hid (Below w.heap.size w W4) := by rw [← HW4.out]; exact bstep Hw3.out (Below.refl _ _).drew
  have Hp4 : Hid (p.Rd W4) := by rw [← HW4.out]; exact Hp3.out.still (Below.refl _ _).drew
  have Hk4 : Hid (W4.heap[w.heap.size]? = some (.cells L.toArray 40 (0, 0))) := by rw [← HW4.out]; exact Hk3.out
  clear Hh3 Hw3 Hp3 Hk3 HW4
  obtain ⟨b9, hb9⟩ : ∃ b, R.b9 q inc p = b := ⟨_, rfl⟩
  have Hb9 : Hid (R.b9 q inc p = b9) := hb9
  rw [hb9]
  clear hb9
  cases b9 with
  | true =>
    go_wp2
    (try simp only [Exit.inBlock, Exit.then]); refine bodyPost_ret (results_tmp2 rfl _ _ _) rfl ?_
    exact ⟨false, 51, R, rfl, Hh4.out, Kept.ofBelow Hw4.out _, .stale Hvb.out Hb7.out Hb9.out, Rg.Nb.rfl _ _⟩
  | false =>
  have HF : Hid (RFr R q inc p) := ⟨hq, hne, hi, Hvb.out, Hb7.out, Hb9.out⟩
  have hval := Hvb.out
  unfold Pq.valid at hval
  simp only [Bool.and_eq_true] at hval
  obtain ⟨⟨⟨⟨⟨⟨⟨⟨hv1, hv2⟩, _⟩, _⟩, _⟩, _⟩, _⟩, _⟩, _⟩ := hval
  have ls : p.ss.length = R.n := by unfold okL at hv1; exact of_decide_eq_true (Bool.and_eq_true_iff.1 hv1).1
  have lv : p.vs.length = R.n := by unfold okL at hv2; exact of_decide_eq_true (Bool.and_eq_true_iff.1 hv2).1
  have s1 : p.sn ≤ 1000 := by have := Hp4.out.s.1; omega
  have s2 : p.vn ≤ 1000 := by have := Hp4.out.v.1; omega
  have HT : Hid (Calls Try.prog 41 #[.agg L.toArray] W4.drew fun e w' => ∃ a1 q1 a2 q2, e = .returned (.agg [.slice a1 p.sn q1, .int .i64 p.cid, .int .i64 p.rev, .int .i64 p.top, .int .i64 (p.prev[0]?.getD 0), .int .i64 (p.prev[1]?.getD 0), .int .i64 (p.prev[2]?.getD 0), .int .i64 (p.prev[3]?.getD 0), .slice a2 p.vn q2].toArray) ∧ RowI w' W4.drew.heap.size a1 p.sn q1 p.ss ∧ RowI w' W4.drew.heap.size a2 p.vn q2 p.vs ∧ Below W4.drew.heap.size W4.drew w') := by
    have := qtwin_any p (Hp4.out.still (Below.refl _ _).drew) s1 s2
    rw [HL0.out] at this
    exact this
  have Hls : Hid (p.ss.length = R.n ∧ p.vs.length = R.n) := ⟨ls, lv⟩
  have c18 : W4.cell? ⟨R.b, 18, none⟩ = some (.slice R.ha R.all.length R.hc) := Hh4.out.call
  clear hv1 hv2 ls lv s1 s2
  go_upto_region 12 with (fail)
  go_cut [] (fun wx => Adx R q inc p w.heap.size L B W4 wx)
  case first =>
    obtain ⟨j0, hj, hy0, hy1, hy2⟩ := info_parts info_h
    refine wp_region_held_drew (S := (fun w' => w'.rangeAt w.heap.size 0 L)) (by kernel_rfl) (blk_range (show W4.drew.heap[w.heap.size]? = _ from Hk4.out)) (fun hHeld => ?_)
    simp only [Act.put, List.size_toArray, List.length_cons, List.length_nil, Nat.zero_add]
    refine tkI 0 (.pointer (some ⟨R.b, 0, none⟩)) rfl hHeld ?_
    simp only [Act.put, gA, gB, gC, gD, gE, gF]
    refine tkI 1 (.pointer (some ⟨R.b, 0, none⟩)) rfl hHeld ?_
    simp only [Act.put, gA, gB, gC, gD, gE, gF]
    refine tkI 2 (.pointer (some ⟨R.b, 0, none⟩)) rfl hHeld ?_
    simp only [Act.put, gA, gB, gC, gD, gE, gF]
    refine tkI 3 (.pointer (some ⟨R.b, 18, none⟩)) rfl hHeld ?_
    simp only [Act.put, gA, gB, gC, gD, gE, gF]
    refine tkI 5 (.int .i64 (q : Int)) rfl hHeld ?_
    simp only [Act.put, gA, gB, gC, gD, gE, gF]
    refine tkI 6 (.int .i64 inc) rfl hHeld ?_
    simp only [Act.put, gA, gB, gC, gD, gE, gF]
    refine tkL 7 (.agg L.toArray) rfl (fun w' hS => run_loadmid 40 (.tmp 7) rfl rfl hS Try.underlying40 rfl (by rw [HLl.out]; exact info_propose)) hHeld ?_
    simp only [Act.put, gA, gB, gC, gD, gE, gF]
    refine wpAnyH_ready (rs := [4, 8]) (by kernel_rfl) (by simp) ?_
    refine AllReadyH.cons rfl (fun K hK => ?_) (AllReadyH.cons rfl (fun K hK => ?_) AllReadyH.nil)
    · skip
      have x18 : W4.drew.cell? ⟨R.b, 18, none⟩ = some (.slice R.ha R.all.length R.hc) := c18
      go_simp
      refine hK.out _ _ (blk_range (show W4.drew.heap[w.heap.size]? = _ from Hk4.out)) (fun hHeld => ?_)
      clear hK K x18
      refine wpAnyH_ready (rs := [8]) (by kernel_rfl) (by simp) ?_
      refine AllReadyH.cons rfl (fun K hK => ?_) AllReadyH.nil
      go_simp
      refine HT.out.mono ?_
      rintro e X2 ⟨a1, q1, a2, q2, rfl, o1, o2, hb2⟩
      have B2 : Below W4.heap.size W4 X2 := bstep (Below.refl _ _).drew hb2
      have k2 : X2.heap[w.heap.size]? = some (.cells L.toArray 40 (0, 0)) := (B2.block _ (lt_heap Hk4.out)).trans Hk4.out
      have h2 : R.Ok X2 B := Hh4.out.still B2
      refine hK.out _ _ (blk_range k2) (fun hHeld => ?_)
      clear hK K
      refine tkL 9 (.agg [.int .i64 (q : Int), .int .i64 inc, .slice a1 p.sn q1, .int .i64 p.cid, .int .i64 p.rev, .int .i64 p.top, .int .i64 (p.prev[0]?.getD 0), .int .i64 (p.prev[1]?.getD 0), .int .i64 (p.prev[2]?.getD 0), .int .i64 (p.prev[3]?.getD 0), .slice a2 p.vn q2].toArray) rfl (fun w' hS => run_buildop 86 _ rfl _ (by kernel_rfl)) hHeld ?_
      simp only [Act.put, gA, gB, gC, gD, gE, gF]
      refine wpAnyH_ready (rs := [10]) (by kernel_rfl) (by simp) ?_
      refine AllReadyH.cons rfl (fun K hK => ?_) AllReadyH.nil
      go_simp
      obtain ⟨X, hX⟩ : ∃ X, X2.alloc (.cells [.int .i64 (q : Int), .int .i64 inc, .slice a1 p.sn q1, .int .i64 p.cid, .int .i64 p.rev, .int .i64 p.top, .int .i64 (p.prev[0]?.getD 0), .int .i64 (p.prev[1]?.getD 0), .int .i64 (p.prev[2]?.getD 0), .int .i64 (p.prev[3]?.getD 0), .slice a2 p.vn q2].toArray 86) = X := ⟨_, rfl⟩
      have bX : Below X2.heap.size X2 X := by rw [← hX]; exact balloc (Below.refl _ _)
      have kX : X.heap[X2.heap.size]? = some (.cells [.int .i64 (q : Int), .int .i64 inc, .slice a1 p.sn q1, .int .i64 p.cid, .int .i64 p.rev, .int .i64 p.top, .int .i64 (p.prev[0]?.getD 0), .int .i64 (p.prev[1]?.getD 0), .int .i64 (p.prev[2]?.getD 0), .int .i64 (p.prev[3]?.getD 0), .slice a2 p.vn q2].toArray 86 (0, 0)) := by rw [← hX]; exact heap_alloc_new X2 _
      have k3 : X.heap[w.heap.size]? = some (.cells L.toArray 40 (0, 0)) := (bX.block _ (lt_heap k2)).trans k2
      have h3 : R.Ok X B := h2.still bX
      have B3 : Below W4.heap.size W4 X := bstep B2 bX
      refine hK.out _ _ (by rw [hX]; exact blk_range k3) (fun hHeld => ?_)
      clear hK K
      rw [hX] at hHeld ⊢
      clear hX
      refine wpAnyH_ready (rs := [11]) (by kernel_rfl) (by simp) ?_
      refine AllReadyH.cons rfl (fun K hK => ?_) AllReadyH.nil
      refine step_append_both X (by rfl) _ _ 55 (by rfl) B 86 j0 _ 11 120 Try.underlying55 hj hy0 hy1 hy2 (by rfl) (by omega) (.slice R.ha R.all.length R.hc) R.all.length (hCells R.all) (by rfl) h3.row ⟨X2.heap.size, 0, none⟩ 1 1 [.int .i64 (q : Int), .int .i64 inc, .slice a1 p.sn q1, .int .i64 p.cid, .int .i64 p.rev, .int .i64 p.top, .int .i64 (p.prev[0]?.getD 0), .int .i64 (p.prev[1]?.getD 0), .int .i64 (p.prev[2]?.getD 0), .int .i64 (p.prev[3]?.getD 0), .slice a2 p.vn q2] (by rfl) (by rfl) (fun j u hu => by rw [Addr.add_mid, Nat.zero_add, blk_cell kX, List.getElem?_toArray, hu]) (by simp [Value.oneCell']) (by omega) (by have := HL.out; unfold maxLen; omega) (by have := HL.out; omega) h3.bB ?_
      intro g cap Y hown hgrow hold
      have hg4 : B ≤ W4.drew.heap.size := (Hh4.out.still (Below.refl _ _).drew).bB
      obtain ⟨y18, yz, hZ, hrow, hkept⟩ := h3.addZ (g := g) (cap := cap) (x := ⟨q, inc, p.tw a1 q1 a2 q2⟩) (own_lower (o1.still bX) hg4) (own_lower (o2.still bX) hg4) Hls.out.1 Hls.out.2 Hp4.out.l hown hold hgrow
      have kg := Kept.ofGrown hgrow
      have k4 : Y.heap[w.heap.size]? = some (.cells L.toArray 40 (0, 0)) := kg.obj k3 (fun e => own_ne h3.row k3 (by decide) _ e.symm rfl)
      refine hK.out _ _ (blk_range k4) (fun hHeld => ?_)
      clear hK K
      refine tkI 12 (.pointer (some ⟨R.b, 0, none⟩)) rfl hHeld ?_
      simp only [Act.put, gA, gB, gC, gD, gE, gF]
      refine tkI 13 (.pointer (some ⟨R.b, 18, none⟩)) rfl hHeld ?_
      simp only [Act.put, gA, gB, gC, gD, gE, gF]
      refine wpAnyH_ready (rs := [14]) (by kernel_rfl) (by simp) ?_
      refine AllReadyH.cons rfl (fun K hK => ?_) AllReadyH.nil
      obtain ⟨Z, hZ0⟩ : ∃ Z, Y.setCell ⟨R.b, 18, none⟩ (.slice (some ⟨g, 0, none⟩) (R.all.length + 1) cap) = Z := ⟨_, rfl⟩
      rw [hZ0] at hZ hrow hkept
      have k5 : Z.heap[w.heap.size]? = some (.cells L.toArray 40 (0, 0)) := by rw [← hZ0]; exact (kset _ _ _ _ rfl : Kept Y _ (fun j => j = R.b)).obj k4 (fun e => blk_ne h3.blk k3 (by decide) e.symm)
      go_simp
      refine hK.out _ _ (blk_range k5) (fun hHeld => ?_)
      clear hK K
      refine wpAnyH_done (by kernel_rfl) ?_ _
      have HAd : Hid (Adx R q inc p w.heap.size L B W4 Z) := ⟨⟨g, cap, a1, q1, a2, q2, hZ, hrow, (Kept.ofBelow B3 _).trans hkept, k5, Rg.Nb.add (fun g hg => o1.nb hg) (fun g hg => o2.nb hg)⟩⟩
      clear hHeld hown hgrow hold y18 yz hZ hrow hkept kg k4 k5 hZ0 kX bX k3 h3 B3 k2 h2 B2 o1 o2 hb2
      go_wp2
      go_meet
      exact HAd.out
    · skip
      go_simp
      refine HT.out.mono ?_
      rintro e X2 ⟨a1, q1, a2, q2, rfl, o1, o2, hb2⟩
      have B2 : Below W4.heap.size W4 X2 := bstep (Below.refl _ _).drew hb2
      have k2 : X2.heap[w.heap.size]? = some (.cells L.toArray 40 (0, 0)) := (B2.block _ (lt_heap Hk4.out)).trans Hk4.out
      have h2 : R.Ok X2 B := Hh4.out.still B2
      refine hK.out _ _ (blk_range k2) (fun hHeld => ?_)
      clear hK K
      refine tkL 9 (.agg [.int .i64 (q : Int), .int .i64 inc, .slice a1 p.sn q1, .int .i64 p.cid, .int .i64 p.rev, .int .i64 p.top, .int .i64 (p.prev[0]?.getD 0), .int .i64 (p.prev[1]?.getD 0), .int .i64 (p.prev[2]?.getD 0), .int .i64 (p.prev[3]?.getD 0), .slice a2 p.vn q2].toArray) rfl (fun w' hS => run_buildop 86 _ rfl _ (by kernel_rfl)) hHeld ?_
      simp only [Act.put, gA, gB, gC, gD, gE, gF]
      refine wpAnyH_ready (rs := [4, 10]) (by kernel_rfl) (by simp) ?_
      refine AllReadyH.cons rfl (fun K hK => ?_) (AllReadyH.cons rfl (fun K hK => ?_) AllReadyH.nil)
      · skip
        have x18 : X2.cell? ⟨R.b, 18, none⟩ = some (.slice R.ha R.all.length R.hc) := h2.call
        go_simp
        refine hK.out _ _ (blk_range k2) (fun hHeld => ?_)
        clear hK K x18
        refine wpAnyH_ready (rs := [10]) (by kernel_rfl) (by simp) ?_
        refine AllReadyH.cons rfl (fun K hK => ?_) AllReadyH.nil
        go_simp
        obtain ⟨X, hX⟩ : ∃ X, X2.alloc (.cells [.int .i64 (q : Int), .int .i64 inc, .slice a1 p.sn q1, .int .i64 p.cid, .int .i64 p.rev, .int .i64 p.top, .int .i64 (p.prev[0]?.getD 0), .int .i64 (p.prev[1]?.getD 0), .int .i64 (p.prev[2]?.getD 0), .int .i64 (p.prev[3]?.getD 0), .slice a2 p.vn q2].toArray 86) = X := ⟨_, rfl⟩
        have bX : Below X2.heap.size X2 X := by rw [← hX]; exact balloc (Below.refl _ _)
        have kX : X.heap[X2.heap.size]? = some (.cells [.int .i64 (q : Int), .int .i64 inc, .slice a1 p.sn q1, .int .i64 p.cid, .int .i64 p.rev, .int .i64 p.top, .int .i64 (p.prev[0]?.getD 0), .int .i64 (p.prev[1]?.getD 0), .int .i64 (p.prev[2]?.getD 0), .int .i64 (p.prev[3]?.getD 0), .slice a2 p.vn q2].toArray 86 (0, 0)) := by rw [← hX]; exact heap_alloc_new X2 _
        have k3 : X.heap[w.heap.size]? = some (.cells L.toArray 40 (0, 0)) := (bX.block _ (lt_heap k2)).trans k2
        have h3 : R.Ok X B := h2.still bX
        have B3 : Below W4.heap.size W4 X := bstep B2 bX
        refine hK.out _ _ (by rw [hX]; exact blk_range k3) (fun hHeld => ?_)
        clear hK K
        rw [hX] at hHeld ⊢
        clear hX
        refine wpAnyH_ready (rs := [11]) (by kernel_rfl) (by simp) ?_
        refine AllReadyH.cons rfl (fun K hK => ?_) AllReadyH.nil
        refine step_append_both X (by rfl) _ _ 55 (by rfl) B 86 j0 _ 11 120 Try.underlying55 hj hy0 hy1 hy2 (by rfl) (by omega) (.slice R.ha R.all.length R.hc) R.all.length (hCells R.all) (by rfl) h3.row ⟨X2.heap.size, 0, none⟩ 1 1 [.int .i64 (q : Int), .int .i64 inc, .slice a1 p.sn q1, .int .i64 p.cid, .int .i64 p.rev, .int .i64 p.top, .int .i64 (p.prev[0]?.getD 0), .int .i64 (p.prev[1]?.getD 0), .int .i64 (p.prev[2]?.getD 0), .int .i64 (p.prev[3]?.getD 0), .slice a2 p.vn q2] (by rfl) (by rfl) (fun j u hu => by rw [Addr.add_mid, Nat.zero_add, blk_cell kX, List.getElem?_toArray, hu]) (by simp [Value.oneCell']) (by omega) (by have := HL.out; unfold maxLen; omega) (by have := HL.out; omega) h3.bB ?_
        intro g cap Y hown hgrow hold
        have hg4 : B ≤ W4.drew.heap.size := (Hh4.out.still (Below.refl _ _).drew).bB
        obtain ⟨y18, yz, hZ, hrow, hkept⟩ := h3.addZ (g := g) (cap := cap) (x := ⟨q, inc, p.tw a1 q1 a2 q2⟩) (own_lower (o1.still bX) hg4) (own_lower (o2.still bX) hg4) Hls.out.1 Hls.out.2 Hp4.out.l hown hold hgrow
        have kg := Kept.ofGrown hgrow
        have k4 : Y.heap[w.heap.size]? = some (.cells L.toArray 40 (0, 0)) := kg.obj k3 (fun e => own_ne h3.row k3 (by decide) _ e.symm rfl)
        refine hK.out _ _ (blk_range k4) (fun hHeld => ?_)
        clear hK K
        refine tkI 12 (.pointer (some ⟨R.b, 0, none⟩)) rfl hHeld ?_
        simp only [Act.put, gA, gB, gC, gD, gE, gF]
        refine tkI 13 (.pointer (some ⟨R.b, 18, none⟩)) rfl hHeld ?_
        simp only [Act.put, gA, gB, gC, gD, gE, gF]
        refine wpAnyH_ready (rs := [14]) (by kernel_rfl) (by simp) ?_
        refine AllReadyH.cons rfl (fun K hK => ?_) AllReadyH.nil
        obtain ⟨Z, hZ0⟩ : ∃ Z, Y.setCell ⟨R.b, 18, none⟩ (.slice (some ⟨g, 0, none⟩) (R.all.length + 1) cap) = Z := ⟨_, rfl⟩
        rw [hZ0] at hZ hrow hkept
        have k5 : Z.heap[w.heap.size]? = some (.cells L.toArray 40 (0, 0)) := by rw [← hZ0]; exact (kset _ _ _ _ rfl : Kept Y _ (fun j => j = R.b)).obj k4 (fun e => blk_ne h3.blk k3 (by decide) e.symm)
        go_simp
        refine hK.out _ _ (blk_range k5) (fun hHeld => ?_)
        clear hK K
        refine wpAnyH_done (by kernel_rfl) ?_ _
        have HAd : Hid (Adx R q inc p w.heap.size L B W4 Z) := ⟨⟨g, cap, a1, q1, a2, q2, hZ, hrow, (Kept.ofBelow B3 _).trans hkept, k5, Rg.Nb.add (fun g hg => o1.nb hg) (fun g hg => o2.nb hg)⟩⟩
        clear hHeld hown hgrow hold y18 yz hZ hrow hkept kg k4 k5 hZ0 kX bX k3 h3 B3 k2 h2 B2 o1 o2 hb2
        go_wp2
        go_meet
        exact HAd.out
      · skip
        go_simp
        obtain ⟨X, hX⟩ : ∃ X, X2.alloc (.cells [.int .i64 (q : Int), .int .i64 inc, .slice a1 p.sn q1, .int .i64 p.cid, .int .i64 p.rev, .int .i64 p.top, .int .i64 (p.prev[0]?.getD 0), .int .i64 (p.prev[1]?.getD 0), .int .i64 (p.prev[2]?.getD 0), .int .i64 (p.prev[3]?.getD 0), .slice a2 p.vn q2].toArray 86) = X := ⟨_, rfl⟩
        have bX : Below X2.heap.size X2 X := by rw [← hX]; exact balloc (Below.refl _ _)
        have kX : X.heap[X2.heap.size]? = some (.cells [.int .i64 (q : Int), .int .i64 inc, .slice a1 p.sn q1, .int .i64 p.cid, .int .i64 p.rev, .int .i64 p.top, .int .i64 (p.prev[0]?.getD 0), .int .i64 (p.prev[1]?.getD 0), .int .i64 (p.prev[2]?.getD 0), .int .i64 (p.prev[3]?.getD 0), .slice a2 p.vn q2].toArray 86 (0, 0)) := by rw [← hX]; exact heap_alloc_new X2 _
        have k3 : X.heap[w.heap.size]? = some (.cells L.toArray 40 (0, 0)) := (bX.block _ (lt_heap k2)).trans k2
        have h3 : R.Ok X B := h2.still bX
        have B3 : Below W4.heap.size W4 X := bstep B2 bX
        refine hK.out _ _ (by rw [hX]; exact blk_range k3) (fun hHeld => ?_)
        clear hK K
        rw [hX] at hHeld ⊢
        clear hX
        refine wpAnyH_ready (rs := [4]) (by kernel_rfl) (by simp) ?_
        refine AllReadyH.cons rfl (fun K hK => ?_) AllReadyH.nil
        have x18 : X.cell? ⟨R.b, 18, none⟩ = some (.slice R.ha R.all.length R.hc) := h3.call
        go_simp
        refine hK.out _ _ (blk_range k3) (fun hHeld => ?_)
        clear hK K x18
        refine wpAnyH_ready (rs := [11]) (by kernel_rfl) (by simp) ?_
        refine AllReadyH.cons rfl (fun K hK => ?_) AllReadyH.nil
        refine step_append_both X (by rfl) _ _ 55 (by rfl) B 86 j0 _ 11 120 Try.underlying55 hj hy0 hy1 hy2 (by rfl) (by omega) (.slice R.ha R.all.length R.hc) R.all.length (hCells R.all) (by rfl) h3.row ⟨X2.heap.size, 0, none⟩ 1 1 [.int .i64 (q : Int), .int .i64 inc, .slice a1 p.sn q1, .int .i64 p.cid, .int .i64 p.rev, .int .i64 p.top, .int .i64 (p.prev[0]?.getD 0), .int .i64 (p.prev[1]?.getD 0), .int .i64 (p.prev[2]?.getD 0), .int .i64 (p.prev[3]?.getD 0), .slice a2 p.vn q2] (by rfl) (by rfl) (fun j u hu => by rw [Addr.add_mid, Nat.zero_add, blk_cell kX, List.getElem?_toArray, hu]) (by simp [Value.oneCell']) (by omega) (by have := HL.out; unfold maxLen; omega) (by have := HL.out; omega) h3.bB ?_
        intro g cap Y hown hgrow hold
        have hg4 : B ≤ W4.drew.heap.size := (Hh4.out.still (Below.refl _ _).drew).bB
        obtain ⟨y18, yz, hZ, hrow, hkept⟩ := h3.addZ (g := g) (cap := cap) (x := ⟨q, inc, p.tw a1 q1 a2 q2⟩) (own_lower (o1.still bX) hg4) (own_lower (o2.still bX) hg4) Hls.out.1 Hls.out.2 Hp4.out.l hown hold hgrow
        have kg := Kept.ofGrown hgrow
        have k4 : Y.heap[w.heap.size]? = some (.cells L.toArray 40 (0, 0)) := kg.obj k3 (fun e => own_ne h3.row k3 (by decide) _ e.symm rfl)
        refine hK.out _ _ (blk_range k4) (fun hHeld => ?_)
        clear hK K
        refine tkI 12 (.pointer (some ⟨R.b, 0, none⟩)) rfl hHeld ?_
        simp only [Act.put, gA, gB, gC, gD, gE, gF]
        refine tkI 13 (.pointer (some ⟨R.b, 18, none⟩)) rfl hHeld ?_
        simp only [Act.put, gA, gB, gC, gD, gE, gF]
        refine wpAnyH_ready (rs := [14]) (by kernel_rfl) (by simp) ?_
        refine AllReadyH.cons rfl (fun K hK => ?_) AllReadyH.nil
        obtain ⟨Z, hZ0⟩ : ∃ Z, Y.setCell ⟨R.b, 18, none⟩ (.slice (some ⟨g, 0, none⟩) (R.all.length + 1) cap) = Z := ⟨_, rfl⟩
        rw [hZ0] at hZ hrow hkept
        have k5 : Z.heap[w.heap.size]? = some (.cells L.toArray 40 (0, 0)) := by rw [← hZ0]; exact (kset _ _ _ _ rfl : Kept Y _ (fun j => j = R.b)).obj k4 (fun e => blk_ne h3.blk k3 (by decide) e.symm)
        go_simp
        refine hK.out _ _ (blk_range k5) (fun hHeld => ?_)
        clear hK K
        refine wpAnyH_done (by kernel_rfl) ?_ _
        have HAd : Hid (Adx R q inc p w.heap.size L B W4 Z) := ⟨⟨g, cap, a1, q1, a2, q2, hZ, hrow, (Kept.ofBelow B3 _).trans hkept, k5, Rg.Nb.add (fun g hg => o1.nb hg) (fun g hg => o2.nb hg)⟩⟩
        clear hHeld hown hgrow hold y18 yz hZ hrow hkept kg k4 k5 hZ0 kX bX k3 h3 B3 k2 h2 B2 o1 o2 hb2
        go_wp2
        go_meet
        exact HAd.out
  case rest =>
  obtain ⟨g, cap, a1, q1, a2, q2, hZ, hrow, hkept, k5, hnb⟩ := hcut.out
  have hcut2 : Hid (Kept w wc R.own1) := (Kept.ofBelow Hw4.out _).trans hkept
  have HNb : Hid ((R.add (some ⟨g, 0, none⟩) cap ⟨q, inc, p.tw a1 q1 a2 q2⟩).Nb R w.heap.size) := hnb.mono Hw4.out.size
  have Hrow : Hid (RowH wc B (.slice R.ha R.all.length R.hc) R.all) := hrow
  have HZ : Hid ((R.add (some ⟨g, 0, none⟩) cap ⟨q, inc, p.tw a1 q1 a2 q2⟩).Ok wc B) := hZ
  have hn16 : 1 ≤ R.n ∧ R.n ≤ 16 := ⟨h16.1, h16.2.1⟩
  have hL2 : (R.add (some ⟨g, 0, none⟩) cap ⟨q, inc, p.tw a1 q1 a2 q2⟩).all.length ≤ 1000000000000 := by have := HL.out; unfold Rg.add; simp; omega
  have HL2 : Hid ((R.add (some ⟨g, 0, none⟩) cap ⟨q, inc, p.tw a1 q1 a2 q2⟩).all.length ≤ 1000000000000) := hL2
  have hsn : R.own.sn = R.n := by have h1 := hZ.os.rd.1; have h2 := hZ.sl; exact h1.symm.trans h2
  have x8 : wc.cell? ⟨R.b, 8, none⟩ = some (.bool R.op) := hZ.c 8
  have x9 : wc.cell? ⟨R.b, 9, none⟩ = some (.slice R.own.sa R.n R.own.sc) := by rw [← hsn]; exact hZ.c 9
  have x10 : wc.cell? ⟨R.b, 10, none⟩ = some (.int .i64 R.own.cid) := hZ.c 10
  have cP : wc.cell? ⟨w.heap.size, 1, none⟩ = some (.int .i64 p.cid) := by rw [blk_cell k5, ← HL0.out]; rfl
  have Hss : Hid (RdI wc R.own.sa R.n R.own.ss) := by show RdI _ _ _ _; rw [← hsn]; exact hZ.os.rd
  have Htw := tw_tw p a1 q1 a2 q2
  have HTw : Hid (Tw p (p.tw a1 q1 a2 q2)) := Htw
  clear hcut hZ hrow hkept k5 hnb hL2 hsn Htw HT c18 Hh4 Hw4 Hp4 Hk4 Hls Hkv
  rcases Bool.eq_false_or_eq_true R.op with hop | hop
  · rw [hop] at x8
    have Hop : Hid (R.op = true) := hop
    clear hop cP
    have HVc : Hid (Calls Try.prog 43 #[.pointer (some ⟨R.b, 0, none⟩), .slice R.own.sa R.n R.own.sc, .int .i64 R.own.cid] wc.drew fun e w' => ∃ v, e = .returned v ∧ w'.ownsRow wc.drew.heap.size 3 1 v R.n (ints (rvecN (R.add (some ⟨g, 0, none⟩) cap ⟨q, inc, p.tw a1 q1 a2 q2⟩) R.own.ss R.own.cid R.n)) ∧ Below wc.drew.heap.size wc.drew w') := rvec_any (R := (R.add (some ⟨g, 0, none⟩) cap ⟨q, inc, p.tw a1 q1 a2 q2⟩)) (HZ.out.still (Below.refl _ _).drew) HL2.out (Hss.out.still (Below.refl _ _).drew) R.own.cid
    go_upto_region 24 with (fail)
    refine wp_region_held_drew (S := (fun w' => w'.cell? ⟨R.b, 9, none⟩ = some (.slice R.own.sa R.n R.own.sc) ∧ w'.cell? ⟨R.b, 10, none⟩ = some (.int .i64 R.own.cid))) (by kernel_rfl) ⟨x9, x10⟩ (fun hHeld => ?_)
    simp only [Act.put, List.size_toArray, List.length_cons, List.length_nil, Nat.zero_add]
    refine tkI 0 (.pointer (some ⟨R.b, 0, none⟩)) rfl hHeld ?_
    simp only [Act.put, gA, gB, gC, gD, gE, gF]
    refine tkI 1 (.pointer (some ⟨R.b, 0, none⟩)) rfl hHeld ?_
    simp only [Act.put, gA, gB, gC, gD, gE, gF]
    refine tkI 2 (.pointer (some ⟨R.b, 0, none⟩)) rfl hHeld ?_
    simp only [Act.put, gA, gB, gC, gD, gE, gF]
    refine tkI 3 (.pointer (some ⟨R.b, 9, none⟩)) rfl hHeld ?_
    simp only [Act.put, gA, gB, gC, gD, gE, gF]
    refine tkI 4 (.pointer (some ⟨R.b, 9, none⟩)) rfl hHeld ?_
    simp only [Act.put, gA, gB, gC, gD, gE, gF]
    refine tkL 5 ((.slice R.own.sa R.n R.own.sc)) rfl (fun w' hS => by (obtain ⟨s0, s1⟩ := hS; go_simp)) hHeld ?_
    simp only [Act.put, gA, gB, gC, gD, gE, gF]
    refine tkI 6 (.pointer (some ⟨R.b, 0, none⟩)) rfl hHeld ?_
    simp only [Act.put, gA, gB, gC, gD, gE, gF]
    refine tkI 7 (.pointer (some ⟨R.b, 0, none⟩)) rfl hHeld ?_
    simp only [Act.put, gA, gB, gC, gD, gE, gF]
    refine tkI 8 (.pointer (some ⟨R.b, 9, none⟩)) rfl hHeld ?_
    simp only [Act.put, gA, gB, gC, gD, gE, gF]
    refine tkI 9 (.pointer (some ⟨R.b, 10, none⟩)) rfl hHeld ?_
    simp only [Act.put, gA, gB, gC, gD, gE, gF]
    refine tkL 10 ((.int .i64 R.own.cid)) rfl (fun w' hS => by (obtain ⟨s0, s1⟩ := hS; go_simp)) hHeld ?_
    simp only [Act.put, gA, gB, gC, gD, gE, gF]
    refine wpAnyH_ready (rs := [11]) (by kernel_rfl) (by simp) ?_
    refine AllReadyH.cons rfl (fun K hK => ?_) AllReadyH.nil
    go_simp
    refine (HVc.out).mono ?_
    rintro e w5 ⟨v, rfl, ov, hb5⟩
    have B5 : Below wc.heap.size wc w5 := bstep (Below.refl _ _).drew hb5
    obtain ⟨gV, cV, hv⟩ := own_slice1 ov hn16.1
    subst hv
    refine hK.out _ _ ⟨below_at (bstep (Below.refl _ _).drew hb5) x9, below_at (bstep (Below.refl _ _).drew hb5) x10⟩ (fun hHeld => ?_)
    clear hK K
    refine tkI 12 (.slice (some ⟨gV, 0, none⟩) R.n cV) rfl hHeld ?_
    simp only [Act.put, gA, gB, gC, gD, gE, gF]
    refine wpAnyH_done (by kernel_rfl) ?_ _
    clear hHeld
    have h5 := HZ.out.still B5
    obtain ⟨vs, hvs⟩ : ∃ vs, rvecN (R.add (some ⟨g, 0, none⟩) cap ⟨q, inc, p.tw a1 q1 a2 q2⟩) R.own.ss R.own.cid R.n = vs := ⟨_, rfl⟩
    rw [hvs] at ov
    have hvl : vs.length = R.n := by rw [← hvs]; exact rvecN_len _ _ _ _
    have HE : Hid (Calls Try.prog 35 #[.slice (some ⟨gV, 0, none⟩) R.n cV, .slice R.own.va R.own.vn R.own.vc] w5 fun e w' => e = .returned (.bool (decide (vs = R.own.vs))) ∧ Below w5.heap.size w5 w') := qequal_any (own_rd ov) h5.ov.rd (by omega)
    have x17 : w5.cell? ⟨R.b, 17, none⟩ = some (.slice R.own.va R.own.vn R.own.vc) := h5.c 17
    have Hvs : Hid (rvecN (R.add (some ⟨g, 0, none⟩) cap ⟨q, inc, p.tw a1 q1 a2 q2⟩) R.own.ss R.own.cid R.n = vs) := hvs
    have Hvl : Hid (vs.length = R.n) := hvl
    have Hov : Hid (RowI w5 B (some ⟨gV, 0, none⟩) R.n cV vs) := own_lower ov (HZ.out.still (Below.refl _ _).drew).bB
    have HB5 : Hid (Below wc.heap.size wc w5) := B5
    have HNv : Hid (∀ x, x < w.heap.size → nb (some ⟨gV, 0, none⟩) x) := fun x hx => RowI.nb (n := R.n) (c := cV) ov (Nat.lt_of_lt_of_le hx hcut2.out.size)
    have H5 : Hid ((R.add (some ⟨g, 0, none⟩) cap ⟨q, inc, p.tw a1 q1 a2 q2⟩).Ok w5 B) := h5
    clear HVc x8 x9 x10 ov hb5 B5 h5 hvs hvl
    go_wp2_with (fail)
    refine HE.out.mono ?_
    rintro e w6 ⟨rfl, hb6⟩
    have H6 : Hid ((R.add (some ⟨g, 0, none⟩) cap ⟨q, inc, p.tw a1 q1 a2 q2⟩).Ok w6 B) := H5.out.still hb6
    have Hk6 : Hid (Kept w w6 R.own1) := (hcut2.out.trans (Kept.ofBelow HB5.out _)).trans (Kept.ofBelow hb6 _)
    have Hov6 : Hid (RowI w6 B (some ⟨gV, 0, none⟩) R.n cV vs) := Hov.out.still hb6
    clear HE hb6 x17 Hov HB5 H5
    by_cases hsame : vs = R.own.vs
    · rw [decide_eq_true hsame]
      have Hs : Hid (rvecN (R.add (some ⟨g, 0, none⟩) cap ⟨q, inc, p.tw a1 q1 a2 q2⟩) R.own.ss R.own.cid R.n = R.own.vs) := Hvs.out.trans hsame
      clear hsame
      go_wp2
      (try simp only [Exit.inBlock, Exit.then]); refine bodyPost_ret (results_tmp2 rfl _ _ _) rfl ?_
      exact ⟨⟨false, 0, _, rfl, H6.out, Hk6.out, .same _ _ _ HF.out HTw.out Hop.out Hs.out, HNb.out⟩⟩
    · rw [decide_eq_false hsame]
      have Hs : Hid (rvecN (R.add (some ⟨g, 0, none⟩) cap ⟨q, inc, p.tw a1 q1 a2 q2⟩) R.own.ss R.own.cid R.n ≠ R.own.vs) := fun e => hsame (Hvs.out.symm.trans e)
      clear hsame
      obtain ⟨f17, z17, f11, z11, hok, hkk⟩ := H6.out.setV Hov6.out Hvl.out (R.own.rev + 1)
      have y11 : w6.cell? ⟨R.b, 11, none⟩ = some (.int .i64 R.own.rev) := H6.out.c 11
      have f17' : w6.cell? ⟨R.b, 17, none⟩ = some (.slice R.own.va R.own.vn R.own.vc) := f17
      have z17' : w6.frozen? ⟨R.b, 17, none⟩ = false := z17
      obtain ⟨M1, hM1⟩ : ∃ X, w6.setCell ⟨R.b, 17, none⟩ (.slice (some ⟨gV, 0, none⟩) R.n cV) = X := ⟨_, rfl⟩
      have f11' : M1.cell? ⟨R.b, 11, none⟩ = some (.int .i64 R.own.rev) := by rw [← hM1]; exact f11
      have z11' : M1.frozen? ⟨R.b, 11, none⟩ = false := by rw [← hM1]; exact z11
      obtain ⟨M2, hM2⟩ : ∃ X, M1.setCell ⟨R.b, 11, none⟩ (.int .i64 (R.own.rev + 1)) = X := ⟨_, rfl⟩
      have HO : Hid (({ (R.add (some ⟨g, 0, none⟩) cap ⟨q, inc, p.tw a1 q1 a2 q2⟩) with own := { R.own with rev := R.own.rev + 1, va := some ⟨gV, 0, none⟩, vn := R.n, vc := cV, vs := vs } } : Rg).Ok M2 B ∧ Kept w6 M2 (fun j => j = R.b)) := by rw [← hM2, ← hM1]; exact ⟨hok, hkk⟩
      have nrev : ¬ R.own.rev = 4611686018427387904 := by omega
      have nrevb : (R.own.rev == 4611686018427387904) = false := by simp [nrev]
      have r0 : 0 ≤ R.own.rev := hd.rev.1
      clear f17 z17 f11 z11 hok hkk
      go_wp2
      (try simp only [Exit.inBlock, Exit.then]); refine bodyPost_ret (results_tmp2 rfl _ _ _) rfl ?_
      refine ⟨⟨false, 0, _, rfl, HO.out.1, Hk6.out.trans (HO.out.2.mono fun k hk e => .inl e), ?_, ⟨fun x hx a => ⟨(HNb.out.out x hx a).s, HNv.out x hx, (HNb.out.out x hx a).l⟩⟩⟩⟩
      rw [← Hvs.out]
      exact .rev _ _ _ _ _ HF.out HTw.out Hop.out Hs.out
  · rw [hop] at x8
    have Hop : Hid (R.op = false) := hop
    clear hop
    obtain ⟨gb, hgb⟩ : ∃ b, (List.range R.k).any (lvs q inc p.cid R.ms) = b := ⟨_, rfl⟩
    have HG : Hid (Calls Try.prog 42 #[.pointer (some ⟨R.b, 0, none⟩), .int .i64 (q : Int), .int .i64 inc, .int .i64 p.cid] wc fun e w' => e = .returned (.bool gb) ∧ Below wc.heap.size wc w') := hgb ▸ rleaves_any HZ.out q inc p.cid
    have Hgb : Hid ((List.range R.k).any (lvs q inc p.cid R.ms) = gb) := hgb
    clear hgb
    go_wp2_with (fail)
    refine HG.out.mono ?_
    rintro e w5 ⟨rfl, hb5⟩
    have y9 : w5.cell? ⟨R.b, 9, none⟩ = some (.slice R.own.sa R.n R.own.sc) := below_at hb5 x9
    have H5 : Hid ((R.add (some ⟨g, 0, none⟩) cap ⟨q, inc, p.tw a1 q1 a2 q2⟩).Ok w5 B) := HZ.out.still hb5
    have Hk5 : Hid (Kept w w5 R.own1) := hcut2.out.trans (Kept.ofBelow hb5 _)
    have Hr5 : Hid (RowH w5 B (.slice R.ha R.all.length R.hc) R.all) := own_still Hrow.out hb5
    have Hs5 : Hid (RdI w5 R.own.sa R.n R.own.ss) := Hss.out.still hb5
    clear HG hb5 x8 x9 x10 cP Hrow HZ hcut2 Hss
    cases gb with
    | false =>
      go_wp2
      (try simp only [Exit.inBlock, Exit.then]); refine bodyPost_ret (results_tmp2 rfl _ _ _) rfl ?_
      exact ⟨⟨false, 0, _, rfl, H5.out, Hk5.out, .add _ _ _ HF.out HTw.out Hop.out Hgb.out, HNb.out⟩⟩
    | true =>
    by_cases hsp : R.spent
    · have HBn : Hid (Calls Try.prog 36 #[.pointer (some ⟨R.b, 0, none⟩), .slice R.own.sa R.n R.own.sc] w5 fun e w' => e = .returned (.tuple #[.agg [.slice R.own.sa R.own.sn R.own.sc, .int .i64 R.own.cid, .int .i64 R.own.rev, .int .i64 R.own.top, .int .i64 (R.own.prev[0]?.getD 0), .int .i64 (R.own.prev[1]?.getD 0), .int .i64 (R.own.prev[2]?.getD 0), .int .i64 (R.own.prev[3]?.getD 0), .slice R.own.va R.own.vn R.own.vc].toArray, .bool false]) ∧ Below w5.heap.size w5 w') := rbegin_no (R := (R.add (some ⟨g, 0, none⟩) cap ⟨q, inc, p.tw a1 q1 a2 q2⟩)) H5.out hsp
      have Hsp : Hid (R.spent) := hsp
      clear hsp
      go_wp2_with (fail)
      refine HBn.out.mono ?_
      rintro e w6 ⟨rfl, hb6⟩
      generalize hX : w6.alloc (.cells [.slice R.own.sa R.own.sn R.own.sc, .int .i64 R.own.cid, .int .i64 R.own.rev, .int .i64 R.own.top, .int .i64 (R.own.prev[0]?.getD 0), .int .i64 (R.own.prev[1]?.getD 0), .int .i64 (R.own.prev[2]?.getD 0), .int .i64 (R.own.prev[3]?.getD 0), .slice R.own.va R.own.vn R.own.vc].toArray 40) = X
      have bX : Below w6.heap.size w6 X := by rw [← hX]; exact balloc (Below.refl _ _)
      have b6X := bstep hb6 bX
      obtain ⟨hback, hkb, f18, z18⟩ := (H5.out.still b6X).back (own_still Hr5.out b6X)
      have f18' : X.cell? ⟨R.b, 18, none⟩ = some (.slice (some ⟨g, 0, none⟩) (R.all.length + 1) cap) := f18
      generalize hM : X.setCell ⟨R.b, 18, none⟩ (.slice R.ha R.all.length R.hc) = M at hback hkb
      have HM : Hid (R.Ok M B ∧ Kept w M R.own1) := ⟨hback, (Hk5.out.trans (Kept.ofBelow b6X _)).trans (hkb.mono fun k hk e => .inl e)⟩
      simp only [List.toArray] at hX
      clear HBn hb6 bX b6X hback hkb f18 y9
      go_wp2
      (try simp only [Exit.inBlock, Exit.then]); refine bodyPost_ret (results_tmp2 rfl _ _ _) rfl ?_
      exact ⟨⟨false, 3, R, rfl, HM.out.1, HM.out.2, .spent HF.out Hop.out Hgb.out Hsp.out, Rg.Nb.rfl _ _⟩⟩
    · have hne2 : R.own.cid ≠ 4611686018427387904 ∧ R.own.rev ≠ 4611686018427387904 ∧ R.id.getD 0 0 ≠ 4611686018427387904 := ⟨fun e => hsp (.inl e), fun e => hsp (.inr (.inl e)), fun e => hsp (.inr (.inr e))⟩
      have HBy : Hid (Calls Try.prog 36 #[.pointer (some ⟨R.b, 0, none⟩), .slice R.own.sa R.n R.own.sc] w5 fun e w' => ∃ P : Pq, e = .returned (.tuple #[.agg [.slice P.sa P.sn P.sc, .int .i64 P.cid, .int .i64 P.rev, .int .i64 P.top, .int .i64 (P.prev[0]?.getD 0), .int .i64 (P.prev[1]?.getD 0), .int .i64 (P.prev[2]?.getD 0), .int .i64 (P.prev[3]?.getD 0), .slice P.va P.vn P.vc].toArray, .bool true]) ∧ Nw (R.add (some ⟨g, 0, none⟩) cap ⟨q, inc, p.tw a1 q1 a2 q2⟩) R.own.ss P ∧ RowI w' w5.heap.size P.sa P.sn P.sc P.ss ∧ RowI w' w5.heap.size P.va P.vn P.vc P.vs ∧ Below w5.heap.size w5 w') := rbegin_any (R := (R.add (some ⟨g, 0, none⟩) cap ⟨q, inc, p.tw a1 q1 a2 q2⟩)) H5.out HL2.out Hs5.out ⟨hd.cid.1, by have := hd.cid.2; show R.own.cid < _; omega⟩ ⟨hd.rev.1, by have := hd.rev.2; show R.own.rev < _; omega⟩ ⟨hd.ep.1, by have := hd.ep.2; show R.id.getD 0 0 < _; omega⟩
      have Hsp : Hid (¬ R.spent) := hsp
      clear hsp hne2
      go_wp2_with (fail)
      refine HBy.out.mono ?_
      rintro e w6 ⟨P, rfl, hN, o1, o2, hb6⟩
      generalize hX : w6.alloc (.cells [.slice P.sa P.sn P.sc, .int .i64 P.cid, .int .i64 P.rev, .int .i64 P.top, .int .i64 (P.prev[0]?.getD 0), .int .i64 (P.prev[1]?.getD 0), .int .i64 (P.prev[2]?.getD 0), .int .i64 (P.prev[3]?.getD 0), .slice P.va P.vn P.vc].toArray 40) = X
      have bX : Below w6.heap.size w6 X := by rw [← hX]; exact balloc (Below.refl _ _)
      have kX : X.heap[w6.heap.size]? = some (.cells [.slice P.sa P.sn P.sc, .int .i64 P.cid, .int .i64 P.rev, .int .i64 P.top, .int .i64 (P.prev[0]?.getD 0), .int .i64 (P.prev[1]?.getD 0), .int .i64 (P.prev[2]?.getD 0), .int .i64 (P.prev[3]?.getD 0), .slice P.va P.vn P.vc].toArray 40 (0, 0)) := by rw [← hX]; exact heap_alloc_new w6 _
      have b2X := bstep hb6 bX
      have hRX := H5.out.still b2X
      have hset := H5.out.set_own (k := 0) P b2X hN H5.out.sl (o1.still bX) (o2.still bX)
      have m1 : (X.setCells R.b 9 [.slice P.sa P.sn P.sc, .int .i64 P.cid, .int .i64 P.rev, .int .i64 P.top, .int .i64 (P.prev[0]?.getD 0), .int .i64 (P.prev[1]?.getD 0), .int .i64 (P.prev[2]?.getD 0), .int .i64 (P.prev[3]?.getD 0), .slice P.va P.vn P.vc]).heap[R.b]? = some (.cells ({ (R.add (some ⟨g, 0, none⟩) cap ⟨q, inc, p.tw a1 q1 a2 q2⟩) with own := P } : Rg).cs.toArray 57 (0, 0)) := sets_list [.slice P.sa P.sn P.sc, .int .i64 P.cid, .int .i64 P.rev, .int .i64 P.top, .int .i64 (P.prev[0]?.getD 0), .int .i64 (P.prev[1]?.getD 0), .int .i64 (P.prev[2]?.getD 0), .int .i64 (P.prev[3]?.getD 0), .slice P.va P.vn P.vc] 9 X (R.add (some ⟨g, 0, none⟩) cap ⟨q, inc, p.tw a1 q1 a2 q2⟩).cs hRX.blk (by simp [Rg.cs])
      have hset2 : ({ (R.add (some ⟨g, 0, none⟩) cap ⟨q, inc, p.tw a1 q1 a2 q2⟩) with own := P, op := true } : Rg).Ok ((X.setCells R.b 9 [.slice P.sa P.sn P.sc, .int .i64 P.cid, .int .i64 P.rev, .int .i64 P.top, .int .i64 (P.prev[0]?.getD 0), .int .i64 (P.prev[1]?.getD 0), .int .i64 (P.prev[2]?.getD 0), .int .i64 (P.prev[3]?.getD 0), .slice P.va P.vn P.vc]).setCell ⟨R.b, 8, none⟩ (.bool true)) B ∧ Kept X ((X.setCells R.b 9 [.slice P.sa P.sn P.sc, .int .i64 P.cid, .int .i64 P.rev, .int .i64 P.top, .int .i64 (P.prev[0]?.getD 0), .int .i64 (P.prev[1]?.getD 0), .int .i64 (P.prev[2]?.getD 0), .int .i64 (P.prev[3]?.getD 0), .slice P.va P.vn P.vc]).setCell ⟨R.b, 8, none⟩ (.bool true)) (fun j => j = R.b) := hset
      clear hset
      generalize hM1 : X.setCells R.b 9 [.slice P.sa P.sn P.sc, .int .i64 P.cid, .int .i64 P.rev, .int .i64 P.top, .int .i64 (P.prev[0]?.getD 0), .int .i64 (P.prev[1]?.getD 0), .int .i64 (P.prev[2]?.getD 0), .int .i64 (P.prev[3]?.getD 0), .slice P.va P.vn P.vc] = M1 at hset2 m1
      generalize hM2 : M1.setCell ⟨R.b, 8, none⟩ (.bool true) = M2 at hset2
      have x8 : M1.cell? ⟨R.b, 8, none⟩ = some (.bool R.op) := blk_cell m1 8
      have g8 : M1.frozen? ⟨R.b, 8, none⟩ = false := frozen_of_row M1 _ _ _ _ m1
      have R8 : Hid (X.rangeAt w6.heap.size 0 [.slice P.sa P.sn P.sc, .int .i64 P.cid, .int .i64 P.rev, .int .i64 P.top, .int .i64 (P.prev[0]?.getD 0), .int .i64 (P.prev[1]?.getD 0), .int .i64 (P.prev[2]?.getD 0), .int .i64 (P.prev[3]?.getD 0), .slice P.va P.vn P.vc]) := blk_range kX
      have T9 : Hid (X.there R.b 9 9) := blk_there' hRX.blk (by simp [Rg.cs])
      have HSet : Hid (({ (R.add (some ⟨g, 0, none⟩) cap ⟨q, inc, p.tw a1 q1 a2 q2⟩) with own := P, op := true } : Rg).Ok M2 B ∧ Kept X M2 (fun j => j = R.b)) := hset2
      have HN : Hid (Nw (R.add (some ⟨g, 0, none⟩) cap ⟨q, inc, p.tw a1 q1 a2 q2⟩) R.own.ss P) := hN
      have HNP : Hid (({ (R.add (some ⟨g, 0, none⟩) cap ⟨q, inc, p.tw a1 q1 a2 q2⟩) with own := P, op := true } : Rg).Nb R w.heap.size) := (Rg.Nb.own (R := (R.add (some ⟨g, 0, none⟩) cap ⟨q, inc, p.tw a1 q1 a2 q2⟩)) (fun x hx => o1.nb (Nat.lt_of_lt_of_le hx Hk5.out.size)) (fun x hx => o2.nb (Nat.lt_of_lt_of_le hx Hk5.out.size))).trans HNb.out
      have HBX : Hid (Kept w X R.own1) := Hk5.out.trans (Kept.ofBelow b2X _)
      simp only [List.toArray] at hX
      clear HBy hN o1 o2 hb6 bX kX b2X hRX hset2 m1 y9
      go_wp2_with (first
        | (refine load_mid 40 (.tmp 14) R8.out _ Try.underlying40 rfl (by kernel_rfl) rfl rfl rfl ?_)
        | (refine store_midL 40 (.tmp 149) (.tmp 147) (L := [.slice P.sa P.sn P.sc, .int .i64 P.cid, .int .i64 P.rev, .int .i64 P.top, .int .i64 (P.prev[0]?.getD 0), .int .i64 (P.prev[1]?.getD 0), .int .i64 (P.prev[2]?.getD 0), .int .i64 (P.prev[3]?.getD 0), .slice P.va P.vn P.vc]) T9.out info_propose (by simp [Value.oneCell']) rfl rfl rfl rfl ?_; rw [hM1])
        | fail)
      (try simp only [Exit.inBlock, Exit.then]); refine bodyPost_ret (results_tmp2 rfl _ _ _) rfl ?_
      exact ⟨⟨true, 0, _, rfl, HSet.out.1, HBX.out.trans (HSet.out.2.mono fun k hk e => .inl e), .beg _ _ _ P HF.out HTw.out Hop.out Hgb.out Hsp.out HN.out, HNP.out⟩⟩
end
end Go.Proofs.Ytbdefhagpgpoiac.Mb
