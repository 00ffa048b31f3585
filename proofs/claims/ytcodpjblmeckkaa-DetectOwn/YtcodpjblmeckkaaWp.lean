import Derived.Test.YtcodpjblmeckkaaWo
namespace Go.Proofs.Ytcodpjblmeckkaa.Dt
open Go.RowKit
set_option linter.unusedVariables false
set_option maxRecDepth 100000
set_option linter.unusedSimpArgs false
section
variable {D D' : De} {R R' : Rf} {w w' W V : World} {B m : Nat}
theorem pref_eql (w : World) (a : Option Addr) : (binOp .eql 65 (.pointer a) (.pointer none)).run Try.prog w = .ok (.bool a.isNone) w := by
  cases a <;> rfl
set_option maxHeartbeats 1000000 in
theorem made_no (n s inc base step lim : Int) (oa : Option Addr) (on oc : Nat) (hno : newOk n s inc base step lim = false) : Calls Try.prog 31 #[.agg (rc n s inc base step lim oa on oc)] w fun e w' => e = .returned (.tuple #[.pointer none, .pointer none, .bool true]) ∧ Below w.heap.size w w' := by
  generalize hW : w.alloc (.cells (rc n s inc base step lim oa on oc) 31) = W
  have hbW : Below w.heap.size w W := by rw [← hW]; exact balloc (Below.refl _ w)
  have hblk : W.heap[w.heap.size]? = some (.cells (rc n s inc base step lim oa on oc) 31 (0, 0)) := by rw [← hW]; exact heap_alloc_new w _
  obtain ⟨c0, c1, c2, c3, c4, c5, c6⟩ := run_cells hblk
  have HR := rnew_no (w := W) n s inc base step lim hno
  have HD := new_no (w := W) n s inc base step lim hno
  have Hb : Hid (Below w.heap.size w W) := hbW
  unfold rc at hW ⊢
  clear hbW hblk hno
  go_enter Try.func31, Try.ntmps31
  go_wp2_with (first
    | (go_at_call 38; refine HR.mono ?_; rintro e w1 ⟨rfl, rfl⟩)
    | (go_at_call 39; refine HD.mono ?_; rintro e w1 ⟨rfl, rfl⟩)
    | (go_at_call 21; refine (num_any _).mono ?_; rintro e w1 ⟨rfl, rfl⟩)
    | fail)
  refine bodyPost_ret (v := .tuple #[.pointer none, .pointer none, .bool true]) (by simp [results, Try.results31, go_sem]) rfl ⟨rfl, Hb.out⟩
def rf0 (b n s : Nat) (inc base step lim : Int) : Rf := ⟨b, n, s, inc, base, step, lim, [], none, 0⟩
set_option maxHeartbeats 1000000 in
theorem made_ok (n s : Nat) (inc base step lim : Int) (oa : Option Addr) (on oc : Nat) (hok : newOk n s inc base step lim = true) : Calls Try.prog 31 #[.agg (rc n s inc base step lim oa on oc)] w fun e w' => ∃ D R, e = .returned (.tuple #[.pointer (some ⟨D.b, 0, none⟩), .pointer (some ⟨R.b, 0, none⟩), .bool true]) ∧ Below w.heap.size w w' ∧ Du D R w' w.heap.size 0 := by
  generalize hW : w.alloc (.cells (rc n s inc base step lim oa on oc) 31) = W
  have hbW : Below w.heap.size w W := by rw [← hW]; exact balloc (Below.refl _ w)
  have hblk : W.heap[w.heap.size]? = some (.cells (rc n s inc base step lim oa on oc) 31 (0, 0)) := by rw [← hW]; exact heap_alloc_new w _
  obtain ⟨c0, c1, c2, c3, c4, c5, c6⟩ := run_cells hblk
  have HD := new_ok (w := W) n s inc base step lim hok
  have HR : Hid (∀ w1, Calls Try.prog 38 #[.int .i64 n, .int .i64 s, .int .i64 inc, .int .i64 base, .int .i64 step, .int .i64 lim] w1 fun e w' => e = .returned (.tuple #[.pointer (some ⟨w1.heap.size, 0, none⟩), .int .i64 0]) ∧ Below w1.heap.size w1 w' ∧ w'.heap[w1.heap.size]? = some (.cells #[.int .i64 (n : Int), .int .i64 (s : Int), .int .i64 inc, .int .i64 base, .int .i64 step, .int .i64 lim, .slice none 0 0] 98 (0, 0))) := fun w1 => rnew_ok n s inc base step lim hok
  have Hb : Hid (Below w.heap.size w W) := hbW
  have Hblk : Hid (W.heap[w.heap.size]? = some (.cells (rc n s inc base step lim oa on oc) 31 (0, 0))) := hblk
  have hk := hok
  unfold newOk at hk
  simp only [Bool.and_eq_true] at hk
  obtain ⟨b1, b2, b3, b4, b5, b6⟩ := hk
  have a1 := of_decide_eq_true b1
  have a2 := of_decide_eq_true b2
  have a3 := of_decide_eq_true b3
  have a4 := of_decide_eq_true b4
  have a5 := of_decide_eq_true b5
  have a6 := of_decide_eq_true b6
  have Hnum : Hid (1 ≤ n ∧ n ≤ 16 ∧ s < n ∧ 1 ≤ inc ∧ inc ≤ 4611686018427387904 ∧ 1 ≤ base ∧ base ≤ lim ∧ 1 ≤ step ∧ step ≤ 64 ∧ lim ≤ 64) := ⟨by omega, by omega, by omega, a3.1, a3.2, a5.1, a5.2, a6.1, a6.2, a4.2⟩
  unfold rc at hW ⊢
  clear hbW hblk hok b1 b2 b3 b4 b5 b6 a1 a2 a3 a4 a5 a6
  go_enter Try.func31, Try.ntmps31
  go_wp2_with (fail)
  refine HD.mono ?_
  rintro e w1 ⟨rfl, hb1, bo, bt, hD⟩
  have B1 : Hid (Below W.heap.size W w1) := hb1
  have HDk : Hid ((newDe W n s inc base step lim bo bt).Ok w1 W.heap.size 0) := hD
  obtain ⟨d0, d1, d2, d3, d4, d5, d6⟩ := run_cells ((hb1.block _ (lt_heap Hblk.out)).trans Hblk.out)
  clear hb1 hD HD
  go_wp2_with (fail)
  refine (HR.out _).mono ?_
  rintro e w2 ⟨rfl, hb2, hr2⟩
  have B2 : Hid (Below W.heap.size W w2) := bstep B1.out hb2
  have hDu : Du (newDe W n s inc base step lim bo bt) (rf0 w1.heap.size n s inc base step lim) w2 w.heap.size 0 := by
    have hs1 := B1.out.size
    have hsw := Hb.out.size
    refine ⟨(HDk.out.still hb2).lower (by omega), ⟨hr2, ⟨rfl, .inl ⟨rfl, rfl⟩⟩, by show w.heap.size ≤ w1.heap.size; omega, Hnum.out⟩, fun j hj e => ?_, ⟨rfl, rfl, rfl, rfl, rfl, fun q hq => rfl, rfl, rfl⟩, Nat.le_refl _⟩
    have h1 := HDk.out.ltOwn hj
    rcases e with e | e
    · have : j = w1.heap.size := e
      omega
    · simp [rf0, Value.ownBlock] at e
  have HDu : Hid (Du (newDe W n s inc base step lim bo bt) (rf0 w1.heap.size n s inc base step lim) w2 w.heap.size 0) := hDu
  clear hDu hb2 hr2
  go_wp2_with (first | (go_at_call 21; refine (num_any _).mono ?_; rintro e w5 ⟨rfl, rfl⟩) | fail)
  exact bodyPost_ret (v := .tuple #[.pointer (some ⟨W.heap.size + 1, 0, none⟩), .pointer (some ⟨w1.heap.size, 0, none⟩), .bool true]) (by simp [results, Try.results31, go_sem]) rfl ⟨_, _, rfl, bstep Hb.out B2.out, HDu.out⟩
set_option maxHeartbeats 1000000 in
theorem exact_no (n s inc base step lim : Int) (oa : Option Addr) (on oc : Nat) (hno : newOk n s inc base step lim = false) : Calls Try.prog 7 #[.agg (rc n s inc base step lim oa on oc)] w fun e w' => e = .returned (.bool true) ∧ Below w.heap.size w w' := by
  generalize hW : w.alloc (.cells (rc n s inc base step lim oa on oc) 31) = W
  have hbW : Below w.heap.size w W := by rw [← hW]; exact balloc (Below.refl _ w)
  have hblk : W.heap[w.heap.size]? = some (.cells (rc n s inc base step lim oa on oc) 31 (0, 0)) := by rw [← hW]; exact heap_alloc_new w _
  obtain ⟨c0, c1, c2, c3, c4, c5, c6⟩ := run_cells hblk
  have HM := made_no (w := W) n s inc base step lim oa on oc hno
  have Hb : Hid (Below w.heap.size w W) := hbW
  unfold rc at hW HM ⊢
  clear hbW hblk hno
  go_enter Try.func7, Try.ntmps7
  go_wp2_with (first | (go_at_call 31; refine HM.mono ?_; rintro e w1 ⟨rfl, hb1⟩) | fail)
  go_ret
  exact ⟨rfl, bstep Hb.out hb1⟩
set_option maxHeartbeats 2000000 in
theorem exact_ok (n s : Nat) (inc base step lim : Int) (oa : Option Addr) (on oc : Nat) (os : Nat → Opx) (ho : RdOps w oa on os) (hon : on ≤ 2513169434916) (h43 : ∀ i, i < on → (os i).hn ≤ 17592186043904) (hok : newOk n s inc base step lim = true) : Calls Try.prog 7 #[.agg (rc n s inc base step lim oa on oc)] w fun e w' => e = .returned (.bool true) ∧ Below w.heap.size w w' := by
  have hn16 : n ≤ 16 := by
    have hk := hok
    unfold newOk at hk
    simp only [Bool.and_eq_true] at hk
    have := of_decide_eq_true hk.1
    omega
  generalize hW : w.alloc (.cells (rc n s inc base step lim oa on oc) 31) = W
  have hbW : Below w.heap.size w W := by rw [← hW]; exact balloc (Below.refl _ w)
  have hblk : W.heap[w.heap.size]? = some (.cells (rc n s inc base step lim oa on oc) 31 (0, 0)) := by rw [← hW]; exact heap_alloc_new w _
  obtain ⟨c0, c1, c2, c3, c4, c5, c6⟩ := run_cells hblk
  have HM := made_ok (w := W) n s inc base step lim oa on oc hok
  have Hb : Hid (Below w.heap.size w W) := hbW
  have HO : Hid (RdOps w oa on os) := ho
  have H43 : Hid (∀ i, i < on → (os i).hn ≤ 17592186043904) := h43
  have hwl := lt_heap hblk
  unfold rc at hW HM ⊢
  clear hbW hblk hok ho h43
  go_enter Try.func7, Try.ntmps7
  go_wp2_with (fail)
  refine HM.mono ?_
  rintro e w1 ⟨D, R, rfl, hb1, hDu⟩
  have B1 : Hid (Below W.heap.size W w1) := hb1
  have HDu : Hid (Du D R w1 W.heap.size 0) := hDu
  have d6 := below_at hb1 c6
  have Hd0 : Hid (w1.cell? ⟨w.heap.size, 0, none⟩ = some (.int .i64 (n : Int))) := below_at hb1 c0
  have Hd6 : Hid (w1.cell? ⟨w.heap.size, 6, none⟩ = some (.slice oa on oc)) := d6
  obtain ⟨db, hdb⟩ : ∃ x, D.b = x := ⟨_, rfl⟩
  obtain ⟨rb, hrb⟩ : ∃ x, R.b = x := ⟨_, rfl⟩
  have Hdb : Hid (D.b = db) := hdb
  have Hrb : Hid (R.b = rb) := hrb
  rw [hdb, hrb]
  clear hb1 hDu HM c0 c1 c2 c3 c4 c5 c6 hdb hrb
  go_wp2
  go_loopw [6] (fun v6 wr => ∃ (k : Nat) (D2 : De) (R2 : Rf), k ≤ on ∧ v6 = .int .i64 (k : Int) ∧ Du D2 R2 wr W.heap.size k ∧ D2.b = db ∧ R2.b = rb ∧ Below W.heap.size w1 wr) (fun v6 _ => on - (intOf v6).toNat)
  case atStart => exact ⟨0, D, R, Nat.zero_le _, rfl, HDu.out, Hdb.out, Hrb.out, Below.refl _ _⟩
  case round =>
    obtain ⟨k, D2, R2, hk, rfl, hd, rfl, rfl, hl⟩ := hrel
    have x6 : wr.cell? ⟨w.heap.size, 6, none⟩ = some (.slice oa on oc) := below_to hl hwl Hd6.out
    have x0 : wr.cell? ⟨w.heap.size, 0, none⟩ = some (.int .i64 (n : Int)) := below_to hl hwl Hd0.out
    have hlw : Below w.heap.size w wr := (bstep Hb.out B1.out).trans (hl.mono (by omega))
    by_cases hlt : k < on
    · obtain ⟨ob, off, hoa, v0, v1, v2, v3, v4⟩ := HO.out.at hlw hlt
      have hin := HO.out.2 k hlt
      have h43k := H43.out k hlt
      have hroK : ∀ w', Below W.heap.size wr w' → RdI w' (os k).ha (os k).hn (os k).hs := fun w' hb => hin.1.still (hlw.trans (hb.mono (by omega)))
      generalize os k = o at v0 v1 v2 v3 v4 hin h43k hroK
      have i1 : (0 : Int) ≤ (k : Int) := Int.natCast_nonneg _
      have i2 : (k : Int) < (on : Int) := by omega
      generalize hX : wr.alloc (.cells o.cs 61) = X
      have hbX : Below wr.heap.size wr X := by rw [← hX]; exact balloc (Below.refl _ wr)
      have hkX : X.heap[wr.heap.size]? = some (.cells o.cs 61 (0, 0)) := by rw [← hX]; exact heap_alloc_new wr _
      have hBr : W.heap.size ≤ wr.heap.size := hd.hB
      have hdX := hd.still hbX
      have HDo := does_any hdX (by omega) o (fun w' hb => hroK w' ((hbX.mono hBr).trans hb)) h43k
      have y0 : X.cell? ⟨wr.heap.size, 0, none⟩ = some (.int .i64 o.k) := blk_cell hkX 0
      have y1 : X.cell? ⟨wr.heap.size, 1, none⟩ = some (.int .i64 o.q) := blk_cell hkX 1
      have y2 : X.cell? ⟨wr.heap.size, 2, none⟩ = some (.int .i64 o.inc) := blk_cell hkX 2
      have y3 : X.cell? ⟨wr.heap.size, 3, none⟩ = some (.int .i64 o.t) := blk_cell hkX 3
      have y4 : X.cell? ⟨wr.heap.size, 4, none⟩ = some (.slice o.ha o.hn o.hc) := blk_cell hkX 4
      have HdX : Hid (Du D2 R2 X W.heap.size k) := hdX
      have HkX : Hid (X.heap[wr.heap.size]? = some (.cells o.cs 61 (0, 0))) := hkX
      have HlX : Hid (Below W.heap.size w1 X) := hl.trans (hbX.mono hBr)
      have hno : ¬ (D2.own wr.heap.size ∨ R2.own wr.heap.size) := fun e => by rcases e with e | e; (have := hd.d.ltOwn e; omega); (have := hd.r.ltOwn e; omega)
      unfold Opx.cs at hX HDo
      rw [hoa] at x6
      clear hd hl hlw hoa hin hroK hbX hkX hdX
      go_wp2_with (fail)
      refine HDo.mono ?_
      rintro e w4 ⟨rfl, D4, R4, q4⟩
      have hk4 := q4.kept.obj HkX.out hno
      have u0 : w4.cell? ⟨wr.heap.size, 0, none⟩ = some (.int .i64 o.k) := blk_cell hk4 0
      have u1 : w4.cell? ⟨wr.heap.size, 1, none⟩ = some (.int .i64 o.q) := blk_cell hk4 1
      have u2 : w4.cell? ⟨wr.heap.size, 2, none⟩ = some (.int .i64 o.inc) := blk_cell hk4 2
      have u3 : w4.cell? ⟨wr.heap.size, 3, none⟩ = some (.int .i64 o.t) := blk_cell hk4 3
      have u4 : w4.cell? ⟨wr.heap.size, 4, none⟩ = some (.slice o.ha o.hn o.hc) := blk_cell hk4 4
      have Hl4 : Hid (Below W.heap.size w1 w4) := HlX.out.trans (q4.lowB HdX.out)
      have HTe := tells_any q4.du (by omega) o
      rw [q4.db, q4.rb] at HTe
      have Hq4 : Hid (Dq X w4 D2 D4 R2 R4 W.heap.size (k + 1)) := q4
      unfold Opx.cs at HTe
      clear q4 hk4 HDo
      go_wp2_with (fail)
      refine HTe.mono ?_
      rintro e w5 ⟨rfl, hb5⟩
      have HF : Hid (∃ (k_1 : Nat) (D3 : De) (R3 : Rf), k_1 ≤ on ∧ Value.int .i64 ((k : Int) + 1) = .int .i64 (k_1 : Int) ∧ Du D3 R3 w5 W.heap.size k_1 ∧ D3.b = D2.b ∧ R3.b = R2.b ∧ Below W.heap.size w1 w5) := ⟨k + 1, D4, R4, by omega, by simp, Hq4.out.du.still hb5, Hq4.out.db, Hq4.out.rb, Hl4.out.trans (hb5.mono Hq4.out.du.hB)⟩
      clear hb5
      go_wp2
      first
        | exact ⟨HF.out, by simp [intOf]; omega⟩
        | (go_roundw
           case rel => exact HF.out
           case measure => simp [intOf]; omega)
    · obtain rfl : k = on := by omega
      have j2 : decide ((k : Int) < (k : Int)) = false := decide_eq_false (by omega)
      have HAl := all_any hd (by omega) n hn16
      have Hlw : Hid (Below w.heap.size w wr) := hlw
      clear hd hl hlw
      go_wp2_with (first | (go_at_call 34; refine HAl.mono ?_; rintro e w5 ⟨rfl, hb5⟩) | fail)
      go_ret
      exact ⟨rfl, bstep Hlw.out hb5⟩
theorem exact_any (n s inc base step lim : Int) (oa : Option Addr) (on oc : Nat) (os : Nat → Opx) (ho : RdOps w oa on os) (hon : on ≤ 2513169434916) (h43 : ∀ i, i < on → (os i).hn ≤ 17592186043904) : Calls Try.prog 7 #[.agg (rc n s inc base step lim oa on oc)] w fun e w' => e = .returned (.bool true) ∧ Below w.heap.size w w' := by
  cases hok : newOk n s inc base step lim with
  | false => exact exact_no n s inc base step lim oa on oc hok
  | true =>
    have hk := hok
    unfold newOk at hk
    simp only [Bool.and_eq_true] at hk
    obtain ⟨b1, b2, _⟩ := hk
    have a1 := of_decide_eq_true b1
    have a2 := of_decide_eq_true b2
    obtain ⟨k, rfl⟩ : ∃ k : Nat, n = k := ⟨n.toNat, by omega⟩
    obtain ⟨t, rfl⟩ : ∃ t : Nat, s = t := ⟨s.toNat, by omega⟩
    exact exact_ok k t inc base step lim oa on oc os ho hon h43 hok
end
end Go.Proofs.Ytcodpjblmeckkaa.Dt
