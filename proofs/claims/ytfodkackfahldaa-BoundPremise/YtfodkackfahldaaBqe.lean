import Derived.Test.YtfodkackfahldaaBqd
namespace Go.Proofs.Ytfodkackfahldaa.Lo
open Go.RowKit
set_option linter.unusedVariables false
set_option linter.unusedSimpArgs false

structure EvR (w : World) (ea : Option Addr) (en : Nat) (es : List Em) : Prop where
  len : es.length = en
  row : en = 0 ∨ ∃ b off, ea = some ⟨b, off, none⟩ ∧ ∀ i, i < en → w.rangeAt b (off + i * 13) (es.getD i em0).cs
  sd : ∀ i, i < en → Ri w (es.getD i em0).sa (es.getD i em0).sn (es.getD i em0).sc (es.getD i em0).xs ∧ (es.getD i em0).sn ≤ 140737488355328
theorem range_on {w w' : World} {b off : Nat} {cs : List Value} (h : w.rangeAt b off cs) (hb : Below w.heap.size w w') : w'.rangeAt b off cs := fun j v hv => by
  have h1 := h j v hv
  exact (hb.cell (World.block_lt_of_cell? w _ h1)).trans h1
theorem EvR.on {w w' : World} {ea : Option Addr} {en : Nat} {es : List Em} (h : EvR w ea en es) (hb : Below w.heap.size w w') : EvR w' ea en es :=
  ⟨h.len, h.row.elim .inl (fun ⟨b, off, e, hc⟩ => .inr ⟨b, off, e, fun i hi => range_on (hc i hi) hb⟩), fun i hi => ⟨(h.sd i hi).1.below hb, (h.sd i hi).2⟩⟩
theorem Sd.of {w : World} {ao : Option Addr} {n c : Nat} {xs : List Int} (h : Ri w ao n c xs) {B : Nat} (hB : w.heap.size ≤ B) : Sd w B ao n c xs := by
  refine ⟨h, fun hn a ha => ?_⟩
  rcases h.2.2 with h0 | ⟨b, off, e, hc⟩
  · omega
  · rw [e] at ha
    cases ha
    exact Nat.lt_of_lt_of_le (World.block_lt_of_cell? w _ (hc 0 hn)) hB
theorem belowB_at {B : Nat} {w w' : World} {k i : Nat} {v : Value} (hb : Below B w w') (hk : k < B) (hc : w.cell? ⟨k, i, none⟩ = some v) : w'.cell? ⟨k, i, none⟩ = some v := (hb.cell (p := ⟨k, i, none⟩) hk).trans hc
theorem belowB_range {B : Nat} {w w' : World} {b off : Nat} {cs : List Value} (hb : Below B w w') (hk : b < B) (h : w.rangeAt b off cs) : w'.rangeAt b off cs := fun j v hv => belowB_at hb hk (h j v hv)
theorem run_loadop {o : Oper} {ρ : Operand → Value} {w : World} (ty : TypeId) (x : Operand) (ho : o.op = .load ty x) {b off : Nat} (hx : ρ x = .pointer (some ⟨b, off, none⟩)) {cs : List Value} {d : TypeDesc} (hc : w.rangeAt b off cs) (hu : Try.prog.underlying ty = some d) (hd : d.isRow = true) (hi : (Try.prog.info? ty).map (·.size) = some cs.length) : (execOp ρ o).run Try.prog w = .ok (.value (.agg cs.toArray)) w := by
  unfold execOp
  simp only [ho, hx, Instr.loadAt, Instr.sureAddr, Sem.run_bind, Sem.run_pure, Result.andThen_ok, run_loadVar_mid w b off ty cs d hc hu hd hi]
theorem iEv (e : Em) : (Try.prog.info? 36).map (·.size) = some e.cs.length := by kernel_rfl
def pE (E : Int) (en : Nat) (no fl : Int) (xs : List Int) : Int := if E ≠ 0 then E else if 4000 < en then 25 else if setB no 0 xs && decide (fl ≤ 2305843009213693952) then 0 else 1
def pmF (N : Nat) (ba : Int) (es : List Em) (xs : List Int) (en : Nat) : Nat → Int := prK N (inF (wtF N ba) xs) es en
def pm (E : Int) (en : Nat) (no ba fl : Int) (es : List Em) (xs : List Int) : Int × Int × Int :=
  if pE E en no fl xs ≠ 0 then (0, 0, pE E en no fl xs) else if pmF no.toNat ba es xs en 290 = -1 then (0, 0, 180) else (pmF no.toNat ba es xs en 290, pmF no.toNat ba es xs en 291, 0)
set_option maxRecDepth 100000 in
set_option maxHeartbeats 1000000 in
theorem checkPremise_any (no wi ba st ca ro fl : Int) (va : Option Addr) (vn vc : Nat) (vs : List Int) (r : Bool) (E : Int) (ea : Option Addr) (en ec : Nat) (ao : Option Addr) (n c : Nat) (xs : List Int) (w : World) (h : Cf w no wi ba st ca ro fl va vn vc vs r E) (hr : Ri w ao n c xs) (hn : n ≤ 140737488355328) : Calls Try.prog 21 #[.agg #[.int .i64 no, .int .i64 wi, .int .i64 ba, .int .i64 st, .int .i64 ca, .int .i64 ro, .int .i64 fl, .slice va vn vc, .slice ea en ec], .slice ao n c] w fun e w' => e = .returned (.int .i64 (pE E en no fl xs)) ∧ Below w.heap.size w w' := by
  have HB : Hid (Below w.heap.size w (w.alloc (.cells #[.int .i64 no, .int .i64 wi, .int .i64 ba, .int .i64 st, .int .i64 ca, .int .i64 ro, .int .i64 fl, .slice va vn vc, .slice ea en ec] 27))) := bsp _ _ _
  have hk := heap_new w #[.int .i64 no, .int .i64 wi, .int .i64 ba, .int .i64 st, .int .i64 ca, .int .i64 ro, .int .i64 fl, .slice va vn vc, .slice ea en ec] 27
  have hWs : w.heap.size < (w.alloc (.cells #[.int .i64 no, .int .i64 wi, .int .i64 ba, .int .i64 st, .int .i64 ca, .int .i64 ro, .int .i64 fl, .slice va vn vc, .slice ea en ec] 27)).heap.size := by simp
  generalize hW : w.alloc (.cells #[.int .i64 no, .int .i64 wi, .int .i64 ba, .int .i64 st, .int .i64 ca, .int .i64 ro, .int .i64 fl, .slice va vn vc, .slice ea en ec] 27) = W at *
  have c0 : W.cell? ⟨w.heap.size, 0, none⟩ = some (.int .i64 no) := blk_cell hk 0
  have c1 : W.cell? ⟨w.heap.size, 1, none⟩ = some (.int .i64 wi) := blk_cell hk 1
  have c2 : W.cell? ⟨w.heap.size, 2, none⟩ = some (.int .i64 ba) := blk_cell hk 2
  have c3 : W.cell? ⟨w.heap.size, 3, none⟩ = some (.int .i64 st) := blk_cell hk 3
  have c4 : W.cell? ⟨w.heap.size, 4, none⟩ = some (.int .i64 ca) := blk_cell hk 4
  have c5 : W.cell? ⟨w.heap.size, 5, none⟩ = some (.int .i64 ro) := blk_cell hk 5
  have c6 : W.cell? ⟨w.heap.size, 6, none⟩ = some (.int .i64 fl) := blk_cell hk 6
  have c7 : W.cell? ⟨w.heap.size, 7, none⟩ = some (.slice va vn vc) := blk_cell hk 7
  have c8 : W.cell? ⟨w.heap.size, 8, none⟩ = some (.slice ea en ec) := blk_cell hk 8
  have hCW := h.below HB.out
  have HCk : Hid (Calls Try.prog 32 #[.agg #[.int .i64 no, .int .i64 wi, .int .i64 ba, .int .i64 st, .int .i64 ca, .int .i64 ro, .int .i64 fl, .slice va vn vc]] W fun e w' => e = .returned (.int .i64 E) ∧ Below W.heap.size W w') := check_eq no wi ba st ca ro fl va vn vc vs r E W hCW.rd hCW.le hCW.vt hCW.er
  have HK : Hid (∀ w', Below W.heap.size W w' → ∀ (i : Nat) v, W.cell? ⟨w.heap.size, i, none⟩ = some v → w'.cell? ⟨w.heap.size, i, none⟩ = some v) := (show ∀ w', _ from fun w' hb i v hc => below_at hb hc)
  unfold pE
  rcases h.two with rfl | ⟨rfl, hg⟩
  · clear hk h hr hCW HK
    go_enter Try.func21, Try.ntmps21
    go_wp2_with fail
    refine HCk.out.mono ?_
    rintro e w1 ⟨rfl, hb1⟩
    have HB1 : Hid (Below w.heap.size w w1) := bst HB.out hb1
    clear hb1
    go_wp2_with fail
    go_ret
    exact ⟨by simp, HB1.out⟩
  · have hh := headC_true hg
    have HI : Hid (∀ w', Below W.heap.size W w' → Calls Try.prog 39 #[.slice ao n c, .int .i64 no] w' fun e w'' => e = .returned (.bool (setB no 0 xs)) ∧ w' = w'') := (show ∀ w', _ from fun w' hb => isSet_any ao n c xs no w' hh.1 ((hr.below HB.out).below hb) hn)
    generalize hsb : setB no 0 xs = sb at *
    by_cases he : 4000 < en
    · have he1 : (4000 : Int) < (en : Int) := by omega
      clear hk h hr hCW hh
      go_enter Try.func21, Try.ntmps21
      go_wp2_with fail
      refine HCk.out.mono ?_
      rintro e w1 ⟨rfl, hb1⟩
      have HB1 : Hid (Below w.heap.size w w1) := bst HB.out hb1
      have d8 := HK.out w1 hb1 8 _ c8
      clear hb1
      go_wp2_with fail
      go_ret
      exact ⟨by simp [he], HB1.out⟩
    · have he1 : ¬ (4000 : Int) < (en : Int) := by omega
      have hfl : -9223372036854775808 ≤ fl := by omega
      by_cases hf : fl ≤ 2305843009213693952
      · have hf1 : ¬ (2305843009213693952 : Int) < fl := by omega
        clear hk h hr hCW hh
        cases sb
        · go_enter Try.func21, Try.ntmps21
          go_wp2_with fail
          refine HCk.out.mono ?_
          rintro e w1 ⟨rfl, hb1⟩
          have HB1 : Hid (Below w.heap.size w w1) := bst HB.out hb1
          have H2 : Hid (Calls Try.prog 39 #[.slice ao n c, .int .i64 no] w1 fun e w'' => e = .returned (.bool false) ∧ w1 = w'') := HI.out w1 hb1
          have d8 := HK.out w1 hb1 8 _ c8
          have d0 := HK.out w1 hb1 0 _ c0
          have d6 := HK.out w1 hb1 6 _ c6
          clear hb1 HI HK
          go_wp2_with (first | (go_at_call 39; refine H2.out.mono ?_; rintro e w' ⟨rfl, rfl⟩) | fail)
          go_ret
          exact ⟨by simp [he], HB1.out⟩
        · go_enter Try.func21, Try.ntmps21
          go_wp2_with fail
          refine HCk.out.mono ?_
          rintro e w1 ⟨rfl, hb1⟩
          have HB1 : Hid (Below w.heap.size w w1) := bst HB.out hb1
          have H2 : Hid (Calls Try.prog 39 #[.slice ao n c, .int .i64 no] w1 fun e w'' => e = .returned (.bool true) ∧ w1 = w'') := HI.out w1 hb1
          have d8 := HK.out w1 hb1 8 _ c8
          have d0 := HK.out w1 hb1 0 _ c0
          have d6 := HK.out w1 hb1 6 _ c6
          clear hb1 HI HK
          go_wp2_with (first | (go_at_call 39; refine H2.out.mono ?_; rintro e w' ⟨rfl, rfl⟩) | fail)
          go_ret
          exact ⟨by simp [he, hf], HB1.out⟩
      · have hf1 : (2305843009213693952 : Int) < fl := by omega
        clear hk h hr hCW hh
        cases sb
        · go_enter Try.func21, Try.ntmps21
          go_wp2_with fail
          refine HCk.out.mono ?_
          rintro e w1 ⟨rfl, hb1⟩
          have HB1 : Hid (Below w.heap.size w w1) := bst HB.out hb1
          have H2 : Hid (Calls Try.prog 39 #[.slice ao n c, .int .i64 no] w1 fun e w'' => e = .returned (.bool false) ∧ w1 = w'') := HI.out w1 hb1
          have d8 := HK.out w1 hb1 8 _ c8
          have d0 := HK.out w1 hb1 0 _ c0
          have d6 := HK.out w1 hb1 6 _ c6
          clear hb1 HI HK
          go_wp2_with (first | (go_at_call 39; refine H2.out.mono ?_; rintro e w' ⟨rfl, rfl⟩) | fail)
          go_ret
          exact ⟨by simp [he], HB1.out⟩
        · go_enter Try.func21, Try.ntmps21
          go_wp2_with fail
          refine HCk.out.mono ?_
          rintro e w1 ⟨rfl, hb1⟩
          have HB1 : Hid (Below w.heap.size w w1) := bst HB.out hb1
          have H2 : Hid (Calls Try.prog 39 #[.slice ao n c, .int .i64 no] w1 fun e w'' => e = .returned (.bool true) ∧ w1 = w'') := HI.out w1 hb1
          have d8 := HK.out w1 hb1 8 _ c8
          have d0 := HK.out w1 hb1 0 _ c0
          have d6 := HK.out w1 hb1 6 _ c6
          clear hb1 HI HK
          go_wp2_with (first | (go_at_call 39; refine H2.out.mono ?_; rintro e w' ⟨rfl, rfl⟩) | fail)
          go_ret
          exact ⟨by simp [he, show ¬ fl ≤ 2305843009213693952 from by omega], HB1.out⟩
end Go.Proofs.Ytfodkackfahldaa.Lo
