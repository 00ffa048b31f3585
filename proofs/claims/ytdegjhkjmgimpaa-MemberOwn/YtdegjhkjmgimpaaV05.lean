import Derived.Test.YtdegjhkjmgimpaaV04
namespace Go.Proofs.Ytdegjhkjmgimpaa.Mb
open Go.RowKit
set_option linter.unusedVariables false
set_option maxRecDepth 100000
set_option linter.unusedSimpArgs false
section
variable {A A' : Ag} {w w' W : World} {B : Nat} {T : Int}
theorem run_eqlop {o : Oper} {ρ : Operand → Value} {w : World} (t : TypeId) (x y : Operand) (t' : TypeId) (ho : o.op = .binOp .eql t x y t') (xs ys : Array Value) (hx : ρ x = .agg xs) (hy : ρ y = .agg ys) (hg : Try.prog.eqGuardType Try.prog.depth t = false) (r : Bool) (h : (Op.equalIn 10000 t (.agg xs) (.agg ys)).run Try.prog w = .ok r w) : (execOp ρ o).run Try.prog w = .ok (.value (.bool r)) w := by
  unfold execOp
  simp only [ho, hx, hy, Sem.run_bind, run_eqGuard_agg w .eql t x y xs ys hg, run_eql_struct, h, Result.andThen_ok, Sem.run_pure]
theorem run_neqop {o : Oper} {ρ : Operand → Value} {w : World} (t : TypeId) (x y : Operand) (t' : TypeId) (ho : o.op = .binOp .neq t x y t') (xs ys : Array Value) (hx : ρ x = .agg xs) (hy : ρ y = .agg ys) (hg : Try.prog.eqGuardType Try.prog.depth t = false) (r : Bool) (h : (Op.equalIn 10000 t (.agg xs) (.agg ys)).run Try.prog w = .ok r w) : (execOp ρ o).run Try.prog w = .ok (.value (.bool (!r))) w := by
  unfold execOp
  simp only [ho, hx, hy, Sem.run_bind, run_eqGuard_agg w .neq t x y xs ys hg, run_neq_struct, h, Result.andThen_ok, Sem.run_pure]
theorem eql_step {ops : Array Oper} {rest : List Oper} {o : Oper} {a : Act} {w : World} {Q : Exit → Act → World → Prop} (t : TypeId) (x y : Operand) (t' : TypeId) {xs ys : Array Value} {r : Bool} (h : (Op.equalIn 10000 t (.agg xs) (.agg ys)).run Try.prog w = .ok r w) (hg : Try.prog.eqGuardType Try.prog.depth t = false)
    (ho : o.op = .binOp .eql t x y t') (hx : a.eval x = .agg xs) (hy : a.eval y = .agg ys) (hw : Region.wanted o (yielded ops a.tmps) = true) (hn : wpList Try.prog ops Q rest (a.put o.dst (.bool r)) w) : wpList Try.prog ops Q (o :: rest) a w :=
  wpList_step fun K hK => by
    rw [if_pos hw]
    unfold Oper.wp
    rw [run_eqlop t x y t' ho xs ys hx hy hg r h]
    exact hK _ _ hn
theorem neq_step {ops : Array Oper} {rest : List Oper} {o : Oper} {a : Act} {w : World} {Q : Exit → Act → World → Prop} (t : TypeId) (x y : Operand) (t' : TypeId) {xs ys : Array Value} {r : Bool} (h : (Op.equalIn 10000 t (.agg xs) (.agg ys)).run Try.prog w = .ok r w) (hg : Try.prog.eqGuardType Try.prog.depth t = false)
    (ho : o.op = .binOp .neq t x y t') (hx : a.eval x = .agg xs) (hy : a.eval y = .agg ys) (hw : Region.wanted o (yielded ops a.tmps) = true) (hn : wpList Try.prog ops Q rest (a.put o.dst (.bool (!r))) w) : wpList Try.prog ops Q (o :: rest) a w :=
  wpList_step fun K hK => by
    rw [if_pos hw]
    unfold Oper.wp
    rw [run_neqop t x y t' ho xs ys hx hy hg r h]
    exact hK _ _ hn
def Ag.wv (A : Ag) (p : Pp) : Pp := { p with vec := A.vecOf p }
theorem wv_L (A : Ag) {p : Pp} (hp : p.L) : (A.wv p).L := ⟨hp.ls, hp.lp, vecOf_len A p⟩
def Ag.revE (A : Ag) (p : Pp) : Int := if (A.wv p).fl = A.own.fl then 0 else if p.rev = 4611686018427387904 then 3 else 0
def Ag.revA (A : Ag) (p : Pp) : Ag := if (A.wv p).fl = A.own.fl then A else if p.rev = 4611686018427387904 then A else { A with own := { A.wv p with rev := p.rev + 1 } }
theorem revA_b (A : Ag) (p : Pp) : (A.revA p).b = A.b := by unfold Ag.revA; split <;> (try split) <;> rfl
set_option maxHeartbeats 2000000 in
theorem revise_any (h : A.Ok w B T) (p : Pp) (hp : p.L) (hc : 0 ≤ p.cid ∧ p.cid ≤ 4611686018427387904) (hr : 0 ≤ p.rev ∧ p.rev ≤ 4611686018427387904) (ht : 0 ≤ p.top ∧ p.top ≤ T) : Calls Try.prog 33 #[.pointer (some ⟨A.b, 0, none⟩), .agg (ints p.fl).toArray] w fun e w' => e = .returned (.int .i64 (A.revE p)) ∧ (A.revA p).Ok w' B T ∧ Kept w w' (fun j => j = A.b) := by
  generalize hW1 : w.alloc (.cells (ints p.fl).toArray 63) = W1
  have b1 : Below w.heap.size w W1 := hW1 ▸ balloc (Below.refl _ _)
  have k1 : Rw W1 w.heap.size 63 p.fl := by unfold Rw; rw [← hW1]; exact heap_alloc_new w _
  have HA0 : Hid (A.Ok w B T) := h
  have HA1 : Hid (A.Ok W1 B T) := h.still b1
  have HB1 : Hid (Below w.heap.size w W1) := b1
  have HK1 : Hid (Rw W1 w.heap.size 63 p.fl) := k1
  have HV : Hid (Calls Try.prog 42 #[.pointer (some ⟨A.b, 0, none⟩), .agg (ints p.fl).toArray] W1 fun e w' => e = .returned (.agg (ints (A.vecOf p)).toArray) ∧ Below W1.heap.size W1 w') := vecOf_any (h.still b1) p hp
  have Hp : Hid p.L := hp
  have Lp : Hid (A.wv p).L := wv_L A hp
  have Lo : Hid A.own.L := h.ol
  have Hlt : Hid (A.b < w.heap.size) := h.lt_b
  clear h b1 k1 hp
  go_enter Try.func33, Try.ntmps33
  go_wp2_with (first
    | (refine load_mid 63 (.tmp 3) HK1.out.all _ Try.underlying63 rfl (by rw [ints_len, Hp.out.fl]; exact info_prop) rfl rfl rfl ?_)
    | (go_at_call 42; refine HV.out.mono ?_; rintro e W2 ⟨rfl, b2⟩; have HB2 : Hid (Below W1.heap.size W1 W2) := b2; clear b2)
    | (refine store_mid 61 (.tmp 8) (.tmp 7) ((HK1.out.still HB2.out).there 23 (A.vecOf p).length (by rw [vecOf_len, Hp.out.fl]; omega)) (by rw [vecOf_len]; exact info_row) rfl rfl rfl rfl ?_)
    | fail)
  have hV3 : Rw (W2.setCells w.heap.size 23 (ints (A.vecOf p))) w.heap.size 63 (A.wv p).fl := by
    have := Rw.sets (A.vecOf p) 23 W2 p.fl (HK1.out.still HB2.out) (by rw [vecOf_len, Hp.out.fl]; omega)
    rw [Hp.out.put_vec _ (vecOf_len A p)] at this
    exact this
  have hB3 : Below w.heap.size w (W2.setCells w.heap.size 23 (ints (A.vecOf p))) := bsets (Nat.le_refl _) _ _ (bstep HB1.out HB2.out)
  have HA3 : Hid (A.Ok (W2.setCells w.heap.size 23 (ints (A.vecOf p))) B T) := HA0.out.still hB3
  generalize W2.setCells w.heap.size 23 (ints (A.vecOf p)) = V at *
  have HV3 : Hid (Rw V w.heap.size 63 (A.wv p).fl) := hV3
  have HB3 : Hid (Below w.heap.size w V) := hB3
  clear hV3 hB3 HB2 HV HK1 HA1 HB1
  refine wp_region_held_drew (S := (fun w' => w'.rangeAt w.heap.size 0 (ints (A.wv p).fl) ∧ w'.rangeAt A.b 2 (ints A.own.fl))) (by kernel_rfl) ⟨(World.rangeAt_drew _ _ _ _).2 HV3.out.all, (World.rangeAt_drew _ _ _ _).2 HA3.out.own_r⟩ (fun hHeld => ?_)
  simp only [Act.put, List.size_toArray, List.length_cons, List.length_nil, Nat.zero_add]
  refine wpAnyH_take (i := 0) (v := .agg (ints (A.wv p).fl).toArray) rfl (by kernel_rfl) (by kernel_rfl) (by kernel_rfl) (fun _ _ _ h => h) (yieldsIf_load_mid (by rfl) 63 (.tmp 3) rfl w.heap.size (0) (by rfl) (ints (A.wv p).fl) _ (fun w' hS => hS.1) Try.underlying63 rfl (by rw [ints_len, Lp.out.fl]; exact info_prop)) hHeld ?_
  simp only [Act.put, gA9, gZ9, gC9, sA9, sZ9, sC9]
  refine wpAnyH_take (i := 1) (v := .pointer (some ⟨A.b, 0, none⟩)) rfl (by kernel_rfl) (by kernel_rfl) (by kernel_rfl) (fun _ _ _ h => h) (Or.inl ⟨by rfl, fun w' hS => by go_simp⟩) hHeld ?_
  simp only [Act.put, gA9, gZ9, gC9, sA9, sZ9, sC9]
  refine wpAnyH_take (i := 2) (v := .pointer (some ⟨A.b, 0, none⟩)) rfl (by kernel_rfl) (by kernel_rfl) (by kernel_rfl) (fun _ _ _ h => h) (Or.inl ⟨by rfl, fun w' hS => by go_simp⟩) hHeld ?_
  simp only [Act.put, gA9, gZ9, gC9, sA9, sZ9, sC9]
  refine wpAnyH_take (i := 3) (v := .pointer (some ⟨A.b, 2, none⟩)) rfl (by kernel_rfl) (by kernel_rfl) (by kernel_rfl) (fun _ _ _ h => h) (Or.inl ⟨by rfl, fun w' hS => by go_simp⟩) hHeld ?_
  simp only [Act.put, gA9, gZ9, gC9, sA9, sZ9, sC9]
  refine wpAnyH_take (i := 4) (v := .agg (ints A.own.fl).toArray) rfl (by kernel_rfl) (by kernel_rfl) (by kernel_rfl) (fun _ _ _ h => h) (yieldsIf_load_mid (by rfl) 63 (.tmp 12) rfl A.b (2) (by rfl) (ints A.own.fl) _ (fun w' hS => hS.2) Try.underlying63 rfl (by rw [ints_len, Lo.out.fl]; exact info_prop)) hHeld ?_
  simp only [Act.put, gA9, gZ9, gC9, sA9, sZ9, sC9]
  refine wpAnyH_take (i := 5) (v := .bool (decide ((A.wv p).fl = A.own.fl))) rfl (by kernel_rfl) (by kernel_rfl) (by kernel_rfl) (fun _ _ _ h => h) (Or.inl ⟨by rfl, fun w' hS => run_eqlop 63 (.tmp 9) (.tmp 13) 63 rfl _ _ (by rfl) (by rfl) (by kernel_rfl) _ (eq_prop_ _ _ Lp.out Lo.out)⟩) hHeld ?_
  simp only [Act.put, gA9, gZ9, gC9, sA9, sZ9, sC9]
  refine wpAnyH_done (by kernel_rfl) ?_ _
  clear hHeld
  have HA4 : Hid (A.Ok V.drew B T) := HA3.out.still (Below.refl _ _).drew
  have HV4 : Hid (Rw V.drew w.heap.size 63 (A.wv p).fl) := HV3.out.still (Below.refl _ _).drew
  have HB4 : Hid (Below w.heap.size w V.drew) := bstep HB3.out (Below.refl _ _).drew
  generalize V.drew = X at *
  clear HA3 HV3 HB3
  by_cases hq : (A.wv p).fl = A.own.fl
  · rw [decide_eq_true hq]
    have Hq : Hid ((A.wv p).fl = A.own.fl) := hq
    clear hq
    go_wp2
    go_ret
    unfold Ag.revE Ag.revA
    rw [if_pos Hq.out, if_pos Hq.out]
    exact ⟨rfl, HA4.out, Kept.ofBelow HB4.out _⟩
  · rw [decide_eq_false hq]
    have Hq : Hid (¬ (A.wv p).fl = A.own.fl) := hq
    clear hq
    have c0 : X.cell? ⟨w.heap.size, 17, none⟩ = some (.int .i64 p.rev) := by rw [HV4.out.cell (i := 17) (by rw [Lp.out.fl]; omega), Lp.out.rev]; rfl
    have f0 := HV4.out.fz 17
    by_cases hm : p.rev = 4611686018427387904
    · rw [hm] at c0
      have Hm : Hid (p.rev = 4611686018427387904) := hm
      clear hm
      go_wp2
      go_ret
      unfold Ag.revE Ag.revA
      rw [if_neg Hq.out, if_neg Hq.out, if_pos Hm.out, if_pos Hm.out]
      exact ⟨rfl, HA4.out, Kept.ofBelow HB4.out _⟩
    · have HX : Hid (Rw (X.setCell ⟨w.heap.size, 17, none⟩ (.int .i64 (p.rev + 1))) w.heap.size 63 ({ A.wv p with rev := p.rev + 1 } : Pp).fl) := by
        have := HV4.out.set 17 (p.rev + 1)
        rw [Lp.out.set_rev] at this
        exact this
      have HXA : Hid (A.Ok (X.setCell ⟨w.heap.size, 17, none⟩ (.int .i64 (p.rev + 1))) B T) := HA0.out.still (bset HB4.out (Nat.le_refl _) _ _)
      have HXB : Hid (Below w.heap.size w (X.setCell ⟨w.heap.size, 17, none⟩ (.int .i64 (p.rev + 1)))) := bset HB4.out (Nat.le_refl _) _ _
      have Lq : Hid ({ A.wv p with rev := p.rev + 1 } : Pp).L := ⟨Lp.out.ls, Lp.out.lp, Lp.out.lv⟩
      go_wp2_with (first
        | (refine load_mid 63 (.tmp 3) HX.out.all _ Try.underlying63 rfl (by rw [ints_len, Lq.out.fl]; exact info_prop) rfl rfl rfl ?_)
        | (refine store_mid 63 (.tmp 25) (.tmp 23) (HXA.out.blk.there 2 ({ A.wv p with rev := p.rev + 1 } : Pp).fl.length (by rw [Lq.out.fl]; omega)) (by rw [Lq.out.fl]; exact info_prop) rfl rfl rfl rfl ?_)
        | fail)
      go_ret
      unfold Ag.revE Ag.revA
      rw [if_neg Hq.out, if_neg Hq.out, if_neg hm, if_neg hm]
      exact ⟨rfl, HXA.out.putOwn _ Lq.out hc ⟨by show 0 ≤ p.rev + 1; omega, by show p.rev + 1 ≤ _; omega⟩ ht, (Kept.ofBelow HXB.out _).trans (ksets (P := fun j => j = A.b) rfl _ _ _)⟩
end
end Go.Proofs.Ytdegjhkjmgimpaa.Mb
