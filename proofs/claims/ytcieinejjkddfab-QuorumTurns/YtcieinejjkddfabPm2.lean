import Derived.Test.YtcieinejjkddfabPl2
import Derived.Test.YtcieinejjkddfabPj2
namespace Go.Proofs.Ytcieinejjkddfab.Qm
open Go.RowKit Mb
set_option linter.unusedVariables false
set_option maxRecDepth 100000
set_option linter.unusedSimpArgs false
section
variable {w w' : World} {B : Nat} {A : Wa} {R : Rq}
structure Sim (A : Wa) (R : Rq) : Prop where
  v : A.v = R.v
  en : A.en = R.es.length
  qu : A.qu = cnt (qb R) R.es.length
  inn : A.inn = inB R
  la : [A.l0, A.l1, A.l2, A.l3] = laI R R.es.length
  ep : A.ep = if R.es.length = 0 then 0 else (R.es.getD (R.es.length - 1) ve0).v.ep
theorem eql_step {ops : Array Oper} {rest : List Oper} {o : Oper} {a : Act} {w : World} {Q : Exit → Act → World → Prop} (t : TypeId) (x y : Operand) (t' : TypeId) (ho : o.op = .binOp .eql t x y t') {xs ys : Array Value} {r : Bool} (h : (Op.equalIn 10000 t (.agg xs) (.agg ys)).run Try.prog w = .ok r w) (hg : Try.prog.eqGuardType Try.prog.depth t = false)
    (hx : a.eval x = .agg xs) (hy : a.eval y = .agg ys) (hw : Region.wanted o (yielded ops a.tmps) = true) (hn : wpList Try.prog ops Q rest (a.put o.dst (.bool r)) w) : wpList Try.prog ops Q (o :: rest) a w :=
  wpList_step fun K hK => by
    rw [if_pos hw]
    unfold Oper.wp
    rw [run_eqlop t x y t' ho xs ys hx hy hg r h]
    exact hK _ _ hn
set_option maxHeartbeats 4000000 in
theorem asks_any (hA : A.Ok w) (hR : R.Ok w B) (hs : Sim A R) (hmax : R.es.length ≤ 2300000000000) (k : Int) : Calls Try.prog 22 #[.pointer (some ⟨A.b, 0, none⟩), .pointer (some ⟨R.b, 0, none⟩), .int .i64 k] w fun e w' => e = .returned (.bool true) ∧ Below w.heap.size w w' := by
  have HA : Hid (A.Ok w) := hA
  have HR : Hid (R.Ok w B) := hR
  have HS : Hid (Sim A R) := hs
  have HM : Hid (R.es.length ≤ 9000000000000000) := by show _ ≤ _; omega
  clear hA hR hs hmax
  by_cases h2 : k = 2
  · subst h2
    go_enter Try.func22, Try.ntmps22
    go_wp2_with (fail)
    refine (in_w HA.out).mono ?_
    rintro e w1 ⟨rfl, rfl⟩
    go_wp2_with (fail)
    refine (rin_any HR.out HM.out).mono ?_
    rintro e w2 ⟨rfl, hb2⟩
    rw [HS.out.inn]
    generalize inB R = q
    go_wp2
    go_ret
    exact ⟨by simp, hb2⟩
  by_cases h3 : k = 3
  · subst h3
    go_enter Try.func22, Try.ntmps22
    go_wp2_with (fail)
    refine (last_w HA.out).mono ?_
    rintro e w1 ⟨rfl, hb1⟩
    go_wp2_with (fail)
    refine (rlast_any (HR.out.still hb1) HM.out).mono ?_
    rintro e w2 ⟨rfl, hb2⟩
    rw [HS.out.la]
    have hl : (laI R R.es.length).length = 4 := by rw [← HS.out.la]; rfl
    generalize laI R R.es.length = q at *
    go_wp2_with (first
      | (refine eql_step 49 (.tmp 22) (.tmp 24) 49 rfl (eq_vid 9998 q q hl hl) guard_vid rfl rfl rfl ?_; rw [decide_eq_true rfl])
      | fail)
    go_ret
    exact ⟨rfl, bstep hb1 hb2⟩
  by_cases h4 : k = 4
  · subst h4
    go_enter Try.func22, Try.ntmps22
    go_wp2_with (fail)
    refine (count_w HA.out).mono ?_
    rintro e w1 ⟨rfl, hb1⟩
    go_wp2_with (fail)
    refine (rcount_any (HR.out.still hb1) HM.out).mono ?_
    rintro e w2 ⟨rfl, hb2⟩
    rw [HS.out.en, HS.out.qu]
    generalize R.es.length = n at *
    generalize cnt (qb R) n = q at *
    go_wp2
    go_ret
    exact ⟨rfl, bstep hb1 hb2⟩
  · have e2 : (k == 2) = false := by simpa using h2
    have e3 : (k == 3) = false := by simpa using h3
    have e4 : (k == 4) = false := by simpa using h4
    go_enter Try.func22, Try.ntmps22
    go_wp2
    go_ret
    exact ⟨rfl, Below.refl _ _⟩
end
end Go.Proofs.Ytcieinejjkddfab.Qm
