import Derived.Test.YtpkcgjnaegaecaaYs5
import Derived.Test.YtpkcgjnaegaecaaZ2
import Derived.Test.YtpkcgjnaegaecaaRows
import Derived.WalkKit
import Derived.ProofKit
import Derived.OpenShut
import Derived.JoinedCond
import Derived.ShutString
import Derived.ChangeOld
import Derived.Below
namespace Go.Proofs.Ytpkcgjnaegaecaa.Of
open Go.ChangeShapes Go.WideShapes Go.ChangeAt Go.RowKit Mb Fm
set_option linter.unusedVariables false
set_option linter.unusedSimpArgs false
set_option maxRecDepth 100000
section
variable {H : Type} {enc : TypeId × Value → H} {W : World}
theorem cMx : Try.prog.cellsOf 46 = 6 := by kernel_rfl
theorem list6m {α : Type} {l : List α} (h : l.length = 6) : ∃ c0 c1 c2 c3 c4 c5, l = [c0, c1, c2, c3, c4, c5] := by
  match l, h with
  | [c0, c1, c2, c3, c4, c5], _ => exact ⟨c0, c1, c2, c3, c4, c5, rfl⟩
theorem open_mix {base : Nat} {v : Value} {d : DataW H} {p : List MemPlace} (hv : Value.okWide Try.prog W .any base 46 v) (h : DataW.Trod enc Try.prog W 0 (fun _ => true) true 46 v d p) (hw : Sm d) :
    ∃ (k : Mx) (ts : List Int) (ds : List Dx), v = .agg k.cs.toArray ∧ RdFs W k.ao k.fs ∧ k.fs.length ≤ 1048576 ∧ (∀ i, i < k.fs.length → (k.fs.getD i fl0).In W) ∧ RdI W k.ta ts ∧ ts.length = k.tn ∧ k.tn ≤ 1048576 ∧ RdDs W k.ma ds ∧ ds.length = k.mn ∧ k.mn ≤ 1048576 ∧ (∀ i, i < ds.length → DxIn (ds.getD i dx0) W) := by
  obtain ⟨cs, rfl, hsz⟩ := okWide_struct Try.underlying46 hv
  rw [cMx] at hsz
  obtain ⟨l⟩ := cs
  obtain ⟨c0, c1, c2, c3, c4, c5, rfl⟩ := list6m hsz
  obtain ⟨fuel, hf⟩ := h
  obtain ⟨xs, m, hxl, hF, hS⟩ := struct_parts Try.underlying46 hf hw
  obtain ⟨y0, y1, y2, y3, y4, y5, rfl⟩ := list6m hxl
  have h0 : DataW.trod enc Try.prog W 0 (fun _ => true) true m 22 [c0] = some y0 := by simpa [Value.cells, cFs] using hF 0 _ rfl
  have h1 : DataW.trod enc Try.prog W 0 (fun _ => true) true m 28 [c1] = some y1 := by simpa [Value.cells, cIs] using hF 1 _ rfl
  have h2 : DataW.trod enc Try.prog W 0 (fun _ => true) true m 3 [c2] = some y2 := by simpa [Value.cells, cI] using hF 2 _ rfl
  have h3 : DataW.trod enc Try.prog W 0 (fun _ => true) true m 3 [c3] = some y3 := by simpa [Value.cells, cI] using hF 3 _ rfl
  have h4 : DataW.trod enc Try.prog W 0 (fun _ => true) true m 3 [c4] = some y4 := by simpa [Value.cells, cI] using hF 4 _ rfl
  have h5 : DataW.trod enc Try.prog W 0 (fun _ => true) true m 44 [c5] = some y5 := by simpa [Value.cells, cDs] using hF 5 _ rfl
  obtain ⟨ao, fs, cp, rfl, r1, r2, r3⟩ := open_flushes h0 (hS 0 _ rfl)
  obtain ⟨ta, ts, tc, rfl, s1, s2, s3⟩ := open_ints h1 (hS 1 _ rfl)
  obtain ⟨a2, rfl, _⟩ := open_i h2
  obtain ⟨a3, rfl, _⟩ := open_i h3
  obtain ⟨a4, rfl, _⟩ := open_i h4
  obtain ⟨ma, ds, mc, rfl, t1, t2, t3⟩ := open_datas h5 (hS 5 _ rfl)
  exact ⟨⟨ao, cp, fs, ta, ts.length, tc, a2, a3, a4, ma, ds.length, mc⟩, ts, ds, rfl, r1, r2, r3, s1, rfl, s2, t1, rfl, t2, t3⟩
end
end Go.Proofs.Ytpkcgjnaegaecaa.Of
namespace Go.Proofs.Ytpkcgjnaegaecaa.flushAgree
open Go.ChangeShapes Go.WideShapes Go.ChangeAt Go.RowKit Mb Fm
set_option linter.unusedVariables false
set_option maxRecDepth 100000

theorem own : ownKnob Try.prog.godebug = none := by kernel_rfl
theorem laidOut : laidOutB Try.prog = true := by kernel_rfl

theorem contract (H : Type) (enc : TypeId × Value → H) (W : World) (base : Nat) (args : Array Value) (ds gs : List (DataW H)) (before : List MemPlace)
    (hval : ∀ (j : Nat) t v, Try.f4.params[j]? = some t → args[j]? = some v → Value.okWide Try.prog W .any base t v)
    (hW : DataW.Whole enc Try.prog Try.f4.params.toList Rows.flushAgreeSpec.vars false W args.toList ds gs before) (hk : Rows.uptoSmall H (ds ++ gs) = true) :
    Calls Try.prog 4 args W fun e W' => ∃ v, e = .returned v ∧ Rows.flushAgreeSpec.post enc Try.prog Try.f4 false true false false W args v W' := by
  have hW' := hW
  obtain ⟨p, q, hA0, hV, rfl, hfz, hnd⟩ := hW
  have hA : DataW.TrodAll enc Try.prog W 0 (fun _ => true) true Try.f4.params.toList args.toList ds p := hA0
  rw [Try.params4] at hA hval
  obtain ⟨v0, vs0, d0, ds0, p0, q0, hargs, rfl, rfl, h0, r0⟩ := trodAll_cons hA
  obtain ⟨rfl, rfl, rfl⟩ := trodAll_nil r0
  obtain rfl : args = #[v0] := by cases args; simp_all
  obtain ⟨rfl, rfl⟩ := trodVars_none hV
  have k0 := h0
  have lt0 : ∀ x ∈ p0, x.block < W.heap.size := by obtain ⟨m, hm⟩ := k0; exact DataW.trod_lt m _ _ _ hm
  have hs0 : Of.Sm d0 := by
    have h := of_decide_eq_true hk
    simp only [List.cons_append, List.nil_append, Rows.uptoBulkAll] at h
    unfold Of.Sm
    omega
  obtain ⟨k, who, ds, rfl, r1, r2, r3, s1, s2, s3, t1, t2, t3, t4⟩ := Of.open_mix (hval 0 46 v0 rfl rfl) h0 hs0
  clear hA0
  have hc := flushAgree_any r1 r3 r2 s1 s2 s3 t1 t2 t3 t4
  refine hc.mono fun e W' ⟨he, bel⟩ => ?_
  subst he
  exact ⟨_, rfl, _, _, _, [], _, [], hW', trodAll_mk1 (shut_bool Try.underlying4 _), (trodAll_cons_mk (Below.trod laidOut (by kernel_rfl) (of_decide_eq_true (by kernel_rfl)) k0 bel lt0) trodAll_mk0), rfl, bel.frame _, fun h => by cases h⟩

set_option maxRecDepth 100000 in
theorem lifted (os : Os) (started : os.Started) (H : Type) (enc : TypeId × Value → H) (F : Stop.Interp) :
    ReturnsInHanded {} Try.checked os 4 .any ((Rows.OpenSpec.upto Rows.flushAgreeSpec).pre6 enc Try.prog Try.f4 Rows.flushAgreeUptoRow.domain false) (((Rows.OpenSpec.upto Rows.flushAgreeSpec).at F).post enc Try.prog Try.f4 false true false false) := by
  refine returnsInHanded_of_cond (C := Try.checked) (s := Rows.OpenSpec.upto Rows.flushAgreeSpec) (k := Rows.uptoSmall) rfl own started (by kernel_rfl) Try.func4
    (OpenSpec.witness (enc := enc) (C := Try.checked) (s := Rows.OpenSpec.upto Rows.flushAgreeSpec) (k := Rows.uptoSmall) rfl false ⟨#[], #[.agg #[.slice none 0 0, .slice none 0 0, .int .i64 0, .int .i64 0, .int .i64 0, .slice none 0 0]], []⟩ 8 (by kernel_rfl) (by kernel_rfl) (by kernel_rfl)
      (x := ([.agg [.nil, .nil, .lit (.int .i64 0), .lit (.int .i64 0), .lit (.int .i64 0), .nil]], [], [])) (by kernel_rfl) rfl (by kernel_rfl)) ?_
  intro W base args ds gs before hval hW _ hk _
  exact contract H enc W base args ds gs before hval hW hk

theorem over : Rows.flushAgreeUptoRow.holds Try.pinned (Rows.OpenSpec.upto Rows.flushAgreeSpec) :=
  OpenClaim.holds_of_cond 4 Try.f4 rfl rfl rfl rfl rfl rfl rfl ⟨rfl, rfl, rfl, rfl, rfl⟩ rfl rfl rfl rfl rfl (by kernel_rfl) Try.func4 (by kernel_rfl)
    (of_decide_eq_true (by kernel_rfl)) (by unfold Func.isWrapper; first | (rw [if_pos (by decide +kernel)]; kernel_rfl) | (rw [if_neg (by decide +kernel)]; exact ⟨rfl, rfl⟩))
    (fun os started H enc _ F => lifted os started H enc F)

theorem proved : Rows.FlushAgreeUptoSaid := over
end Go.Proofs.Ytpkcgjnaegaecaa.flushAgree

namespace Go.Proofs.Ytpkcgjnaegaecaa
theorem flushAgree_holds : Rows.FlushAgreeUptoSaid := flushAgree.proved
end Go.Proofs.Ytpkcgjnaegaecaa
