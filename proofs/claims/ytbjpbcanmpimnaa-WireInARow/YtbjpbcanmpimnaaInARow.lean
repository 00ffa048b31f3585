import Derived.Test.YtbjpbcanmpimnaaRow
import Derived.WalkKit
import Derived.ProofKit
import Derived.OpenShut
import Derived.ShutString
import Derived.ChangeOld
import Derived.Below
namespace Go.Proofs.Ytbjpbcanmpimnaa.wireInARow
open Go.ChangeShapes Go.WideShapes Go.ChangeAt Go.RowKit
open Go.ChangeMaps (open_string shut_string)
set_option linter.unusedVariables false

theorem own : ownKnob Try.prog.godebug = none := by kernel_rfl
theorem laidOut : laidOutB Try.prog = true := by kernel_rfl

def IsRow (k : IntKind) (w : World) (a : Option Addr) (len cap : Nat) (zs : List Int) : Prop :=
  (a = none ∧ len = 0 ∧ cap = 0 ∧ zs = []) ∨
  ∃ x, a = some x ∧ len ≤ cap ∧ cap ≤ maxLen ∧ zs.length = cap ∧ (∀ i, i < zs.length → w.cell? (x.add i) = some (.int k (zs.getD i 0))) ∧ ∀ n ∈ zs, (Lit.int k n).wf = true

theorem grown_below {w w1 : World} (hb : Below w.heap.size w w1) (r : Option Nat) : w.grownBy w1 r := ⟨hb.os, hb.tape, hb.output, hb.size, fun k hk _ => hb.block k hk⟩
theorem owns_below {w w1 : World} {base e size n : Nat} {v : Value} {xs : List Value} (h : w.ownsRow base e size v n xs) (hb : Below w.heap.size w w1) : w1.ownsRow base e size v n xs := by
  cases hv : v.ownBlock with
  | none => exact h.kept (grown_below hb none) (.inl hv)
  | some g => exact h.kept (grown_below hb none) (.inr (by rw [hv]; simp))

open Wk in
theorem step_want {w wr w1 w2 : World} {B : Nat} {vw vw' vb : Value} {vs : List Int} {v : Int} {bs' : List Int} {o : Obj} (hbel : Below B w wr) (hB : B ≤ wr.heap.size)
    (how : wr.ownsRow B 3 1 vw vs.length (vs.map (Value.int .i64))) (hob : Own w1 wr.heap.size vb bs') (hb1 : Below wr.heap.size wr w1)
    (how' : w2.ownsRow B 3 1 vw' (vs.length + 1) (vs.map (Value.int .i64) ++ [.int .i64 v])) (hg : (w1.alloc o).grownBy w2 vw.ownBlock) :
    Own w2 B vb bs' ∧ w2.ownsRow B 3 1 vw' (vs ++ [v]).length ((vs ++ [v]).map (Value.int .i64)) ∧ Below B w w2 := by
  have h1 : Below B w w1 := hbel.trans (hb1.mono hB)
  have hwlt := how.lt
  refine ⟨?_, by simpa using how', (h1.alloc (by have := h1.size; have := hb1.size; omega) o).grown hg (by have := hb1.size; simp; omega) (fun k hk => (hwlt k hk).1)⟩
  have ho := (hob.alloc o)
  refine Own.mono (World.ownsRow.kept ho hg ?_) hB
  have := hob.lt
  cases hv : vb.ownBlock with
  | none => exact .inl rfl
  | some g =>
    refine .inr ?_
    intro e
    have h2 := hwlt g e.symm
    have h3 := this g hv
    omega

theorem owns_shape {w : World} {base e n : Nat} {v : Value} {xs : List Value} (h : w.ownsRow base e 1 v n xs) : ∃ aw capw, v = .slice aw n capw := by
  rcases h.2 with ⟨h1, h2⟩ | ⟨g, cap, cur, hv, _⟩
  · subst h2; exact ⟨_, _, h1⟩
  · exact ⟨_, _, hv⟩

theorem owns_cell {w : World} {base e n cap : Nat} {aw : Option Addr} {vs : List Int} (h : w.ownsRow base e 1 (.slice aw n cap) n (vs.map (Value.int .i64))) : ∀ i, i < n → ∃ g, aw = some ⟨g, 0, none⟩ ∧ w.cell? ⟨g, i, none⟩ = some (.int .i64 (vs.getD i 0)) := by
  intro i hi
  have hl := h.1
  rcases h.2 with ⟨h1, h2⟩ | ⟨g, cap', cur, hv, _⟩
  · omega
  · simp only [Value.slice.injEq] at hv
    obtain ⟨rfl, _, rfl⟩ := hv
    refine ⟨g, rfl, ?_⟩
    have := World.ownsRow.cellAt h i (by omega)
    rw [this]
    simp at hl
    simp [List.getD, show i < vs.length by omega]

theorem slice_len {aw : Option Addr} {n m c : Nat} {v : Value} (h : v = .slice aw n c) (e : n = m) : v = .slice aw m c := by rw [h, e]

open Wk in
theorem hid_all {vs : List Int} {v : Int} (h : ∀ x ∈ vs, okv x) (hv : okv v) : ∀ x ∈ vs ++ [v], okv x := by
  intro x hx
  rcases List.mem_append.1 hx with h1 | h1
  · exact h x h1
  · simp at h1; subst h1; exact hv

open Wk in
theorem take_eq (ao : Option Addr) (len cap : Nat) (bs : List Int) (w : World) (hr : Rd w ao len bs) (hlen : len ≤ 140737488355328) (a x y z : Int) (h : Wm.tk bs a = (x, y, z)) :
    Calls Try.prog 9 #[.slice ao len cap, .int .i64 a] w fun e w' => e = .returned (.tuple #[.int .i64 x, .int .i64 y, .int .i64 z]) ∧ w = w' := by
  have := take_any ao len cap bs w hr hlen a
  rw [h] at this
  exact this

open Wk in
theorem encs_step (vs : List Int) (k : Nat) (hk : k < vs.length) : (encs (vs.take k)).length + 1 ≤ (encs (vs.take (k + 1))).length := by
  have ht : vs.take (k + 1) = vs.take k ++ [vs.getD k 0] := by
    have h1 : vs.getD k 0 = vs[k] := by simp [List.getD, hk]
    rw [h1, List.take_succ_eq_append_getElem hk]
  rw [ht, encs_snoc]
  have := Wm.put_ne 8 (vs.getD k 0)
  rw [List.length_append]; omega

open Wk in
set_option maxHeartbeats 2000000 in
theorem core (b off len0 cap0 : Nat) (z0 : List Int) (w : World) (hm : len0 ≤ 9223372036854775807) (hc : ∀ i, i < len0 → w.cell? ⟨b, off + i, none⟩ = some (.int .i64 (z0.getD i 0))) :
    Calls Try.prog 3 #[.slice (some ⟨b, off, none⟩) len0 cap0] w fun e w' => e = .returned (.bool true) ∧ Below w.heap.size w w' := by
  obtain ⟨i0, hi, hz0, hz1, hz2⟩ := info_parts info3
  go_enter Try.func3, Try.ntmps3
  go_wp2
  go_loopw [3, 4, 5] (fun vb vw i wr => ∃ (vs bs : List Int) (ao : Option Addr) (cap : Nat) (aw : Option Addr) (capw : Nat), i = .int .i64 vs.length ∧ vs.length ≤ 64 ∧ vs.length ≤ len0 ∧ Hid (∀ x ∈ vs, okv x) ∧ Hid (bs = encs vs) ∧ bs.length ≤ 576 ∧ vb = .slice ao bs.length cap ∧ Own wr w.heap.size (.slice ao bs.length cap) bs ∧
      vw = .slice aw vs.length capw ∧ wr.ownsRow w.heap.size 3 1 (.slice aw vs.length capw) vs.length (vs.map (Value.int .i64)) ∧ Below w.heap.size w wr) (fun _ _ i _ => 64 - (intOf i).toNat)
  case atStart => exact ⟨[], [], none, 0, none, 0, rfl, by decide, Nat.zero_le _, fun x hx => (by cases hx), rfl, by decide, rfl, World.ownsRow_nil _ _ _ _, rfl, World.ownsRow_nil _ _ _ _, Below.refl _ _⟩
  case round =>
    obtain ⟨vs, bs, ao, cap, aw, capw, rfl, h64, hle, hok, hbs, hbl, rfl, hob, rfl, how, hbel⟩ := hrel
    by_cases hgo : vs.length < len0 ∧ vs.length < 64
    · obtain ⟨hlt, hl64⟩ := hgo
      have hcw := hc vs.length hlt
      have hcell : wr.cell? ⟨b, off + vs.length, none⟩ = some (.int .i64 (z0.getD vs.length 0)) := (hbel.cell (World.block_lt_of_cell? w _ hcw)).trans hcw
      clear hcw hc
      generalize z0.getD vs.length 0 = z at *
      have hrd : Rd wr ao bs.length bs := hob.rd (by rw [hbs.out]; exact encs_bytes vs hok)
      have hcl := clamp_ok z
      have HC : Hid (okv (clamp z)) := hcl
      clear hcl
      go_wp2_with (first
        | (go_at_call 6; refine (into_any _ _).mono ?_; rintro e w' ⟨rfl, rfl⟩)
        | (go_at_call 7; refine (putInt_yes _ _ _ bs (clamp z) _ hrd (by omega) HC).mono ?_; rintro e w1 ⟨g1, cap1, m1, rfl, hm1, hlo1, hhi1, hob1, hbel1⟩)
        | (go_at_call 8; refine (num_any _ _).mono ?_; rintro e w' ⟨rfl, rfl⟩)
        | (at_builtin; refine wpList_append_own _ rfl _ _ 22 rfl w.heap.size 3 i0 (.int .i64 0) 1 8 Try.underlying22 hi hz0 hz1 hz2 rfl (by decide) _ _ _ rfl ((owns_below how hbel1).alloc _) ⟨w1.heap.size, 0, none⟩ 1 1 [.int .i64 (clamp z)] rfl rfl ?c1 ?c2 ?c3 ?c4 ?c5 ?_)
        | fail)
      case c1 => exact cell_one_new _ _ _
      case c2 => intro x hx; simp at hx; subst hx; rfl
      case c3 => unfold maxLen; omega
      case c4 => omega
      case c5 => have h1 := hbel.size; have h2 := hbel1.size; simp; omega
      intro v' w2 hown' hgrow _
      have R := step_want hbel hbel.size how hob1 hbel1 hown' hgrow
      obtain ⟨aw2, cap2, hv2⟩ := owns_shape R.2.1
      have HR : Hid (Own w2 w.heap.size (.slice (some ⟨g1, 0, none⟩) m1 cap1) (bs ++ Wm.put 8 (clamp z)) ∧ w2.ownsRow w.heap.size 3 1 v' (vs ++ [clamp z]).length ((vs ++ [clamp z]).map (Value.int .i64)) ∧ Below w.heap.size w w2) := R
      have HV2 : Hid (v' = .slice aw2 (vs ++ [clamp z]).length cap2) := hv2
      have HE : Hid (bs ++ Wm.put 8 (clamp z) = encs (vs ++ [clamp z])) := by rw [hbs.out, encs_snoc]; rfl
      have HK : Hid (∀ x ∈ vs ++ [clamp z], okv x) := hid_all hok HC
      have HL : Hid ((encs (vs ++ [clamp z])).length ≤ 9 * (vs ++ [clamp z]).length) := encs_len _
      clear hown' hgrow hob1 hbel1 how hob R hv2 hrd hbel
      go_wp2
      go_roundw
      case rel =>
        refine ⟨vs ++ [clamp z], bs ++ Wm.put 8 (clamp z), some ⟨g1, 0, none⟩, cap1, aw2, cap2, by simp, by simp; omega, by simp; omega, HK, HE, ?_, ?_, ?_, HV2, ?_, HR.out.2.2⟩
        · rw [HE.out]; have := HL.out; simp at this ⊢; omega
        · rw [← hm1.out]
        · rw [← hm1.out]; exact HR.out.1
        · rw [← HV2.out]; exact HR.out.2.1
      case measure => simp [intOf]; omega
    · have hrd : Rd wr ao bs.length bs := hob.rd (by rw [hbs.out]; exact encs_bytes vs hok)
      have hcw := owns_cell how
      have Hgo : Hid (¬ (vs.length < len0 ∧ vs.length < 64)) := hgo
      have HB : Hid (Below w.heap.size w wr) := hbel
      have Hcw : Hid (∀ i, i < vs.length → ∃ g, aw = some ⟨g, 0, none⟩ ∧ wr.cell? ⟨g, i, none⟩ = some (.int .i64 (vs.getD i 0))) := hcw
      clear hgo hcw hob how hbel hc
      have HT : Hid (∀ k, k < vs.length → Wm.tk bs ((encs (vs.take k)).length : Int) = (vs.getD k 0, ((encs (vs.take (k + 1))).length : Int), 0)) := by rw [hbs.out]; exact encs_take vs hok
      have HE : Hid (Wm.tk bs (bs.length : Int) = (0, 0, 10)) := Wm.tk_end _
      have HL : Hid ((encs (vs.take vs.length)).length = bs.length) := by rw [hbs.out, List.take_length]; rfl
      by_cases hlt : vs.length < len0
      all_goals
        have h64' : vs.length < len0 → decide ((vs.length : Int) < 64) = false := fun h1 => (by have := Hgo.out; simp; omega)
        try have h64'' := h64' hlt
        clear h64'
        go_wp2
        go_loop [9, 10] (fun a i => ∃ k : Nat, k ≤ vs.length ∧ i = .int .i64 k ∧ ∃ A : Nat, a = .int .i64 A ∧ Hid (A = (encs (vs.take k)).length)) (fun _ i => vs.length - (intOf i).toNat)
        case atStart => exact ⟨0, Nat.zero_le _, rfl, 0, rfl, rfl⟩
        case round =>
          obtain ⟨k, hk, rfl, A, rfl, hA⟩ := hrel
          by_cases hkl : k < vs.length
          · have ht := HT.out k hkl
            have hst := encs_step vs k hkl
            obtain ⟨g, rfl, hcell⟩ := Hcw.out k hkl
            obtain ⟨A', hA'⟩ : ∃ A', A' = (encs (vs.take (k + 1))).length := ⟨_, rfl⟩
            rw [← hA.out, ← hA'] at ht
            rw [← hA.out, ← hA'] at hst
            generalize vs.getD k 0 = x at *
            have HT' : Hid (Wm.tk bs (A : Int) = (x, (A' : Int), 0)) := ht
            have HA' : Hid (A' = (encs (vs.take (k + 1))).length) := hA'
            clear ht hA'
            go_wp2_with (first
              | (go_at_call 9; refine (take_eq _ _ _ bs _ hrd (by omega) _ _ _ _ HT').mono ?_; rintro e w' ⟨rfl, rfl⟩)
              | (go_at_call 8; refine (num_any _ _).mono ?_; rintro e w' ⟨rfl, rfl⟩)
              | fail)
            go_round
            case rel => exact ⟨k + 1, by omega, by go_num, A', rfl, HA'⟩
            case measure => simp [intOf]; omega
          · obtain rfl : k = vs.length := by omega
            obtain rfl : A = bs.length := hA.out.trans HL.out
            go_wp2_with (first
              | (go_at_call 9; refine (take_eq _ _ _ bs _ hrd (by omega) _ _ _ _ HE).mono ?_; rintro e w' ⟨rfl, rfl⟩)
              | (go_at_call 8; refine (num_any _ _).mono ?_; rintro e w' ⟨rfl, rfl⟩)
              | fail)
            go_ret
            exact ⟨rfl, HB⟩

open Wk in
set_option maxHeartbeats 1000000 in
theorem core_empty (a0 : Option Addr) (cap0 : Nat) (w : World) :
    Calls Try.prog 3 #[.slice a0 0 cap0] w fun e w' => e = .returned (.bool true) ∧ Below w.heap.size w w' := by
  have hrd : Rd w none 0 [] := ⟨rfl, .inl rfl, fun i => (by simp)⟩
  have HE : Hid (Wm.tk [] (0 : Int) = (0, 0, 10)) := by show Wm.tk [] (0 : Int) = (0, 0, 10); decide
  go_enter Try.func3, Try.ntmps3
  go_wp2
  refine wp_loop_rounds 1 ?_
  rw [rounds_succ]
  go_wp2
  refine wp_loop_rounds 1 ?_
  rw [rounds_succ]
  go_wp2_with (first
    | (go_at_call 9; refine (take_eq _ _ _ [] _ hrd (by omega) _ _ _ _ HE).mono ?_; rintro e w' ⟨rfl, rfl⟩)
    | (go_at_call 8; refine (num_any _ _).mono ?_; rintro e w' ⟨rfl, rfl⟩)
    | fail)
  go_ret
  exact ⟨rfl, Below.refl _ _⟩

theorem walk (a0 : Option Addr) (len0 cap0 : Nat) (z0 : List Int) (w : World) (w0 : IsRow .i64 w a0 len0 cap0 z0) :
    Calls Try.prog 3 #[.slice a0 len0 cap0] w fun e w' => e = .returned (.bool true) ∧ Below w.heap.size w w' := by
  rcases w0 with ⟨rfl, rfl, rfl, rfl⟩ | ⟨x, rfl, hl, hm, hz, hcell, hwz⟩
  · exact core_empty none 0 w
  · by_cases h0 : len0 = 0
    · subst h0; exact core_empty _ cap0 w
    · obtain ⟨b, off, spot⟩ := x
      have hc := hcell 0 (by omega)
      have hspot : spot = none := by simpa [Addr.add] using World.cell?_spot hc
      subst hspot
      exact core b off len0 cap0 z0 w (by unfold maxLen at hm; omega) (fun i hi => by have := hcell i (by omega); rwa [Addr.add_lit] at this)

set_option maxRecDepth 100000 in
theorem lifted (os : Os) (started : os.Started) (H : Type) (enc : TypeId × Value → H) :
    ReturnsInHanded {} Try.checked os 3 .any (Rows.wireInARowSpec.pre6 enc Try.prog Try.f3 Rows.wireInARowRow.domain false) (Rows.wireInARowSpec.post enc Try.prog Try.f3 false true false false) := by
  refine returnsInHanded_of_change (C := Try.checked) own started (by kernel_rfl) Try.func3
    (ChangeSpec.witness6 (enc := enc) (C := Try.checked) false ⟨#[], #[.slice none 0 0], []⟩ 8 (by kernel_rfl) (by kernel_rfl) (by kernel_rfl) (by kernel_rfl)) ?_
  intro W base args ds gs before hval0 hW hcnd _
  have hval : ∀ (j : Nat) t v, Try.f3.params[j]? = some t → args[j]? = some v → Value.okWide Try.prog W .any base t v := hval0
  have hW' := hW
  obtain ⟨p, q, hA0, hV, rfl, hfz, hnd⟩ := hW
  have hA : DataW.TrodAll enc Try.prog W 0 (fun _ => true) true Try.f3.params.toList args.toList ds p := hA0
  rw [Try.params3] at hA hval
  obtain ⟨v0, vs0, d0, ds0, p0, q0, hargs, rfl, rfl, h0, r0⟩ := trodAll_cons hA
  obtain ⟨rfl, rfl, rfl⟩ := trodAll_nil r0
  obtain rfl : args = #[v0] := by cases args; simp_all
  obtain ⟨rfl, rfl⟩ := trodVars_none hV
  obtain ⟨a0, len0, cap0, rfl⟩ := okWide_slice Try.underlying22 (hval 0 22 v0 rfl rfl)
  have k0 := h0
  have lt0 : ∀ x ∈ p0, x.block < W.heap.size := by obtain ⟨m, hm⟩ := k0; exact DataW.trod_lt m _ _ _ hm
  obtain ⟨z0, w0⟩ : ∃ zs, IsRow .i64 W a0 len0 cap0 zs := by
    obtain ⟨fuel, hf⟩ := h0
    rcases open_ints Try.underlying22 Try.underlying3 (by kernel_rfl) hf with ⟨hcs, _⟩ | ⟨x, l, c, zs, hcs, _, hl, hm, hz, _, hcell, hwz⟩
    · simp [Value.cells] at hcs
      obtain ⟨rfl, rfl, rfl⟩ := hcs
      exact ⟨[], .inl ⟨rfl, rfl, rfl, rfl⟩⟩
    · simp [Value.cells] at hcs
      obtain ⟨rfl, rfl, rfl⟩ := hcs
      exact ⟨zs, .inr ⟨_, rfl, hl, hm, by simpa using hz, hcell, hwz⟩⟩
  clear hA0 hval0
  refine (walk a0 len0 cap0 z0 W w0).mono fun e W' ⟨he, bel⟩ => ?_
  subst he
  exact ⟨_, rfl, _, _, _, [], _, [], hW', trodAll_mk1 (shut_bool Try.underlying4 _), (trodAll_cons_mk (Below.trod laidOut (by kernel_rfl) (of_decide_eq_true (by kernel_rfl)) k0 bel lt0) trodAll_mk0), rfl, bel.frame _, fun h => by cases h⟩

theorem over : Rows.wireInARowRow.holds Try.pinned (OpenSpec.ofChange Rows.wireInARowSpec) :=
  OpenClaim.holds_of_wide 3 Try.f3 rfl rfl rfl rfl rfl rfl rfl ⟨rfl, rfl, rfl, rfl, rfl⟩ rfl rfl rfl rfl rfl (by kernel_rfl) Try.func3 (by kernel_rfl)
    (of_decide_eq_true (by kernel_rfl)) (by unfold Func.isWrapper; first | (rw [if_pos (by decide +kernel)]; kernel_rfl) | (rw [if_neg (by decide +kernel)]; exact ⟨rfl, rfl⟩))
    (fun os started H enc _ => lifted os started H enc)

theorem proved : Rows.WireInARowSaid := over
end Go.Proofs.Ytbjpbcanmpimnaa.wireInARow

namespace Go.Proofs.Ytbjpbcanmpimnaa
theorem wireInARow_holds : Rows.WireInARowSaid := wireInARow.proved
end Go.Proofs.Ytbjpbcanmpimnaa
