import Derived.Test.YtbjpbcanmpimnabPk5
import Derived.Test.YtbjpbcanmpimnabPk1
namespace Go.Proofs.Ytbjpbcanmpimnab.Lo
open Go.RowKit Bk
set_option linter.unusedVariables false

theorem info_pk : (Try.prog.info? 72).map (·.size) = some 45 := by kernel_rfl

theorem Bl.load {w w' : World} {k : Nat} {P : Pk} (h : Bl w w' k P.cs) : (loadVar 72 ⟨k, 0, none⟩).run Try.prog w' = .ok (.agg P.cs) w' :=
  run_loadVar_row w' k 72 72 P.cs (0, 0) _ h.c Try.underlying72 rfl info_pk

theorem partFits_eq (P : Pk) (xs ss vs hs : List Int) (sl : List (Int × Int)) (ds : List Dt) (r : Bool) (w : World) (hp : Pw w P xs ss vs hs sl ds) (hk : inR P.k 1 7 = true) (h : partB P xs ss vs hs sl ds = r) :
    Calls Try.prog 51 #[.agg P.cs] w fun x w' => x = .returned (.bool r) ∧ Below w.heap.size w w' := by
  subst h
  exact partFits_any P xs ss vs hs sl ds w hp hk
theorem othersZero_eq (P : Pk) (r : Bool) (w : World) (hk : inR P.k 1 7 = true) (h : othersB P = r) :
    Calls Try.prog 52 #[.agg P.cs] w fun x w' => x = .returned (.bool r) ∧ Below w.heap.size w w' := by
  subst h
  exact othersZero_any P w hk

theorem load_pk {ops : Array Oper} {rest : List Oper} {o : Oper} {a : Act} {w w' : World} {k : Nat} {P : Pk} {Q : Exit → Act → World → Prop} (x : Operand) (hb : Bl w w' k P.cs) (hw : Region.wanted o (yielded ops a.tmps) = true) (ho : o.op = .load 72 x) (hx : a.eval x = .pointer (some ⟨k, 0, none⟩))
    (h : wpList Try.prog ops Q rest (a.put o.dst (.agg P.cs)) w') : wpList Try.prog ops Q (o :: rest) a w' :=
  wpList_step fun K hK => by
    rw [if_pos hw]
    exact wp_load_row 72 x ho k hx 72 P.cs (0, 0) _ hb.c Try.underlying72 rfl info_pk (hK _ _ h)

set_option maxRecDepth 100000 in
set_option maxHeartbeats 2000000 in
theorem check_any (P : Pk) (xs ss vs hs : List Int) (sl : List (Int × Int)) (ds : List Dt) (w : World) (hp : Pw w P xs ss vs hs sl ds) :
    Calls Try.prog 22 #[.agg P.cs] w fun x w' => x = .returned (.int .i64 (if headB P.k P.src P.si P.dst P.di && partB P xs ss vs hs sl ds && othersB P then 0 else 16)) ∧ Below w.heap.size w w' := by
  have HP : Hid (Pw w P xs ss vs hs sl ds) := hp
  have B0 : Hid (Bl w (w.alloc (.cells P.cs 72)) w.heap.size P.cs) := Bl.new w _
  clear hp
  cases h1 : headB P.k P.src P.si P.dst P.di with
  | false =>
    simp only [Bool.false_and, Bool.false_eq_true, if_false]
    go_enter Try.func22, Try.ntmps22
    go_wp2_with (first
      | (refine load_pk (.tmp 1) B0.out rfl rfl rfl ?_)
      | (go_at_call 50; refine (headFits_any P.cs _ _ _ _ _ P.hd _).mono ?_; rintro e w1 ⟨rfl, hb1⟩; have B1 : Hid (Bl w w1 w.heap.size P.cs) := B0.out.still hb1; clear hb1)
      | fail)
    go_ret
    exact ⟨rfl, B1.out.b⟩
  | true =>
    have hk : inR P.k 1 7 = true := by
      unfold headB at h1
      simp only [Bool.and_eq_true] at h1
      exact h1.1.1.1.1.1
    have HK : Hid (inR P.k 1 7 = true) := hk
    clear hk
    obtain ⟨r2, hr2⟩ : ∃ r, partB P xs ss vs hs sl ds = r := ⟨_, rfl⟩
    obtain ⟨r3, hr3⟩ : ∃ r, othersB P = r := ⟨_, rfl⟩
    have HR2 : Hid (partB P xs ss vs hs sl ds = r2) := hr2
    have HR3 : Hid (othersB P = r3) := hr3
    rw [hr2, hr3, Bool.true_and]
    clear hr2 hr3
    cases r2 with
    | false =>
      go_enter Try.func22, Try.ntmps22
      go_wp2_with (first
        | (refine load_pk (.tmp 1) B0.out rfl rfl rfl ?_)
        | (go_at_call 50; refine (headFits_any P.cs _ _ _ _ _ P.hd _).mono ?_; rintro e w1 ⟨rfl, hb1⟩; have B1 : Hid (Bl w w1 w.heap.size P.cs) := B0.out.still hb1; clear hb1)
        | (refine load_pk (.tmp 1) B1.out rfl rfl rfl ?_)
        | (go_at_call 51; refine (partFits_eq P xs ss vs hs sl ds false _ (by exact HP.out.below B1.out.b) HK.out HR2.out).mono ?_; rintro e w2 ⟨rfl, hb2⟩; have B2 : Hid (Bl w w2 w.heap.size P.cs) := B1.out.still hb2; clear hb2)
        | fail)
      go_ret
      exact ⟨rfl, B2.out.b⟩
    | true =>
      cases r3 with
      | false =>
        go_enter Try.func22, Try.ntmps22
        go_wp2_with (first
          | (refine load_pk (.tmp 1) B0.out rfl rfl rfl ?_)
          | (go_at_call 50; refine (headFits_any P.cs _ _ _ _ _ P.hd _).mono ?_; rintro e w1 ⟨rfl, hb1⟩; have B1 : Hid (Bl w w1 w.heap.size P.cs) := B0.out.still hb1; clear hb1)
          | (refine load_pk (.tmp 1) B1.out rfl rfl rfl ?_)
          | (go_at_call 51; refine (partFits_eq P xs ss vs hs sl ds true _ (by exact HP.out.below B1.out.b) HK.out HR2.out).mono ?_; rintro e w2 ⟨rfl, hb2⟩; have B2 : Hid (Bl w w2 w.heap.size P.cs) := B1.out.still hb2; clear hb2)
          | (refine load_pk (.tmp 1) B2.out rfl rfl rfl ?_)
          | (go_at_call 52; refine (othersZero_eq P false _ HK.out HR3.out).mono ?_; rintro e w3 ⟨rfl, hb3⟩; have B3 : Hid (Bl w w3 w.heap.size P.cs) := B2.out.still hb3; clear hb3)
          | fail)
        go_ret
        exact ⟨rfl, B3.out.b⟩
      | true =>
        go_enter Try.func22, Try.ntmps22
        go_wp2_with (first
          | (refine load_pk (.tmp 1) B0.out rfl rfl rfl ?_)
          | (go_at_call 50; refine (headFits_any P.cs _ _ _ _ _ P.hd _).mono ?_; rintro e w1 ⟨rfl, hb1⟩; have B1 : Hid (Bl w w1 w.heap.size P.cs) := B0.out.still hb1; clear hb1)
          | (refine load_pk (.tmp 1) B1.out rfl rfl rfl ?_)
          | (go_at_call 51; refine (partFits_eq P xs ss vs hs sl ds true _ (by exact HP.out.below B1.out.b) HK.out HR2.out).mono ?_; rintro e w2 ⟨rfl, hb2⟩; have B2 : Hid (Bl w w2 w.heap.size P.cs) := B1.out.still hb2; clear hb2)
          | (refine load_pk (.tmp 1) B2.out rfl rfl rfl ?_)
          | (go_at_call 52; refine (othersZero_eq P true _ HK.out HR3.out).mono ?_; rintro e w3 ⟨rfl, hb3⟩; have B3 : Hid (Bl w w3 w.heap.size P.cs) := B2.out.still hb3; clear hb3)
          | fail)
        go_ret
        exact ⟨rfl, B3.out.b⟩

end Go.Proofs.Ytbjpbcanmpimnab.Lo
