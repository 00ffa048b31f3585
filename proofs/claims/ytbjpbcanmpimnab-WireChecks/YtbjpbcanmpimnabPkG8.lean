import Derived.Test.YtbjpbcanmpimnabPk7
namespace Go.Proofs.Ytbjpbcanmpimnab.Lo
open Go.RowKit Bk
set_option linter.unusedVariables false
set_option linter.unusedSimpArgs false

set_option maxRecDepth 100000 in
set_option maxHeartbeats 8000000 in
theorem good_8 (P : Pk) (xs ss vs hs : List Int) (sl : List (Int × Int)) (ds : List Dt) (w : World) (hp : Pw w P xs ss vs hs sl ds) (hk : P.k < 1 ∨ 7 < P.k) :
    Calls Try.prog 53 #[.agg P.cs] w fun x w' => x = .returned (.bool (goodB P xs ss vs hs sl ds)) ∧ Below w.heap.size w w' := by
  have HG : Hid (goodB P xs ss vs hs sl ds = false) := by
    show _ = _
    simp [goodB, headB_0 _ _ _ _ _ hk]
  have k1 : (P.k == 1) = false := by simp; omega
  have k2 : (P.k == 2) = false := by simp; omega
  have k3 : (P.k == 3) = false := by simp; omega
  have k4 : (P.k == 4) = false := by simp; omega
  have k5 : (P.k == 5) = false := by simp; omega
  have k6 : (P.k == 6) = false := by simp; omega
  have k7 : (P.k == 7) = false := by simp; omega
  obtain ⟨g, hg⟩ : ∃ r, goodB P xs ss vs hs sl ds = r := ⟨_, rfl⟩
  rw [hg]
  rw [hg] at HG
  clear hg
  obtain ⟨r3, hr3⟩ : ∃ r, othersB P = r := ⟨_, rfl⟩
  have HR3 : Hid (othersB P = r3) := hr3
  skip
  clear hr3
  have HP : Hid (Pw w P xs ss vs hs sl ds) := hp
  clear hp
  have B0 : Hid (Bl w (w.alloc (.cells P.cs 72)) w.heap.size P.cs) := Bl.new w _
  have c0 := B0.out.at 0 P.c0
  have c1 := B0.out.at 1 P.c1
  have c2 := B0.out.at 2 P.c2
  have c3 := B0.out.at 3 P.c3
  have c4 := B0.out.at 4 P.c4
  have BA : Hid (∀ o, Bl w ((w.alloc (.cells P.cs 72)).alloc o) w.heap.size P.cs) := fun o => B0.out.still (balloc (o := o) (Below.refl _ _))
  go_enter Try.func53, Try.ntmps53
  go_wp2_with (first
    | (go_at_call 72; refine (rwithin_any _ _ _ _).mono ?_; rintro e w' ⟨rfl, rfl⟩)
    | (refine load_pk (.tmp 1) (BA.out _) rfl rfl rfl ?_)
    | (go_at_call 90; refine (rothers_eq P r3 _ HR3.out).mono ?_; rintro e w1 ⟨rfl, hb⟩; have hh := (fun i => spill hb i); simp only [World.size_alloc] at hh; have B1 : Hid (Bl w w1 w.heap.size P.cs) := (BA.out _).still hb; have HQ : Hid (Pw w1 P xs ss vs hs sl ds) := HP.out.below B1.out.b; clear hb)
    | fail)
  all_goals go_ret
  all_goals refine ⟨?_, by first | exact B1.out.b | exact (BA.out _).b⟩
  all_goals rw [HG.out]
  all_goals (clear HG HR3 HP B0 c0 c1 c2 c3 c4 BA)
  all_goals (try clear HQ hh)
  all_goals simp_all

end Go.Proofs.Ytbjpbcanmpimnab.Lo
