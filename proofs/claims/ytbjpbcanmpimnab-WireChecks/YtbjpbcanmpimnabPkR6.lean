import Derived.Test.YtbjpbcanmpimnabPk6
namespace Go.Proofs.Ytbjpbcanmpimnab.Lo
open Go.RowKit Bk
set_option linter.unusedVariables false
set_option linter.unusedSimpArgs false

set_option maxRecDepth 100000 in
set_option maxHeartbeats 8000000 in
theorem roth_6 (P : Pk) (w : World) (hk : P.k = 6) :
    Calls Try.prog 90 #[.agg P.cs] w fun x w' => x = .returned (.bool (othersB P)) ∧ Below w.heap.size w w' := by
  obtain ⟨r, hr⟩ : ∃ r, othersB P = r := ⟨_, rfl⟩
  have HR : Hid (othersB P = r) := hr
  rw [hr]
  clear hr
  have B0 : Hid (Bl w (w.alloc (.cells P.cs 72)) w.heap.size P.cs) := Bl.new w _
  have c0 : (w.alloc (.cells P.cs 72)).cell? ⟨w.heap.size, 0, none⟩ = some (.int .i64 6) := B0.out.at 0 (P.c0.trans (by rw [hk]))
  have d5 := B0.out.at 5 P.c5
  have d6 := B0.out.at 6 P.c6
  have d7 := B0.out.at 7 P.c7
  have d8 := B0.out.at 8 P.c8
  have d9 := B0.out.at 9 P.c9
  have d10 := B0.out.at 10 P.c10
  have d11 := B0.out.at 11 P.c11
  have d12 := B0.out.at 12 P.c12
  have d13 := B0.out.at 13 P.c13
  have d14 := B0.out.at 14 P.c14
  have d15 := B0.out.at 15 P.c15
  have e16 := fun o => (B0.out.still (balloc (o := o) (Below.refl _ _))).at 16 P.c16
  have e17 := fun o => (B0.out.still (balloc (o := o) (Below.refl _ _))).at 17 P.c17
  have e18 := fun o => (B0.out.still (balloc (o := o) (Below.refl _ _))).at 18 P.c18
  have e19 := fun o => (B0.out.still (balloc (o := o) (Below.refl _ _))).at 19 P.c19
  have e20 := fun o => (B0.out.still (balloc (o := o) (Below.refl _ _))).at 20 P.c20
  have e21 := fun o => (B0.out.still (balloc (o := o) (Below.refl _ _))).at 21 P.c21
  have e22 := fun o => (B0.out.still (balloc (o := o) (Below.refl _ _))).at 22 P.c22
  go_enter Try.func90, Try.ntmps90
  go_wp2_with (first
    | (go_at_call 110; refine (rnone_any _ _ _ _ _).mono ?_; rintro e w5 ⟨rfl, hb⟩; have B5 : Hid (Bl w w5 w.heap.size P.cs) := (by first | exact B4.out.still hb | exact (B4.out.still (balloc (Below.refl _ _))).still hb | exact ((B4.out.still (balloc (Below.refl _ _))).still (balloc (Below.refl _ _))).still hb); have r4_44 := B5.out.at 44 P.c44; clear hb)
    | (go_at_call 110; refine (rnone_any _ _ _ _ _).mono ?_; rintro e w4 ⟨rfl, hb⟩; have B4 : Hid (Bl w w4 w.heap.size P.cs) := (by first | exact B3.out.still hb | exact (B3.out.still (balloc (Below.refl _ _))).still hb | exact ((B3.out.still (balloc (Below.refl _ _))).still (balloc (Below.refl _ _))).still hb); have p3_40 := B4.out.at 40 P.c40; have p3_41 := B4.out.at 41 P.c41; have p3_42 := B4.out.at 42 P.c42; have p3_43 := B4.out.at 43 P.c43; have p3_44 := B4.out.at 44 P.c44; have r3_33 := B4.out.at 33 P.c33; have r3_34 := B4.out.at 34 P.c34; clear hb)
    | (go_at_call 110; refine (rnone_any _ _ _ _ _).mono ?_; rintro e w3 ⟨rfl, hb⟩; have B3 : Hid (Bl w w3 w.heap.size P.cs) := (by first | exact B2.out.still hb | exact (B2.out.still (balloc (Below.refl _ _))).still hb | exact ((B2.out.still (balloc (Below.refl _ _))).still (balloc (Below.refl _ _))).still hb); have p2_29 := B3.out.at 29 P.c29; have p2_30 := B3.out.at 30 P.c30; have p2_31 := B3.out.at 31 P.c31; have p2_32 := B3.out.at 32 P.c32; have p2_33 := B3.out.at 33 P.c33; have p2_34 := B3.out.at 34 P.c34; have r2_27 := B3.out.at 27 P.c27; have r2_28 := B3.out.at 28 P.c28; clear hb)
    | (go_at_call 110; refine (rnone_any _ _ _ _ _).mono ?_; rintro e w2 ⟨rfl, hb⟩; have B2 : Hid (Bl w w2 w.heap.size P.cs) := (by first | exact B1.out.still hb | exact (B1.out.still (balloc (Below.refl _ _))).still hb | exact ((B1.out.still (balloc (Below.refl _ _))).still (balloc (Below.refl _ _))).still hb); have p1_23 := B2.out.at 23 P.c23; have p1_24 := B2.out.at 24 P.c24; have p1_25 := B2.out.at 25 P.c25; have p1_26 := B2.out.at 26 P.c26; have p1_27 := B2.out.at 27 P.c27; have p1_28 := B2.out.at 28 P.c28; have ff := fun i => spill hb i; clear hb)
    | (go_at_call 110; refine (rnone_any _ _ _ _ _).mono ?_; rintro e w1 ⟨rfl, hb⟩; have B1 : Hid (Bl w w1 w.heap.size P.cs) := (by first | exact B0.out.still hb | exact (B0.out.still (balloc (Below.refl _ _))).still hb | exact ((B0.out.still (balloc (Below.refl _ _))).still (balloc (Below.refl _ _))).still hb); have p0_16 := B1.out.at 16 P.c16; have p0_17 := B1.out.at 17 P.c17; have p0_18 := B1.out.at 18 P.c18; have p0_19 := B1.out.at 19 P.c19; have p0_20 := B1.out.at 20 P.c20; have p0_21 := B1.out.at 21 P.c21; have p0_22 := B1.out.at 22 P.c22; clear hb)
    | fail)
  all_goals go_ret
  all_goals refine ⟨?_, by first | exact B5.out.b | exact balloc B5.out.b | exact balloc (balloc B5.out.b) | exact B4.out.b | exact balloc B4.out.b | exact balloc (balloc B4.out.b) | exact B3.out.b | exact balloc B3.out.b | exact balloc (balloc B3.out.b) | exact B2.out.b | exact balloc B2.out.b | exact balloc (balloc B2.out.b) | exact B1.out.b | exact balloc B1.out.b | exact balloc (balloc B1.out.b) | exact B0.out.b | exact balloc B0.out.b | exact balloc (balloc B0.out.b)⟩
  all_goals rw [← HR.out]
  all_goals (clear HR B0 c0 d5 d6 d7 d8 d9 d10 d11 d12 d13 d14 d15 e16 e17 e18 e19 e20 e21 e22)
  all_goals simp_all [othersB, beatZ, proposeZ, flushZ, stableZ, frameZ, ackZ, forwardZ]
  all_goals (intros; omega)

end Go.Proofs.Ytbjpbcanmpimnab.Lo
