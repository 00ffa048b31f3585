import Derived.Test.YtbjpbcanmpimnabPk4
namespace Go.Proofs.Ytbjpbcanmpimnab.Lo
open Go.RowKit Bk
set_option linter.unusedVariables false
set_option linter.unusedSimpArgs false

set_option maxRecDepth 100000 in
set_option maxHeartbeats 4000000 in
theorem oth_2 (P : Pk) (w : World) (hk : P.k = 2) :
    Calls Try.prog 52 #[.agg P.cs] w fun x w' => x = .returned (.bool (othersB P)) ∧ Below w.heap.size w w' := by
  have B0 : Hid (Bl w (w.alloc (.cells P.cs 72)) w.heap.size P.cs) := Bl.new w _
  have c0 : (w.alloc (.cells P.cs 72)).cell? ⟨w.heap.size, 0, none⟩ = some (.int .i64 2) := B0.out.at 0 (P.c0.trans (by rw [hk]))
  obtain ⟨P7, hP7⟩ : ∃ Q : Pk, Q = { P with psA := none, psN := 0, psC := 0 } := ⟨_, rfl⟩
  have f7 := B0.out.fz 7
  have o7 := B0.out.at 7 P.c7
  obtain ⟨X7, hX7⟩ : ∃ X, (w.alloc (.cells P.cs 72)).setCell ⟨w.heap.size, 7, none⟩ (.slice none 0 0) = X := ⟨_, rfl⟩
  have B7 : Hid (Bl w X7 w.heap.size P7.cs) := by rw [← hX7, hP7]; exact B0.out.set 7 _
  obtain ⟨P8, hP8⟩ : ∃ Q : Pk, Q = { P7 with pd := 0 } := ⟨_, rfl⟩
  have f8 := B7.out.fz 8
  have o8 := B7.out.at 8 P7.c8
  obtain ⟨X8, hX8⟩ : ∃ X, X7.setCell ⟨w.heap.size, 8, none⟩ (.int .i64 0) = X := ⟨_, rfl⟩
  have B8 : Hid (Bl w X8 w.heap.size P8.cs) := by rw [← hX8, hP8]; exact B7.out.set 8 _
  obtain ⟨P9, hP9⟩ : ∃ Q : Pk, Q = { P8 with pr := 0 } := ⟨_, rfl⟩
  have f9 := B8.out.fz 9
  have o9 := B8.out.at 9 P8.c9
  obtain ⟨X9, hX9⟩ : ∃ X, X8.setCell ⟨w.heap.size, 9, none⟩ (.int .i64 0) = X := ⟨_, rfl⟩
  have B9 : Hid (Bl w X9 w.heap.size P9.cs) := by rw [← hX9, hP9]; exact B8.out.set 9 _
  obtain ⟨P10, hP10⟩ : ∃ Q : Pk, Q = { P9 with pt := 0 } := ⟨_, rfl⟩
  have f10 := B9.out.fz 10
  have o10 := B9.out.at 10 P9.c10
  obtain ⟨X10, hX10⟩ : ∃ X, X9.setCell ⟨w.heap.size, 10, none⟩ (.int .i64 0) = X := ⟨_, rfl⟩
  have B10 : Hid (Bl w X10 w.heap.size P10.cs) := by rw [← hX10, hP10]; exact B9.out.set 10 _
  obtain ⟨P11, hP11⟩ : ∃ Q : Pk, Q = { P10 with pe := 0 } := ⟨_, rfl⟩
  have f11 := B10.out.fz 11
  have o11 := B10.out.at 11 P10.c11
  obtain ⟨X11, hX11⟩ : ∃ X, X10.setCell ⟨w.heap.size, 11, none⟩ (.int .i64 0) = X := ⟨_, rfl⟩
  have B11 : Hid (Bl w X11 w.heap.size P11.cs) := by rw [← hX11, hP11]; exact B10.out.set 11 _
  obtain ⟨P12, hP12⟩ : ∃ Q : Pk, Q = { P11 with pl := 0 } := ⟨_, rfl⟩
  have f12 := B11.out.fz 12
  have o12 := B11.out.at 12 P11.c12
  obtain ⟨X12, hX12⟩ : ∃ X, X11.setCell ⟨w.heap.size, 12, none⟩ (.int .i64 0) = X := ⟨_, rfl⟩
  have B12 : Hid (Bl w X12 w.heap.size P12.cs) := by rw [← hX12, hP12]; exact B11.out.set 12 _
  obtain ⟨P13, hP13⟩ : ∃ Q : Pk, Q = { P12 with pi := 0 } := ⟨_, rfl⟩
  have f13 := B12.out.fz 13
  have o13 := B12.out.at 13 P12.c13
  obtain ⟨X13, hX13⟩ : ∃ X, X12.setCell ⟨w.heap.size, 13, none⟩ (.int .i64 0) = X := ⟨_, rfl⟩
  have B13 : Hid (Bl w X13 w.heap.size P13.cs) := by rw [← hX13, hP13]; exact B12.out.set 13 _
  obtain ⟨P14, hP14⟩ : ∃ Q : Pk, Q = { P13 with pc := 0 } := ⟨_, rfl⟩
  have f14 := B13.out.fz 14
  have o14 := B13.out.at 14 P13.c14
  obtain ⟨X14, hX14⟩ : ∃ X, X13.setCell ⟨w.heap.size, 14, none⟩ (.int .i64 0) = X := ⟨_, rfl⟩
  have B14 : Hid (Bl w X14 w.heap.size P14.cs) := by rw [← hX14, hP14]; exact B13.out.set 14 _
  obtain ⟨P15, hP15⟩ : ∃ Q : Pk, Q = { P14 with pvA := none, pvN := 0, pvC := 0 } := ⟨_, rfl⟩
  have f15 := B14.out.fz 15
  have o15 := B14.out.at 15 P14.c15
  obtain ⟨X15, hX15⟩ : ∃ X, X14.setCell ⟨w.heap.size, 15, none⟩ (.slice none 0 0) = X := ⟨_, rfl⟩
  have B15 : Hid (Bl w X15 w.heap.size P15.cs) := by rw [← hX15, hP15]; exact B14.out.set 15 _
  have d5 := B15.out.at 5 P15.c5
  have d6 := B15.out.at 6 P15.c6
  have d7 := B15.out.at 7 P15.c7
  have d8 := B15.out.at 8 P15.c8
  have d9 := B15.out.at 9 P15.c9
  have d10 := B15.out.at 10 P15.c10
  have d11 := B15.out.at 11 P15.c11
  have d12 := B15.out.at 12 P15.c12
  have d13 := B15.out.at 13 P15.c13
  have d14 := B15.out.at 14 P15.c14
  have d15 := B15.out.at 15 P15.c15
  have d16 := B15.out.at 16 P15.c16
  have d17 := B15.out.at 17 P15.c17
  have d18 := B15.out.at 18 P15.c18
  have d19 := B15.out.at 19 P15.c19
  have d20 := B15.out.at 20 P15.c20
  have d21 := B15.out.at 21 P15.c21
  have d22 := B15.out.at 22 P15.c22
  have d23 := B15.out.at 23 P15.c23
  have d24 := B15.out.at 24 P15.c24
  have d25 := B15.out.at 25 P15.c25
  have d26 := B15.out.at 26 P15.c26
  have d27 := B15.out.at 27 P15.c27
  have d28 := B15.out.at 28 P15.c28
  have d29 := B15.out.at 29 P15.c29
  have d30 := B15.out.at 30 P15.c30
  have d31 := B15.out.at 31 P15.c31
  have d32 := B15.out.at 32 P15.c32
  have d33 := B15.out.at 33 P15.c33
  have d34 := B15.out.at 34 P15.c34
  have d35 := B15.out.at 35 P15.c35
  have d36 := B15.out.at 36 P15.c36
  have d37 := B15.out.at 37 P15.c37
  have d38 := B15.out.at 38 P15.c38
  have d39 := B15.out.at 39 P15.c39
  have d40 := B15.out.at 40 P15.c40
  have d41 := B15.out.at 41 P15.c41
  have d42 := B15.out.at 42 P15.c42
  have d43 := B15.out.at 43 P15.c43
  have d44 := B15.out.at 44 P15.c44
  have hB := B15
  clear B0
  go_enter Try.func52, Try.ntmps52
  go_wp2_with (first
    | (go_at_call 85; refine (beatZero_any _ _ _ _ _).mono ?_; rintro e w1 ⟨rfl, hb1⟩; have hB1 : Hid (Bl w w1 w.heap.size P15.cs) := hB.out.still hb1; clear hb1; have aa7 := hB1.out.at 7 P15.c7; have aa8 := hB1.out.at 8 P15.c8; have aa9 := hB1.out.at 9 P15.c9; have aa10 := hB1.out.at 10 P15.c10; have aa11 := hB1.out.at 11 P15.c11; have aa12 := hB1.out.at 12 P15.c12; have aa13 := hB1.out.at 13 P15.c13; have aa14 := hB1.out.at 14 P15.c14; have aa15 := hB1.out.at 15 P15.c15; have aa16 := hB1.out.at 16 P15.c16; have aa17 := hB1.out.at 17 P15.c17; have aa18 := hB1.out.at 18 P15.c18; have aa19 := hB1.out.at 19 P15.c19; have aa20 := hB1.out.at 20 P15.c20; have aa21 := hB1.out.at 21 P15.c21; have aa22 := hB1.out.at 22 P15.c22; have aa23 := hB1.out.at 23 P15.c23; have aa24 := hB1.out.at 24 P15.c24; have aa25 := hB1.out.at 25 P15.c25; have aa26 := hB1.out.at 26 P15.c26; have aa27 := hB1.out.at 27 P15.c27; have aa28 := hB1.out.at 28 P15.c28; have aa29 := hB1.out.at 29 P15.c29; have aa30 := hB1.out.at 30 P15.c30; have aa31 := hB1.out.at 31 P15.c31; have aa32 := hB1.out.at 32 P15.c32; have aa33 := hB1.out.at 33 P15.c33; have aa34 := hB1.out.at 34 P15.c34; have aa35 := hB1.out.at 35 P15.c35; have aa36 := hB1.out.at 36 P15.c36; have aa37 := hB1.out.at 37 P15.c37; have aa38 := hB1.out.at 38 P15.c38; have aa39 := hB1.out.at 39 P15.c39; have aa40 := hB1.out.at 40 P15.c40; have aa41 := hB1.out.at 41 P15.c41; have aa42 := hB1.out.at 42 P15.c42; have aa43 := hB1.out.at 43 P15.c43; have aa44 := hB1.out.at 44 P15.c44)
    | (go_at_call 86; refine (proposeZero_any _ _ _ _ _ _ _ _ _ _ _ _ _ _).mono ?_; rintro e w2 ⟨rfl, hb1⟩; have hB2 : Hid (Bl w w2 w.heap.size P15.cs) := hB1.out.still hb1; clear hb1; have bb16 := hB2.out.at 16 P15.c16; have bb17 := hB2.out.at 17 P15.c17; have bb18 := hB2.out.at 18 P15.c18; have bb19 := hB2.out.at 19 P15.c19; have bb20 := hB2.out.at 20 P15.c20; have bb21 := hB2.out.at 21 P15.c21; have bb22 := hB2.out.at 22 P15.c22; have bb23 := hB2.out.at 23 P15.c23; have bb24 := hB2.out.at 24 P15.c24; have bb25 := hB2.out.at 25 P15.c25; have bb26 := hB2.out.at 26 P15.c26; have bb27 := hB2.out.at 27 P15.c27; have bb28 := hB2.out.at 28 P15.c28; have bb29 := hB2.out.at 29 P15.c29; have bb30 := hB2.out.at 30 P15.c30; have bb31 := hB2.out.at 31 P15.c31; have bb32 := hB2.out.at 32 P15.c32; have bb33 := hB2.out.at 33 P15.c33; have bb34 := hB2.out.at 34 P15.c34; have bb35 := hB2.out.at 35 P15.c35; have bb36 := hB2.out.at 36 P15.c36; have bb37 := hB2.out.at 37 P15.c37; have bb38 := hB2.out.at 38 P15.c38; have bb39 := hB2.out.at 39 P15.c39; have bb40 := hB2.out.at 40 P15.c40; have bb41 := hB2.out.at 41 P15.c41; have bb42 := hB2.out.at 42 P15.c42; have bb43 := hB2.out.at 43 P15.c43; have bb44 := hB2.out.at 44 P15.c44)
    | (go_at_call 87; refine (flushZero_any _ _ _ _ _ _ _ _ _ _ _ _).mono ?_; rintro e w3 ⟨rfl, hb1⟩; have hB3 : Hid (Bl w w3 w.heap.size P15.cs) := hB2.out.still hb1; clear hb1; have cc23 := hB3.out.at 23 P15.c23; have cc24 := hB3.out.at 24 P15.c24; have cc25 := hB3.out.at 25 P15.c25; have cc26 := hB3.out.at 26 P15.c26; have cc27 := hB3.out.at 27 P15.c27; have cc28 := hB3.out.at 28 P15.c28; have cc29 := hB3.out.at 29 P15.c29; have cc30 := hB3.out.at 30 P15.c30; have cc31 := hB3.out.at 31 P15.c31; have cc32 := hB3.out.at 32 P15.c32; have cc33 := hB3.out.at 33 P15.c33; have cc34 := hB3.out.at 34 P15.c34; have cc35 := hB3.out.at 35 P15.c35; have cc36 := hB3.out.at 36 P15.c36; have cc37 := hB3.out.at 37 P15.c37; have cc38 := hB3.out.at 38 P15.c38; have cc39 := hB3.out.at 39 P15.c39; have cc40 := hB3.out.at 40 P15.c40; have cc41 := hB3.out.at 41 P15.c41; have cc42 := hB3.out.at 42 P15.c42; have cc43 := hB3.out.at 43 P15.c43; have cc44 := hB3.out.at 44 P15.c44)
    | (go_at_call 88; refine (frameZero_any _ _ _ _ _ _ _ _ _).mono ?_; rintro e w4 ⟨rfl, hb1⟩; have hB5 : Hid (Bl w w4 w.heap.size P15.cs) := hB3.out.still hb1; clear hb1; have dd35 := hB5.out.at 35 P15.c35; have dd36 := hB5.out.at 36 P15.c36; have dd37 := hB5.out.at 37 P15.c37; have dd38 := hB5.out.at 38 P15.c38; have dd39 := hB5.out.at 39 P15.c39; have dd40 := hB5.out.at 40 P15.c40; have dd41 := hB5.out.at 41 P15.c41; have dd42 := hB5.out.at 42 P15.c42; have dd43 := hB5.out.at 43 P15.c43; have dd44 := hB5.out.at 44 P15.c44)
    | (go_at_call 89; refine (forwardZero_any _ _ _ _ _ _ _ _).mono ?_; rintro e w5 ⟨rfl, hb1⟩; have hB7 : Hid (Bl w w5 w.heap.size P15.cs) := hB5.out.still hb1; clear hb1)
    | fail)
  all_goals go_ret
  all_goals refine ⟨?_, ?_⟩
  all_goals first
    | exact Bl.b (Hid.out (by assumption))
    | (clear hB; simp_all [othersB, ackZ, stableZ, noneB])

end Go.Proofs.Ytbjpbcanmpimnab.Lo
