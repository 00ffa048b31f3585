import Derived.Test.YtbjpbcanmpimnabPk4
namespace Go.Proofs.Ytbjpbcanmpimnab.Lo
open Go.RowKit Bk
set_option linter.unusedVariables false
set_option linter.unusedSimpArgs false

set_option maxRecDepth 100000 in
set_option maxHeartbeats 4000000 in
theorem oth_3 (P : Pk) (w : World) (hk : P.k = 3) :
    Calls Try.prog 52 #[.agg P.cs] w fun x w' => x = .returned (.bool (othersB P)) ∧ Below w.heap.size w w' := by
  have B0 : Hid (Bl w (w.alloc (.cells P.cs 72)) w.heap.size P.cs) := Bl.new w _
  have c0 : (w.alloc (.cells P.cs 72)).cell? ⟨w.heap.size, 0, none⟩ = some (.int .i64 3) := B0.out.at 0 (P.c0.trans (by rw [hk]))
  obtain ⟨P16, hP16⟩ : ∃ Q : Pk, Q = { P with fe := 0 } := ⟨_, rfl⟩
  have f16 := B0.out.fz 16
  have o16 := B0.out.at 16 P.c16
  obtain ⟨X16, hX16⟩ : ∃ X, (w.alloc (.cells P.cs 72)).setCell ⟨w.heap.size, 16, none⟩ (.int .i64 0) = X := ⟨_, rfl⟩
  have B16 : Hid (Bl w X16 w.heap.size P16.cs) := by rw [← hX16, hP16]; exact B0.out.set 16 _
  obtain ⟨P17, hP17⟩ : ∃ Q : Pk, Q = { P16 with fl := 0 } := ⟨_, rfl⟩
  have f17 := B16.out.fz 17
  have o17 := B16.out.at 17 P16.c17
  obtain ⟨X17, hX17⟩ : ∃ X, X16.setCell ⟨w.heap.size, 17, none⟩ (.int .i64 0) = X := ⟨_, rfl⟩
  have B17 : Hid (Bl w X17 w.heap.size P17.cs) := by rw [← hX17, hP17]; exact B16.out.set 17 _
  obtain ⟨P18, hP18⟩ : ∃ Q : Pk, Q = { P17 with fi := 0 } := ⟨_, rfl⟩
  have f18 := B17.out.fz 18
  have o18 := B17.out.at 18 P17.c18
  obtain ⟨X18, hX18⟩ : ∃ X, X17.setCell ⟨w.heap.size, 18, none⟩ (.int .i64 0) = X := ⟨_, rfl⟩
  have B18 : Hid (Bl w X18 w.heap.size P18.cs) := by rw [← hX18, hP18]; exact B17.out.set 18 _
  obtain ⟨P19, hP19⟩ : ∃ Q : Pk, Q = { P18 with fc := 0 } := ⟨_, rfl⟩
  have f19 := B18.out.fz 19
  have o19 := B18.out.at 19 P18.c19
  obtain ⟨X19, hX19⟩ : ∃ X, X18.setCell ⟨w.heap.size, 19, none⟩ (.int .i64 0) = X := ⟨_, rfl⟩
  have B19 : Hid (Bl w X19 w.heap.size P19.cs) := by rw [← hX19, hP19]; exact B18.out.set 19 _
  obtain ⟨P20, hP20⟩ : ∃ Q : Pk, Q = { P19 with fb := 0 } := ⟨_, rfl⟩
  have f20 := B19.out.fz 20
  have o20 := B19.out.at 20 P19.c20
  obtain ⟨X20, hX20⟩ : ∃ X, X19.setCell ⟨w.heap.size, 20, none⟩ (.int .i64 0) = X := ⟨_, rfl⟩
  have B20 : Hid (Bl w X20 w.heap.size P20.cs) := by rw [← hX20, hP20]; exact B19.out.set 20 _
  obtain ⟨P21, hP21⟩ : ∃ Q : Pk, Q = { P20 with fsA := none, fsN := 0, fsC := 0 } := ⟨_, rfl⟩
  have f21 := B20.out.fz 21
  have o21 := B20.out.at 21 P20.c21
  obtain ⟨X21, hX21⟩ : ∃ X, X20.setCell ⟨w.heap.size, 21, none⟩ (.slice none 0 0) = X := ⟨_, rfl⟩
  have B21 : Hid (Bl w X21 w.heap.size P21.cs) := by rw [← hX21, hP21]; exact B20.out.set 21 _
  obtain ⟨P22, hP22⟩ : ∃ Q : Pk, Q = { P21 with fhA := none, fhN := 0, fhC := 0 } := ⟨_, rfl⟩
  have f22 := B21.out.fz 22
  have o22 := B21.out.at 22 P21.c22
  obtain ⟨X22, hX22⟩ : ∃ X, X21.setCell ⟨w.heap.size, 22, none⟩ (.slice none 0 0) = X := ⟨_, rfl⟩
  have B22 : Hid (Bl w X22 w.heap.size P22.cs) := by rw [← hX22, hP22]; exact B21.out.set 22 _
  have d5 := B22.out.at 5 P22.c5
  have d6 := B22.out.at 6 P22.c6
  have d7 := B22.out.at 7 P22.c7
  have d8 := B22.out.at 8 P22.c8
  have d9 := B22.out.at 9 P22.c9
  have d10 := B22.out.at 10 P22.c10
  have d11 := B22.out.at 11 P22.c11
  have d12 := B22.out.at 12 P22.c12
  have d13 := B22.out.at 13 P22.c13
  have d14 := B22.out.at 14 P22.c14
  have d15 := B22.out.at 15 P22.c15
  have d16 := B22.out.at 16 P22.c16
  have d17 := B22.out.at 17 P22.c17
  have d18 := B22.out.at 18 P22.c18
  have d19 := B22.out.at 19 P22.c19
  have d20 := B22.out.at 20 P22.c20
  have d21 := B22.out.at 21 P22.c21
  have d22 := B22.out.at 22 P22.c22
  have d23 := B22.out.at 23 P22.c23
  have d24 := B22.out.at 24 P22.c24
  have d25 := B22.out.at 25 P22.c25
  have d26 := B22.out.at 26 P22.c26
  have d27 := B22.out.at 27 P22.c27
  have d28 := B22.out.at 28 P22.c28
  have d29 := B22.out.at 29 P22.c29
  have d30 := B22.out.at 30 P22.c30
  have d31 := B22.out.at 31 P22.c31
  have d32 := B22.out.at 32 P22.c32
  have d33 := B22.out.at 33 P22.c33
  have d34 := B22.out.at 34 P22.c34
  have d35 := B22.out.at 35 P22.c35
  have d36 := B22.out.at 36 P22.c36
  have d37 := B22.out.at 37 P22.c37
  have d38 := B22.out.at 38 P22.c38
  have d39 := B22.out.at 39 P22.c39
  have d40 := B22.out.at 40 P22.c40
  have d41 := B22.out.at 41 P22.c41
  have d42 := B22.out.at 42 P22.c42
  have d43 := B22.out.at 43 P22.c43
  have d44 := B22.out.at 44 P22.c44
  have hB := B22
  clear B0
  go_enter Try.func52, Try.ntmps52
  go_wp2_with (first
    | (go_at_call 85; refine (beatZero_any _ _ _ _ _).mono ?_; rintro e w1 ⟨rfl, hb1⟩; have hB1 : Hid (Bl w w1 w.heap.size P22.cs) := hB.out.still hb1; clear hb1; have aa7 := hB1.out.at 7 P22.c7; have aa8 := hB1.out.at 8 P22.c8; have aa9 := hB1.out.at 9 P22.c9; have aa10 := hB1.out.at 10 P22.c10; have aa11 := hB1.out.at 11 P22.c11; have aa12 := hB1.out.at 12 P22.c12; have aa13 := hB1.out.at 13 P22.c13; have aa14 := hB1.out.at 14 P22.c14; have aa15 := hB1.out.at 15 P22.c15; have aa16 := hB1.out.at 16 P22.c16; have aa17 := hB1.out.at 17 P22.c17; have aa18 := hB1.out.at 18 P22.c18; have aa19 := hB1.out.at 19 P22.c19; have aa20 := hB1.out.at 20 P22.c20; have aa21 := hB1.out.at 21 P22.c21; have aa22 := hB1.out.at 22 P22.c22; have aa23 := hB1.out.at 23 P22.c23; have aa24 := hB1.out.at 24 P22.c24; have aa25 := hB1.out.at 25 P22.c25; have aa26 := hB1.out.at 26 P22.c26; have aa27 := hB1.out.at 27 P22.c27; have aa28 := hB1.out.at 28 P22.c28; have aa29 := hB1.out.at 29 P22.c29; have aa30 := hB1.out.at 30 P22.c30; have aa31 := hB1.out.at 31 P22.c31; have aa32 := hB1.out.at 32 P22.c32; have aa33 := hB1.out.at 33 P22.c33; have aa34 := hB1.out.at 34 P22.c34; have aa35 := hB1.out.at 35 P22.c35; have aa36 := hB1.out.at 36 P22.c36; have aa37 := hB1.out.at 37 P22.c37; have aa38 := hB1.out.at 38 P22.c38; have aa39 := hB1.out.at 39 P22.c39; have aa40 := hB1.out.at 40 P22.c40; have aa41 := hB1.out.at 41 P22.c41; have aa42 := hB1.out.at 42 P22.c42; have aa43 := hB1.out.at 43 P22.c43; have aa44 := hB1.out.at 44 P22.c44)
    | (go_at_call 86; refine (proposeZero_any _ _ _ _ _ _ _ _ _ _ _ _ _ _).mono ?_; rintro e w2 ⟨rfl, hb1⟩; have hB2 : Hid (Bl w w2 w.heap.size P22.cs) := hB1.out.still hb1; clear hb1; have bb16 := hB2.out.at 16 P22.c16; have bb17 := hB2.out.at 17 P22.c17; have bb18 := hB2.out.at 18 P22.c18; have bb19 := hB2.out.at 19 P22.c19; have bb20 := hB2.out.at 20 P22.c20; have bb21 := hB2.out.at 21 P22.c21; have bb22 := hB2.out.at 22 P22.c22; have bb23 := hB2.out.at 23 P22.c23; have bb24 := hB2.out.at 24 P22.c24; have bb25 := hB2.out.at 25 P22.c25; have bb26 := hB2.out.at 26 P22.c26; have bb27 := hB2.out.at 27 P22.c27; have bb28 := hB2.out.at 28 P22.c28; have bb29 := hB2.out.at 29 P22.c29; have bb30 := hB2.out.at 30 P22.c30; have bb31 := hB2.out.at 31 P22.c31; have bb32 := hB2.out.at 32 P22.c32; have bb33 := hB2.out.at 33 P22.c33; have bb34 := hB2.out.at 34 P22.c34; have bb35 := hB2.out.at 35 P22.c35; have bb36 := hB2.out.at 36 P22.c36; have bb37 := hB2.out.at 37 P22.c37; have bb38 := hB2.out.at 38 P22.c38; have bb39 := hB2.out.at 39 P22.c39; have bb40 := hB2.out.at 40 P22.c40; have bb41 := hB2.out.at 41 P22.c41; have bb42 := hB2.out.at 42 P22.c42; have bb43 := hB2.out.at 43 P22.c43; have bb44 := hB2.out.at 44 P22.c44)
    | (go_at_call 87; refine (flushZero_any _ _ _ _ _ _ _ _ _ _ _ _).mono ?_; rintro e w3 ⟨rfl, hb1⟩; have hB3 : Hid (Bl w w3 w.heap.size P22.cs) := hB2.out.still hb1; clear hb1; have cc23 := hB3.out.at 23 P22.c23; have cc24 := hB3.out.at 24 P22.c24; have cc25 := hB3.out.at 25 P22.c25; have cc26 := hB3.out.at 26 P22.c26; have cc27 := hB3.out.at 27 P22.c27; have cc28 := hB3.out.at 28 P22.c28; have cc29 := hB3.out.at 29 P22.c29; have cc30 := hB3.out.at 30 P22.c30; have cc31 := hB3.out.at 31 P22.c31; have cc32 := hB3.out.at 32 P22.c32; have cc33 := hB3.out.at 33 P22.c33; have cc34 := hB3.out.at 34 P22.c34; have cc35 := hB3.out.at 35 P22.c35; have cc36 := hB3.out.at 36 P22.c36; have cc37 := hB3.out.at 37 P22.c37; have cc38 := hB3.out.at 38 P22.c38; have cc39 := hB3.out.at 39 P22.c39; have cc40 := hB3.out.at 40 P22.c40; have cc41 := hB3.out.at 41 P22.c41; have cc42 := hB3.out.at 42 P22.c42; have cc43 := hB3.out.at 43 P22.c43; have cc44 := hB3.out.at 44 P22.c44)
    | (go_at_call 88; refine (frameZero_any _ _ _ _ _ _ _ _ _).mono ?_; rintro e w4 ⟨rfl, hb1⟩; have hB5 : Hid (Bl w w4 w.heap.size P22.cs) := hB3.out.still hb1; clear hb1; have dd35 := hB5.out.at 35 P22.c35; have dd36 := hB5.out.at 36 P22.c36; have dd37 := hB5.out.at 37 P22.c37; have dd38 := hB5.out.at 38 P22.c38; have dd39 := hB5.out.at 39 P22.c39; have dd40 := hB5.out.at 40 P22.c40; have dd41 := hB5.out.at 41 P22.c41; have dd42 := hB5.out.at 42 P22.c42; have dd43 := hB5.out.at 43 P22.c43; have dd44 := hB5.out.at 44 P22.c44)
    | (go_at_call 89; refine (forwardZero_any _ _ _ _ _ _ _ _).mono ?_; rintro e w5 ⟨rfl, hb1⟩; have hB7 : Hid (Bl w w5 w.heap.size P22.cs) := hB5.out.still hb1; clear hb1)
    | fail)
  all_goals go_ret
  all_goals refine ⟨?_, ?_⟩
  all_goals first
    | exact Bl.b (Hid.out (by assumption))
    | (clear hB; simp_all [othersB, ackZ, stableZ, noneB])

end Go.Proofs.Ytbjpbcanmpimnab.Lo
