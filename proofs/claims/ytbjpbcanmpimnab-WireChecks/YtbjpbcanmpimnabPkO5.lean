import Derived.Test.YtbjpbcanmpimnabPk4
namespace Go.Proofs.Ytbjpbcanmpimnab.Lo
open Go.RowKit Bk
set_option linter.unusedVariables false
set_option linter.unusedSimpArgs false

set_option maxRecDepth 100000 in
set_option maxHeartbeats 4000000 in
theorem oth_5 (P : Pk) (w : World) (hk : P.k = 5) :
    Calls Try.prog 52 #[.agg P.cs] w fun x w' => x = .returned (.bool (othersB P)) ∧ Below w.heap.size w w' := by
  have B0 : Hid (Bl w (w.alloc (.cells P.cs 72)) w.heap.size P.cs) := Bl.new w _
  have c0 : (w.alloc (.cells P.cs 72)).cell? ⟨w.heap.size, 0, none⟩ = some (.int .i64 5) := B0.out.at 0 (P.c0.trans (by rw [hk]))
  obtain ⟨P29, hP29⟩ : ∃ Q : Pk, Q = { P with te := 0 } := ⟨_, rfl⟩
  have f29 := B0.out.fz 29
  have o29 := B0.out.at 29 P.c29
  obtain ⟨X29, hX29⟩ : ∃ X, (w.alloc (.cells P.cs 72)).setCell ⟨w.heap.size, 29, none⟩ (.int .i64 0) = X := ⟨_, rfl⟩
  have B29 : Hid (Bl w X29 w.heap.size P29.cs) := by rw [← hX29, hP29]; exact B0.out.set 29 _
  obtain ⟨P30, hP30⟩ : ∃ Q : Pk, Q = { P29 with tl := 0 } := ⟨_, rfl⟩
  have f30 := B29.out.fz 30
  have o30 := B29.out.at 30 P29.c30
  obtain ⟨X30, hX30⟩ : ∃ X, X29.setCell ⟨w.heap.size, 30, none⟩ (.int .i64 0) = X := ⟨_, rfl⟩
  have B30 : Hid (Bl w X30 w.heap.size P30.cs) := by rw [← hX30, hP30]; exact B29.out.set 30 _
  obtain ⟨P31, hP31⟩ : ∃ Q : Pk, Q = { P30 with ti := 0 } := ⟨_, rfl⟩
  have f31 := B30.out.fz 31
  have o31 := B30.out.at 31 P30.c31
  obtain ⟨X31, hX31⟩ : ∃ X, X30.setCell ⟨w.heap.size, 31, none⟩ (.int .i64 0) = X := ⟨_, rfl⟩
  have B31 : Hid (Bl w X31 w.heap.size P31.cs) := by rw [← hX31, hP31]; exact B30.out.set 31 _
  obtain ⟨P32, hP32⟩ : ∃ Q : Pk, Q = { P31 with tc := 0 } := ⟨_, rfl⟩
  have f32 := B31.out.fz 32
  have o32 := B31.out.at 32 P31.c32
  obtain ⟨X32, hX32⟩ : ∃ X, X31.setCell ⟨w.heap.size, 32, none⟩ (.int .i64 0) = X := ⟨_, rfl⟩
  have B32 : Hid (Bl w X32 w.heap.size P32.cs) := by rw [← hX32, hP32]; exact B31.out.set 32 _
  obtain ⟨P33, hP33⟩ : ∃ Q : Pk, Q = { P32 with ts := 0 } := ⟨_, rfl⟩
  have f33 := B32.out.fz 33
  have o33 := B32.out.at 33 P32.c33
  obtain ⟨X33, hX33⟩ : ∃ X, X32.setCell ⟨w.heap.size, 33, none⟩ (.int .i64 0) = X := ⟨_, rfl⟩
  have B33 : Hid (Bl w X33 w.heap.size P33.cs) := by rw [← hX33, hP33]; exact B32.out.set 33 _
  obtain ⟨P34, hP34⟩ : ∃ Q : Pk, Q = { P33 with tbA := none, tbN := 0, tbC := 0 } := ⟨_, rfl⟩
  have f34 := B33.out.fz 34
  have o34 := B33.out.at 34 P33.c34
  obtain ⟨X34, hX34⟩ : ∃ X, X33.setCell ⟨w.heap.size, 34, none⟩ (.slice none 0 0) = X := ⟨_, rfl⟩
  have B34 : Hid (Bl w X34 w.heap.size P34.cs) := by rw [← hX34, hP34]; exact B33.out.set 34 _
  have d5 := B34.out.at 5 P34.c5
  have d6 := B34.out.at 6 P34.c6
  have d7 := B34.out.at 7 P34.c7
  have d8 := B34.out.at 8 P34.c8
  have d9 := B34.out.at 9 P34.c9
  have d10 := B34.out.at 10 P34.c10
  have d11 := B34.out.at 11 P34.c11
  have d12 := B34.out.at 12 P34.c12
  have d13 := B34.out.at 13 P34.c13
  have d14 := B34.out.at 14 P34.c14
  have d15 := B34.out.at 15 P34.c15
  have d16 := B34.out.at 16 P34.c16
  have d17 := B34.out.at 17 P34.c17
  have d18 := B34.out.at 18 P34.c18
  have d19 := B34.out.at 19 P34.c19
  have d20 := B34.out.at 20 P34.c20
  have d21 := B34.out.at 21 P34.c21
  have d22 := B34.out.at 22 P34.c22
  have d23 := B34.out.at 23 P34.c23
  have d24 := B34.out.at 24 P34.c24
  have d25 := B34.out.at 25 P34.c25
  have d26 := B34.out.at 26 P34.c26
  have d27 := B34.out.at 27 P34.c27
  have d28 := B34.out.at 28 P34.c28
  have d29 := B34.out.at 29 P34.c29
  have d30 := B34.out.at 30 P34.c30
  have d31 := B34.out.at 31 P34.c31
  have d32 := B34.out.at 32 P34.c32
  have d33 := B34.out.at 33 P34.c33
  have d34 := B34.out.at 34 P34.c34
  have d35 := B34.out.at 35 P34.c35
  have d36 := B34.out.at 36 P34.c36
  have d37 := B34.out.at 37 P34.c37
  have d38 := B34.out.at 38 P34.c38
  have d39 := B34.out.at 39 P34.c39
  have d40 := B34.out.at 40 P34.c40
  have d41 := B34.out.at 41 P34.c41
  have d42 := B34.out.at 42 P34.c42
  have d43 := B34.out.at 43 P34.c43
  have d44 := B34.out.at 44 P34.c44
  have hB := B34
  clear B0
  go_enter Try.func52, Try.ntmps52
  go_wp2_with (first
    | (go_at_call 85; refine (beatZero_any _ _ _ _ _).mono ?_; rintro e w1 ⟨rfl, hb1⟩; have hB1 : Hid (Bl w w1 w.heap.size P34.cs) := hB.out.still hb1; clear hb1; have aa7 := hB1.out.at 7 P34.c7; have aa8 := hB1.out.at 8 P34.c8; have aa9 := hB1.out.at 9 P34.c9; have aa10 := hB1.out.at 10 P34.c10; have aa11 := hB1.out.at 11 P34.c11; have aa12 := hB1.out.at 12 P34.c12; have aa13 := hB1.out.at 13 P34.c13; have aa14 := hB1.out.at 14 P34.c14; have aa15 := hB1.out.at 15 P34.c15; have aa16 := hB1.out.at 16 P34.c16; have aa17 := hB1.out.at 17 P34.c17; have aa18 := hB1.out.at 18 P34.c18; have aa19 := hB1.out.at 19 P34.c19; have aa20 := hB1.out.at 20 P34.c20; have aa21 := hB1.out.at 21 P34.c21; have aa22 := hB1.out.at 22 P34.c22; have aa23 := hB1.out.at 23 P34.c23; have aa24 := hB1.out.at 24 P34.c24; have aa25 := hB1.out.at 25 P34.c25; have aa26 := hB1.out.at 26 P34.c26; have aa27 := hB1.out.at 27 P34.c27; have aa28 := hB1.out.at 28 P34.c28; have aa29 := hB1.out.at 29 P34.c29; have aa30 := hB1.out.at 30 P34.c30; have aa31 := hB1.out.at 31 P34.c31; have aa32 := hB1.out.at 32 P34.c32; have aa33 := hB1.out.at 33 P34.c33; have aa34 := hB1.out.at 34 P34.c34; have aa35 := hB1.out.at 35 P34.c35; have aa36 := hB1.out.at 36 P34.c36; have aa37 := hB1.out.at 37 P34.c37; have aa38 := hB1.out.at 38 P34.c38; have aa39 := hB1.out.at 39 P34.c39; have aa40 := hB1.out.at 40 P34.c40; have aa41 := hB1.out.at 41 P34.c41; have aa42 := hB1.out.at 42 P34.c42; have aa43 := hB1.out.at 43 P34.c43; have aa44 := hB1.out.at 44 P34.c44)
    | (go_at_call 86; refine (proposeZero_any _ _ _ _ _ _ _ _ _ _ _ _ _ _).mono ?_; rintro e w2 ⟨rfl, hb1⟩; have hB2 : Hid (Bl w w2 w.heap.size P34.cs) := hB1.out.still hb1; clear hb1; have bb16 := hB2.out.at 16 P34.c16; have bb17 := hB2.out.at 17 P34.c17; have bb18 := hB2.out.at 18 P34.c18; have bb19 := hB2.out.at 19 P34.c19; have bb20 := hB2.out.at 20 P34.c20; have bb21 := hB2.out.at 21 P34.c21; have bb22 := hB2.out.at 22 P34.c22; have bb23 := hB2.out.at 23 P34.c23; have bb24 := hB2.out.at 24 P34.c24; have bb25 := hB2.out.at 25 P34.c25; have bb26 := hB2.out.at 26 P34.c26; have bb27 := hB2.out.at 27 P34.c27; have bb28 := hB2.out.at 28 P34.c28; have bb29 := hB2.out.at 29 P34.c29; have bb30 := hB2.out.at 30 P34.c30; have bb31 := hB2.out.at 31 P34.c31; have bb32 := hB2.out.at 32 P34.c32; have bb33 := hB2.out.at 33 P34.c33; have bb34 := hB2.out.at 34 P34.c34; have bb35 := hB2.out.at 35 P34.c35; have bb36 := hB2.out.at 36 P34.c36; have bb37 := hB2.out.at 37 P34.c37; have bb38 := hB2.out.at 38 P34.c38; have bb39 := hB2.out.at 39 P34.c39; have bb40 := hB2.out.at 40 P34.c40; have bb41 := hB2.out.at 41 P34.c41; have bb42 := hB2.out.at 42 P34.c42; have bb43 := hB2.out.at 43 P34.c43; have bb44 := hB2.out.at 44 P34.c44)
    | (go_at_call 87; refine (flushZero_any _ _ _ _ _ _ _ _ _ _ _ _).mono ?_; rintro e w3 ⟨rfl, hb1⟩; have hB3 : Hid (Bl w w3 w.heap.size P34.cs) := hB2.out.still hb1; clear hb1; have cc23 := hB3.out.at 23 P34.c23; have cc24 := hB3.out.at 24 P34.c24; have cc25 := hB3.out.at 25 P34.c25; have cc26 := hB3.out.at 26 P34.c26; have cc27 := hB3.out.at 27 P34.c27; have cc28 := hB3.out.at 28 P34.c28; have cc29 := hB3.out.at 29 P34.c29; have cc30 := hB3.out.at 30 P34.c30; have cc31 := hB3.out.at 31 P34.c31; have cc32 := hB3.out.at 32 P34.c32; have cc33 := hB3.out.at 33 P34.c33; have cc34 := hB3.out.at 34 P34.c34; have cc35 := hB3.out.at 35 P34.c35; have cc36 := hB3.out.at 36 P34.c36; have cc37 := hB3.out.at 37 P34.c37; have cc38 := hB3.out.at 38 P34.c38; have cc39 := hB3.out.at 39 P34.c39; have cc40 := hB3.out.at 40 P34.c40; have cc41 := hB3.out.at 41 P34.c41; have cc42 := hB3.out.at 42 P34.c42; have cc43 := hB3.out.at 43 P34.c43; have cc44 := hB3.out.at 44 P34.c44)
    | (go_at_call 88; refine (frameZero_any _ _ _ _ _ _ _ _ _).mono ?_; rintro e w4 ⟨rfl, hb1⟩; have hB5 : Hid (Bl w w4 w.heap.size P34.cs) := hB3.out.still hb1; clear hb1; have dd35 := hB5.out.at 35 P34.c35; have dd36 := hB5.out.at 36 P34.c36; have dd37 := hB5.out.at 37 P34.c37; have dd38 := hB5.out.at 38 P34.c38; have dd39 := hB5.out.at 39 P34.c39; have dd40 := hB5.out.at 40 P34.c40; have dd41 := hB5.out.at 41 P34.c41; have dd42 := hB5.out.at 42 P34.c42; have dd43 := hB5.out.at 43 P34.c43; have dd44 := hB5.out.at 44 P34.c44)
    | (go_at_call 89; refine (forwardZero_any _ _ _ _ _ _ _ _).mono ?_; rintro e w5 ⟨rfl, hb1⟩; have hB7 : Hid (Bl w w5 w.heap.size P34.cs) := hB5.out.still hb1; clear hb1)
    | fail)
  all_goals go_ret
  all_goals refine ⟨?_, ?_⟩
  all_goals first
    | exact Bl.b (Hid.out (by assumption))
    | (clear hB; simp_all [othersB, ackZ, stableZ, noneB])

end Go.Proofs.Ytbjpbcanmpimnab.Lo
