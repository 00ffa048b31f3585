import Derived.Test.YtbjpbcanmpimnabPk4
namespace Go.Proofs.Ytbjpbcanmpimnab.Lo
open Go.RowKit Bk
set_option linter.unusedVariables false
set_option linter.unusedSimpArgs false

set_option maxRecDepth 100000 in
set_option maxHeartbeats 4000000 in
theorem oth_6 (P : Pk) (w : World) (hk : P.k = 6) :
    Calls Try.prog 52 #[.agg P.cs] w fun x w' => x = .returned (.bool (othersB P)) ∧ Below w.heap.size w w' := by
  have B0 : Hid (Bl w (w.alloc (.cells P.cs 72)) w.heap.size P.cs) := Bl.new w _
  have c0 : (w.alloc (.cells P.cs 72)).cell? ⟨w.heap.size, 0, none⟩ = some (.int .i64 6) := B0.out.at 0 (P.c0.trans (by rw [hk]))
  obtain ⟨P35, hP35⟩ : ∃ Q : Pk, Q = { P with ae := 0 } := ⟨_, rfl⟩
  have f35 := B0.out.fz 35
  have o35 := B0.out.at 35 P.c35
  obtain ⟨X35, hX35⟩ : ∃ X, (w.alloc (.cells P.cs 72)).setCell ⟨w.heap.size, 35, none⟩ (.int .i64 0) = X := ⟨_, rfl⟩
  have B35 : Hid (Bl w X35 w.heap.size P35.cs) := by rw [← hX35, hP35]; exact B0.out.set 35 _
  obtain ⟨P36, hP36⟩ : ∃ Q : Pk, Q = { P35 with al := 0 } := ⟨_, rfl⟩
  have f36 := B35.out.fz 36
  have o36 := B35.out.at 36 P35.c36
  obtain ⟨X36, hX36⟩ : ∃ X, X35.setCell ⟨w.heap.size, 36, none⟩ (.int .i64 0) = X := ⟨_, rfl⟩
  have B36 : Hid (Bl w X36 w.heap.size P36.cs) := by rw [← hX36, hP36]; exact B35.out.set 36 _
  obtain ⟨P37, hP37⟩ : ∃ Q : Pk, Q = { P36 with ai := 0 } := ⟨_, rfl⟩
  have f37 := B36.out.fz 37
  have o37 := B36.out.at 37 P36.c37
  obtain ⟨X37, hX37⟩ : ∃ X, X36.setCell ⟨w.heap.size, 37, none⟩ (.int .i64 0) = X := ⟨_, rfl⟩
  have B37 : Hid (Bl w X37 w.heap.size P37.cs) := by rw [← hX37, hP37]; exact B36.out.set 37 _
  obtain ⟨P38, hP38⟩ : ∃ Q : Pk, Q = { P37 with ac := 0 } := ⟨_, rfl⟩
  have f38 := B37.out.fz 38
  have o38 := B37.out.at 38 P37.c38
  obtain ⟨X38, hX38⟩ : ∃ X, X37.setCell ⟨w.heap.size, 38, none⟩ (.int .i64 0) = X := ⟨_, rfl⟩
  have B38 : Hid (Bl w X38 w.heap.size P38.cs) := by rw [← hX38, hP38]; exact B37.out.set 38 _
  obtain ⟨P39, hP39⟩ : ∃ Q : Pk, Q = { P38 with au := 0 } := ⟨_, rfl⟩
  have f39 := B38.out.fz 39
  have o39 := B38.out.at 39 P38.c39
  obtain ⟨X39, hX39⟩ : ∃ X, X38.setCell ⟨w.heap.size, 39, none⟩ (.int .i64 0) = X := ⟨_, rfl⟩
  have B39 : Hid (Bl w X39 w.heap.size P39.cs) := by rw [← hX39, hP39]; exact B38.out.set 39 _
  have d5 := B39.out.at 5 P39.c5
  have d6 := B39.out.at 6 P39.c6
  have d7 := B39.out.at 7 P39.c7
  have d8 := B39.out.at 8 P39.c8
  have d9 := B39.out.at 9 P39.c9
  have d10 := B39.out.at 10 P39.c10
  have d11 := B39.out.at 11 P39.c11
  have d12 := B39.out.at 12 P39.c12
  have d13 := B39.out.at 13 P39.c13
  have d14 := B39.out.at 14 P39.c14
  have d15 := B39.out.at 15 P39.c15
  have d16 := B39.out.at 16 P39.c16
  have d17 := B39.out.at 17 P39.c17
  have d18 := B39.out.at 18 P39.c18
  have d19 := B39.out.at 19 P39.c19
  have d20 := B39.out.at 20 P39.c20
  have d21 := B39.out.at 21 P39.c21
  have d22 := B39.out.at 22 P39.c22
  have d23 := B39.out.at 23 P39.c23
  have d24 := B39.out.at 24 P39.c24
  have d25 := B39.out.at 25 P39.c25
  have d26 := B39.out.at 26 P39.c26
  have d27 := B39.out.at 27 P39.c27
  have d28 := B39.out.at 28 P39.c28
  have d29 := B39.out.at 29 P39.c29
  have d30 := B39.out.at 30 P39.c30
  have d31 := B39.out.at 31 P39.c31
  have d32 := B39.out.at 32 P39.c32
  have d33 := B39.out.at 33 P39.c33
  have d34 := B39.out.at 34 P39.c34
  have d35 := B39.out.at 35 P39.c35
  have d36 := B39.out.at 36 P39.c36
  have d37 := B39.out.at 37 P39.c37
  have d38 := B39.out.at 38 P39.c38
  have d39 := B39.out.at 39 P39.c39
  have d40 := B39.out.at 40 P39.c40
  have d41 := B39.out.at 41 P39.c41
  have d42 := B39.out.at 42 P39.c42
  have d43 := B39.out.at 43 P39.c43
  have d44 := B39.out.at 44 P39.c44
  have hB := B39
  clear B0
  go_enter Try.func52, Try.ntmps52
  go_wp2_with (first
    | (go_at_call 85; refine (beatZero_any _ _ _ _ _).mono ?_; rintro e w1 ⟨rfl, hb1⟩; have hB1 : Hid (Bl w w1 w.heap.size P39.cs) := hB.out.still hb1; clear hb1; have aa7 := hB1.out.at 7 P39.c7; have aa8 := hB1.out.at 8 P39.c8; have aa9 := hB1.out.at 9 P39.c9; have aa10 := hB1.out.at 10 P39.c10; have aa11 := hB1.out.at 11 P39.c11; have aa12 := hB1.out.at 12 P39.c12; have aa13 := hB1.out.at 13 P39.c13; have aa14 := hB1.out.at 14 P39.c14; have aa15 := hB1.out.at 15 P39.c15; have aa16 := hB1.out.at 16 P39.c16; have aa17 := hB1.out.at 17 P39.c17; have aa18 := hB1.out.at 18 P39.c18; have aa19 := hB1.out.at 19 P39.c19; have aa20 := hB1.out.at 20 P39.c20; have aa21 := hB1.out.at 21 P39.c21; have aa22 := hB1.out.at 22 P39.c22; have aa23 := hB1.out.at 23 P39.c23; have aa24 := hB1.out.at 24 P39.c24; have aa25 := hB1.out.at 25 P39.c25; have aa26 := hB1.out.at 26 P39.c26; have aa27 := hB1.out.at 27 P39.c27; have aa28 := hB1.out.at 28 P39.c28; have aa29 := hB1.out.at 29 P39.c29; have aa30 := hB1.out.at 30 P39.c30; have aa31 := hB1.out.at 31 P39.c31; have aa32 := hB1.out.at 32 P39.c32; have aa33 := hB1.out.at 33 P39.c33; have aa34 := hB1.out.at 34 P39.c34; have aa35 := hB1.out.at 35 P39.c35; have aa36 := hB1.out.at 36 P39.c36; have aa37 := hB1.out.at 37 P39.c37; have aa38 := hB1.out.at 38 P39.c38; have aa39 := hB1.out.at 39 P39.c39; have aa40 := hB1.out.at 40 P39.c40; have aa41 := hB1.out.at 41 P39.c41; have aa42 := hB1.out.at 42 P39.c42; have aa43 := hB1.out.at 43 P39.c43; have aa44 := hB1.out.at 44 P39.c44)
    | (go_at_call 86; refine (proposeZero_any _ _ _ _ _ _ _ _ _ _ _ _ _ _).mono ?_; rintro e w2 ⟨rfl, hb1⟩; have hB2 : Hid (Bl w w2 w.heap.size P39.cs) := hB1.out.still hb1; clear hb1; have bb16 := hB2.out.at 16 P39.c16; have bb17 := hB2.out.at 17 P39.c17; have bb18 := hB2.out.at 18 P39.c18; have bb19 := hB2.out.at 19 P39.c19; have bb20 := hB2.out.at 20 P39.c20; have bb21 := hB2.out.at 21 P39.c21; have bb22 := hB2.out.at 22 P39.c22; have bb23 := hB2.out.at 23 P39.c23; have bb24 := hB2.out.at 24 P39.c24; have bb25 := hB2.out.at 25 P39.c25; have bb26 := hB2.out.at 26 P39.c26; have bb27 := hB2.out.at 27 P39.c27; have bb28 := hB2.out.at 28 P39.c28; have bb29 := hB2.out.at 29 P39.c29; have bb30 := hB2.out.at 30 P39.c30; have bb31 := hB2.out.at 31 P39.c31; have bb32 := hB2.out.at 32 P39.c32; have bb33 := hB2.out.at 33 P39.c33; have bb34 := hB2.out.at 34 P39.c34; have bb35 := hB2.out.at 35 P39.c35; have bb36 := hB2.out.at 36 P39.c36; have bb37 := hB2.out.at 37 P39.c37; have bb38 := hB2.out.at 38 P39.c38; have bb39 := hB2.out.at 39 P39.c39; have bb40 := hB2.out.at 40 P39.c40; have bb41 := hB2.out.at 41 P39.c41; have bb42 := hB2.out.at 42 P39.c42; have bb43 := hB2.out.at 43 P39.c43; have bb44 := hB2.out.at 44 P39.c44)
    | (go_at_call 87; refine (flushZero_any _ _ _ _ _ _ _ _ _ _ _ _).mono ?_; rintro e w3 ⟨rfl, hb1⟩; have hB3 : Hid (Bl w w3 w.heap.size P39.cs) := hB2.out.still hb1; clear hb1; have cc23 := hB3.out.at 23 P39.c23; have cc24 := hB3.out.at 24 P39.c24; have cc25 := hB3.out.at 25 P39.c25; have cc26 := hB3.out.at 26 P39.c26; have cc27 := hB3.out.at 27 P39.c27; have cc28 := hB3.out.at 28 P39.c28; have cc29 := hB3.out.at 29 P39.c29; have cc30 := hB3.out.at 30 P39.c30; have cc31 := hB3.out.at 31 P39.c31; have cc32 := hB3.out.at 32 P39.c32; have cc33 := hB3.out.at 33 P39.c33; have cc34 := hB3.out.at 34 P39.c34; have cc35 := hB3.out.at 35 P39.c35; have cc36 := hB3.out.at 36 P39.c36; have cc37 := hB3.out.at 37 P39.c37; have cc38 := hB3.out.at 38 P39.c38; have cc39 := hB3.out.at 39 P39.c39; have cc40 := hB3.out.at 40 P39.c40; have cc41 := hB3.out.at 41 P39.c41; have cc42 := hB3.out.at 42 P39.c42; have cc43 := hB3.out.at 43 P39.c43; have cc44 := hB3.out.at 44 P39.c44)
    | (go_at_call 88; refine (frameZero_any _ _ _ _ _ _ _ _ _).mono ?_; rintro e w4 ⟨rfl, hb1⟩; have hB5 : Hid (Bl w w4 w.heap.size P39.cs) := hB3.out.still hb1; clear hb1; have dd35 := hB5.out.at 35 P39.c35; have dd36 := hB5.out.at 36 P39.c36; have dd37 := hB5.out.at 37 P39.c37; have dd38 := hB5.out.at 38 P39.c38; have dd39 := hB5.out.at 39 P39.c39; have dd40 := hB5.out.at 40 P39.c40; have dd41 := hB5.out.at 41 P39.c41; have dd42 := hB5.out.at 42 P39.c42; have dd43 := hB5.out.at 43 P39.c43; have dd44 := hB5.out.at 44 P39.c44)
    | (go_at_call 89; refine (forwardZero_any _ _ _ _ _ _ _ _).mono ?_; rintro e w5 ⟨rfl, hb1⟩; have hB7 : Hid (Bl w w5 w.heap.size P39.cs) := hB5.out.still hb1; clear hb1)
    | fail)
  all_goals go_ret
  all_goals refine ⟨?_, ?_⟩
  all_goals first
    | exact Bl.b (Hid.out (by assumption))
    | (clear hB; simp_all [othersB, ackZ, stableZ, noneB])

end Go.Proofs.Ytbjpbcanmpimnab.Lo
