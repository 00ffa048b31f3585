import Derived.Test.YtbjpbcanmpimnabPk4
namespace Go.Proofs.Ytbjpbcanmpimnab.Lo
open Go.RowKit Bk
set_option linter.unusedVariables false
set_option linter.unusedSimpArgs false

set_option maxRecDepth 100000 in
set_option maxHeartbeats 4000000 in
theorem oth_4 (P : Pk) (w : World) (hk : P.k = 4) :
    Calls Try.prog 52 #[.agg P.cs] w fun x w' => x = .returned (.bool (othersB P)) ∧ Below w.heap.size w w' := by
  have B0 : Hid (Bl w (w.alloc (.cells P.cs 72)) w.heap.size P.cs) := Bl.new w _
  have c0 : (w.alloc (.cells P.cs 72)).cell? ⟨w.heap.size, 0, none⟩ = some (.int .i64 4) := B0.out.at 0 (P.c0.trans (by rw [hk]))
  obtain ⟨P23, hP23⟩ : ∃ Q : Pk, Q = { P with se := 0 } := ⟨_, rfl⟩
  have f23 := B0.out.fz 23
  have o23 := B0.out.at 23 P.c23
  obtain ⟨X23, hX23⟩ : ∃ X, (w.alloc (.cells P.cs 72)).setCell ⟨w.heap.size, 23, none⟩ (.int .i64 0) = X := ⟨_, rfl⟩
  have B23 : Hid (Bl w X23 w.heap.size P23.cs) := by rw [← hX23, hP23]; exact B0.out.set 23 _
  obtain ⟨P24, hP24⟩ : ∃ Q : Pk, Q = { P23 with sl := 0 } := ⟨_, rfl⟩
  have f24 := B23.out.fz 24
  have o24 := B23.out.at 24 P23.c24
  obtain ⟨X24, hX24⟩ : ∃ X, X23.setCell ⟨w.heap.size, 24, none⟩ (.int .i64 0) = X := ⟨_, rfl⟩
  have B24 : Hid (Bl w X24 w.heap.size P24.cs) := by rw [← hX24, hP24]; exact B23.out.set 24 _
  obtain ⟨P25, hP25⟩ : ∃ Q : Pk, Q = { P24 with si2 := 0 } := ⟨_, rfl⟩
  have f25 := B24.out.fz 25
  have o25 := B24.out.at 25 P24.c25
  obtain ⟨X25, hX25⟩ : ∃ X, X24.setCell ⟨w.heap.size, 25, none⟩ (.int .i64 0) = X := ⟨_, rfl⟩
  have B25 : Hid (Bl w X25 w.heap.size P25.cs) := by rw [← hX25, hP25]; exact B24.out.set 25 _
  obtain ⟨P26, hP26⟩ : ∃ Q : Pk, Q = { P25 with sc := 0 } := ⟨_, rfl⟩
  have f26 := B25.out.fz 26
  have o26 := B25.out.at 26 P25.c26
  obtain ⟨X26, hX26⟩ : ∃ X, X25.setCell ⟨w.heap.size, 26, none⟩ (.int .i64 0) = X := ⟨_, rfl⟩
  have B26 : Hid (Bl w X26 w.heap.size P26.cs) := by rw [← hX26, hP26]; exact B25.out.set 26 _
  obtain ⟨P27, hP27⟩ : ∃ Q : Pk, Q = { P26 with sd := 0 } := ⟨_, rfl⟩
  have f27 := B26.out.fz 27
  have o27 := B26.out.at 27 P26.c27
  obtain ⟨X27, hX27⟩ : ∃ X, X26.setCell ⟨w.heap.size, 27, none⟩ (.int .i64 0) = X := ⟨_, rfl⟩
  have B27 : Hid (Bl w X27 w.heap.size P27.cs) := by rw [← hX27, hP27]; exact B26.out.set 27 _
  obtain ⟨P28, hP28⟩ : ∃ Q : Pk, Q = { P27 with sp := 0 } := ⟨_, rfl⟩
  have f28 := B27.out.fz 28
  have o28 := B27.out.at 28 P27.c28
  obtain ⟨X28, hX28⟩ : ∃ X, X27.setCell ⟨w.heap.size, 28, none⟩ (.int .i64 0) = X := ⟨_, rfl⟩
  have B28 : Hid (Bl w X28 w.heap.size P28.cs) := by rw [← hX28, hP28]; exact B27.out.set 28 _
  have d5 := B28.out.at 5 P28.c5
  have d6 := B28.out.at 6 P28.c6
  have d7 := B28.out.at 7 P28.c7
  have d8 := B28.out.at 8 P28.c8
  have d9 := B28.out.at 9 P28.c9
  have d10 := B28.out.at 10 P28.c10
  have d11 := B28.out.at 11 P28.c11
  have d12 := B28.out.at 12 P28.c12
  have d13 := B28.out.at 13 P28.c13
  have d14 := B28.out.at 14 P28.c14
  have d15 := B28.out.at 15 P28.c15
  have d16 := B28.out.at 16 P28.c16
  have d17 := B28.out.at 17 P28.c17
  have d18 := B28.out.at 18 P28.c18
  have d19 := B28.out.at 19 P28.c19
  have d20 := B28.out.at 20 P28.c20
  have d21 := B28.out.at 21 P28.c21
  have d22 := B28.out.at 22 P28.c22
  have d23 := B28.out.at 23 P28.c23
  have d24 := B28.out.at 24 P28.c24
  have d25 := B28.out.at 25 P28.c25
  have d26 := B28.out.at 26 P28.c26
  have d27 := B28.out.at 27 P28.c27
  have d28 := B28.out.at 28 P28.c28
  have d29 := B28.out.at 29 P28.c29
  have d30 := B28.out.at 30 P28.c30
  have d31 := B28.out.at 31 P28.c31
  have d32 := B28.out.at 32 P28.c32
  have d33 := B28.out.at 33 P28.c33
  have d34 := B28.out.at 34 P28.c34
  have d35 := B28.out.at 35 P28.c35
  have d36 := B28.out.at 36 P28.c36
  have d37 := B28.out.at 37 P28.c37
  have d38 := B28.out.at 38 P28.c38
  have d39 := B28.out.at 39 P28.c39
  have d40 := B28.out.at 40 P28.c40
  have d41 := B28.out.at 41 P28.c41
  have d42 := B28.out.at 42 P28.c42
  have d43 := B28.out.at 43 P28.c43
  have d44 := B28.out.at 44 P28.c44
  have hB := B28
  clear B0
  go_enter Try.func52, Try.ntmps52
  go_wp2_with (first
    | (go_at_call 85; refine (beatZero_any _ _ _ _ _).mono ?_; rintro e w1 ⟨rfl, hb1⟩; have hB1 : Hid (Bl w w1 w.heap.size P28.cs) := hB.out.still hb1; clear hb1; have aa7 := hB1.out.at 7 P28.c7; have aa8 := hB1.out.at 8 P28.c8; have aa9 := hB1.out.at 9 P28.c9; have aa10 := hB1.out.at 10 P28.c10; have aa11 := hB1.out.at 11 P28.c11; have aa12 := hB1.out.at 12 P28.c12; have aa13 := hB1.out.at 13 P28.c13; have aa14 := hB1.out.at 14 P28.c14; have aa15 := hB1.out.at 15 P28.c15; have aa16 := hB1.out.at 16 P28.c16; have aa17 := hB1.out.at 17 P28.c17; have aa18 := hB1.out.at 18 P28.c18; have aa19 := hB1.out.at 19 P28.c19; have aa20 := hB1.out.at 20 P28.c20; have aa21 := hB1.out.at 21 P28.c21; have aa22 := hB1.out.at 22 P28.c22; have aa23 := hB1.out.at 23 P28.c23; have aa24 := hB1.out.at 24 P28.c24; have aa25 := hB1.out.at 25 P28.c25; have aa26 := hB1.out.at 26 P28.c26; have aa27 := hB1.out.at 27 P28.c27; have aa28 := hB1.out.at 28 P28.c28; have aa29 := hB1.out.at 29 P28.c29; have aa30 := hB1.out.at 30 P28.c30; have aa31 := hB1.out.at 31 P28.c31; have aa32 := hB1.out.at 32 P28.c32; have aa33 := hB1.out.at 33 P28.c33; have aa34 := hB1.out.at 34 P28.c34; have aa35 := hB1.out.at 35 P28.c35; have aa36 := hB1.out.at 36 P28.c36; have aa37 := hB1.out.at 37 P28.c37; have aa38 := hB1.out.at 38 P28.c38; have aa39 := hB1.out.at 39 P28.c39; have aa40 := hB1.out.at 40 P28.c40; have aa41 := hB1.out.at 41 P28.c41; have aa42 := hB1.out.at 42 P28.c42; have aa43 := hB1.out.at 43 P28.c43; have aa44 := hB1.out.at 44 P28.c44)
    | (go_at_call 86; refine (proposeZero_any _ _ _ _ _ _ _ _ _ _ _ _ _ _).mono ?_; rintro e w2 ⟨rfl, hb1⟩; have hB2 : Hid (Bl w w2 w.heap.size P28.cs) := hB1.out.still hb1; clear hb1; have bb16 := hB2.out.at 16 P28.c16; have bb17 := hB2.out.at 17 P28.c17; have bb18 := hB2.out.at 18 P28.c18; have bb19 := hB2.out.at 19 P28.c19; have bb20 := hB2.out.at 20 P28.c20; have bb21 := hB2.out.at 21 P28.c21; have bb22 := hB2.out.at 22 P28.c22; have bb23 := hB2.out.at 23 P28.c23; have bb24 := hB2.out.at 24 P28.c24; have bb25 := hB2.out.at 25 P28.c25; have bb26 := hB2.out.at 26 P28.c26; have bb27 := hB2.out.at 27 P28.c27; have bb28 := hB2.out.at 28 P28.c28; have bb29 := hB2.out.at 29 P28.c29; have bb30 := hB2.out.at 30 P28.c30; have bb31 := hB2.out.at 31 P28.c31; have bb32 := hB2.out.at 32 P28.c32; have bb33 := hB2.out.at 33 P28.c33; have bb34 := hB2.out.at 34 P28.c34; have bb35 := hB2.out.at 35 P28.c35; have bb36 := hB2.out.at 36 P28.c36; have bb37 := hB2.out.at 37 P28.c37; have bb38 := hB2.out.at 38 P28.c38; have bb39 := hB2.out.at 39 P28.c39; have bb40 := hB2.out.at 40 P28.c40; have bb41 := hB2.out.at 41 P28.c41; have bb42 := hB2.out.at 42 P28.c42; have bb43 := hB2.out.at 43 P28.c43; have bb44 := hB2.out.at 44 P28.c44)
    | (go_at_call 87; refine (flushZero_any _ _ _ _ _ _ _ _ _ _ _ _).mono ?_; rintro e w3 ⟨rfl, hb1⟩; have hB3 : Hid (Bl w w3 w.heap.size P28.cs) := hB2.out.still hb1; clear hb1; have cc23 := hB3.out.at 23 P28.c23; have cc24 := hB3.out.at 24 P28.c24; have cc25 := hB3.out.at 25 P28.c25; have cc26 := hB3.out.at 26 P28.c26; have cc27 := hB3.out.at 27 P28.c27; have cc28 := hB3.out.at 28 P28.c28; have cc29 := hB3.out.at 29 P28.c29; have cc30 := hB3.out.at 30 P28.c30; have cc31 := hB3.out.at 31 P28.c31; have cc32 := hB3.out.at 32 P28.c32; have cc33 := hB3.out.at 33 P28.c33; have cc34 := hB3.out.at 34 P28.c34; have cc35 := hB3.out.at 35 P28.c35; have cc36 := hB3.out.at 36 P28.c36; have cc37 := hB3.out.at 37 P28.c37; have cc38 := hB3.out.at 38 P28.c38; have cc39 := hB3.out.at 39 P28.c39; have cc40 := hB3.out.at 40 P28.c40; have cc41 := hB3.out.at 41 P28.c41; have cc42 := hB3.out.at 42 P28.c42; have cc43 := hB3.out.at 43 P28.c43; have cc44 := hB3.out.at 44 P28.c44)
    | (go_at_call 88; refine (frameZero_any _ _ _ _ _ _ _ _ _).mono ?_; rintro e w4 ⟨rfl, hb1⟩; have hB5 : Hid (Bl w w4 w.heap.size P28.cs) := hB3.out.still hb1; clear hb1; have dd35 := hB5.out.at 35 P28.c35; have dd36 := hB5.out.at 36 P28.c36; have dd37 := hB5.out.at 37 P28.c37; have dd38 := hB5.out.at 38 P28.c38; have dd39 := hB5.out.at 39 P28.c39; have dd40 := hB5.out.at 40 P28.c40; have dd41 := hB5.out.at 41 P28.c41; have dd42 := hB5.out.at 42 P28.c42; have dd43 := hB5.out.at 43 P28.c43; have dd44 := hB5.out.at 44 P28.c44)
    | (go_at_call 89; refine (forwardZero_any _ _ _ _ _ _ _ _).mono ?_; rintro e w5 ⟨rfl, hb1⟩; have hB7 : Hid (Bl w w5 w.heap.size P28.cs) := hB5.out.still hb1; clear hb1)
    | fail)
  all_goals go_ret
  all_goals refine ⟨?_, ?_⟩
  all_goals first
    | exact Bl.b (Hid.out (by assumption))
    | (clear hB; simp_all [othersB, ackZ, stableZ, noneB])

end Go.Proofs.Ytbjpbcanmpimnab.Lo
