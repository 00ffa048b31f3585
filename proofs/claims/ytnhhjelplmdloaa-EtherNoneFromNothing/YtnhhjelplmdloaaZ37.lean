import Derived.Test.YtnhhjelplmdloaaZ26
namespace Go.Proofs.Ytnhhjelplmdloaa.Et
open Go.RowKit Go.Maps
set_option linter.unusedVariables false
set_option linter.unusedSimpArgs false
set_option maxRecDepth 100000
section
variable {E E1 E' : En} {w w' w1 w2 w3 : World} {B K m : Nat}
def Lv (E : En) (K : Nat) : Prop := ∀ k, k < E.nn → 1 ≤ E.inc k ∧ E.inc k ≤ K + 1
def Still (w w1 : World) (E : En) (B K : Nat) : Prop := ∃ E1, Step w w1 E E1 B (256 * K) ∧ Nx E E1 K ∧ E1.fs = E.fs ∧ E1.last = E.last ∧ Lv E1 (K + 1)
theorem Lv.up (h : Lv E K) : Lv E (K + 1) := fun k hk => by have := h k hk; omega
theorem Still.pre (hb : Below w.heap.size w w1) (s : Still w1 w2 E B K) : Still w w2 E B K := by
  obtain ⟨E1, st, x⟩ := s
  exact ⟨E1, st.pre hb, x⟩
theorem still_none (he : E.Ok w B (256 * K)) (h : Inv E K) (hv : Lv E K) : Still w w E B K := ⟨E, Step.none he (Below.refl _ _), nx_none h, rfl, rfl, hv.up⟩
theorem inc_at (h : E.Ok w B m) (k : Nat) (hk : k < E.nn) : Calls Try.prog 14 #[.pointer (some ⟨E.b, 0, none⟩), .int .i64 k] w fun e w' => e = .returned (.int .i64 (E.inc k)) ∧ w = w' := by
  have := inc_any h k
  rw [isN_nat hk] at this
  simpa using this
theorem ticks_at (h : E.Ok w B m) (k : Nat) (hk : k < E.nn) : Calls Try.prog 40 #[.pointer (some ⟨E.b, 0, none⟩), .int .i64 k] w fun e w' => e = .returned (.int .i64 (E.tick k)) ∧ w = w' := by
  have := ticks_any h k
  rw [isN_nat hk] at this
  simpa using this
theorem up_at (h : E.Ok w B m) (k : Nat) (hk : k < E.nn) : Calls Try.prog 13 #[.pointer (some ⟨E.b, 0, none⟩), .int .i64 k] w fun e w' => e = .returned (.bool (E.up k)) ∧ w = w' := by
  have := up_any h k
  rw [isN_nat hk] at this
  simpa using this
theorem up_not (h : E.Ok w B m) (p : Int) (hc : ckUp E p ≠ 0) : Calls Try.prog 13 #[.pointer (some ⟨E.b, 0, none⟩), .int .i64 p] w fun e w' => e = .returned (.bool false) ∧ w = w' := by
  have := up_any h p
  have e : (isN E p && E.up p.toNat) = false := by
    unfold ckUp at hc
    cases h1 : isN E p <;> simp_all
  rwa [e] at this
theorem lv_up (hv : Lv E K) (hK : K ≤ 2199023255551) (k : Nat) (hk : k < E.nn) : Lv { E with up := upd1 E.up k true, inc := upd1 E.inc k (wrap64 (E.inc k + 1)), tick := upd1 E.tick k 0 } (K + 1) := by
  intro j hj
  have h1 := hv k hk
  have h2 := hv j hj
  show 1 ≤ upd1 E.inc k (wrap64 (E.inc k + 1)) j ∧ upd1 E.inc k (wrap64 (E.inc k + 1)) j ≤ ((K + 1 : Nat) : Int) + 1
  rw [wrap_eq, wrap_id (by omega) (by omega)]
  unfold upd1
  split <;> omega
set_option maxHeartbeats 400000 in
theorem turn_tick (he : E.Ok w B (256 * K)) (hB : B ≤ w.heap.size) (h : Inv E K) (hv : Lv E K) (bp : Option Addr) (o : Opx) (hk : o.k = 5) (k : Nat) (hp : o.p = k) (hkn : k < E.nn) (hu : E.up k = true) (hK : K ≤ 2199023255551) : Calls Try.prog 29 #[.pointer bp, .pointer (some ⟨E.b, 0, none⟩), .agg o.cs] w fun e w' => e = .returned (.bool true) ∧ Still w w' E B K := by
  generalize hW : w.alloc (.cells o.cs 46) = W
  have hbW : Below w.heap.size w W := by rw [← hW]; exact balloc (Below.refl _ w)
  have hblk : W.heap[w.heap.size]? = some (.cells o.cs 46 (0, 0)) := by rw [← hW]; exact heap_alloc_new w _
  have hWs : w.heap.size < W.heap.size := lt_heap hblk
  obtain ⟨d0, d1, d2, d3, d4, d5⟩ := op_cells hblk
  have Hb : Hid (Below w.heap.size w W) := hbW
  have heW := he.still hbW
  have HI : Hid (Calls Try.prog 14 #[.pointer (some ⟨E.b, 0, none⟩), .int .i64 (k : Int)] W fun e w' => e = .returned (.int .i64 (E.inc k)) ∧ W = w') := inc_at heW k hkn
  have HT : Hid (Calls Try.prog 40 #[.pointer (some ⟨E.b, 0, none⟩), .int .i64 (k : Int)] W fun e w' => e = .returned (.int .i64 (E.tick k)) ∧ W = w') := ticks_at heW k hkn
  have HU : Hid (Calls Try.prog 13 #[.pointer (some ⟨E.b, 0, none⟩), .int .i64 (k : Int)] W fun e w' => e = .returned (.bool true) ∧ W = w') := by
    have := up_at heW k hkn
    rw [hu] at this
    exact this
  have HC : Hid (Calls Try.prog 37 #[.pointer (some ⟨E.b, 0, none⟩), .int .i64 (k : Int)] W fun e w1 => e = .returned (.tuple #[.int .i64 (wrap64 (E.tick k + 1)), .int .i64 0]) ∧ Step W w1 E { E with tick := upd1 E.tick k (wrap64 (E.tick k + 1)) } B (256 * K)) := tick_ok heW k hkn hu
  have HN : Hid (∀ w1, Step W w1 E { E with tick := upd1 E.tick k (wrap64 (E.tick k + 1)) } B (256 * K) → Still W w1 E B K) := fun w1 st => ⟨_, st, ⟨h.cong rfl rfl rfl rfl, rfl, rfl, rfl⟩, rfl, rfl, hv.up⟩
  have hv1 := hv k hkn
  have HK : Hid (∀ w1, Kept W w1 E.own → w1.cell? ⟨w.heap.size, 1, none⟩ = some (.int .i64 (k : Int))) := fun w1 kp => hp ▸ (op_cells (kp.obj hblk (fun e => Nat.lt_irrefl _ (he.ltOwn e)))).2.1
  unfold Opx.cs at hW ⊢
  rw [hk] at hW d0 ⊢
  rw [hp] at hW d1 ⊢
  clear he heW hbW hblk hv h
  generalize hiv : E.inc k = iv at *
  generalize htv : E.tick k = tv at *
  go_enter Try.func29, Try.ntmps29
  go_wp2_with (fail)
  refine HI.out.mono ?_
  rintro e wz ⟨rfl, rfl⟩
  go_wp2_with (fail)
  refine HT.out.mono ?_
  rintro e wz ⟨rfl, rfl⟩
  go_wp2_with (fail)
  refine HU.out.mono ?_
  rintro e wz ⟨rfl, rfl⟩
  go_wp2_with (fail)
  refine HC.out.mono ?_
  rintro e w1 ⟨rfl, st⟩
  have HS := HN.out _ st
  have d6 := HK.out _ st.kept
  have HT1 : Hid (Calls Try.prog 40 #[.pointer (some ⟨E.b, 0, none⟩), .int .i64 (k : Int)] w1 fun e w' => e = .returned (.int .i64 (wrap64 (tv + 1))) ∧ w1 = w') := by
    have := ticks_at st.ok k hkn
    simp [upd1, hiv, htv] at this
    exact this
  have HI1 : Hid (Calls Try.prog 14 #[.pointer (some ⟨E.b, 0, none⟩), .int .i64 (k : Int)] w1 fun e w' => e = .returned (.int .i64 iv) ∧ w1 = w') := by
    have := inc_at st.ok k hkn
    simp [upd1, hiv, htv] at this
    exact this
  have HSt : Hid (Still W w1 E B K) := HS
  clear st HS
  go_wp2_with (fail)
  refine HT1.out.mono ?_
  rintro e wz ⟨rfl, rfl⟩
  go_wp2_with (fail)
  refine HI1.out.mono ?_
  rintro e wz ⟨rfl, rfl⟩
  go_wp2
  all_goals first | (exfalso; omega) | (go_ret; exact ⟨by simp, HSt.out.pre Hb.out⟩)
set_option maxHeartbeats 400000 in
theorem turn_crash (he : E.Ok w B (256 * K)) (hB : B ≤ w.heap.size) (h : Inv E K) (hv : Lv E K) (bp : Option Addr) (o : Opx) (hk : o.k = 6) (k : Nat) (hp : o.p = k) (hkn : k < E.nn) (hu : E.up k = true) (hK : K ≤ 2199023255551) : Calls Try.prog 29 #[.pointer bp, .pointer (some ⟨E.b, 0, none⟩), .agg o.cs] w fun e w' => e = .returned (.bool true) ∧ Still w w' E B K := by
  generalize hW : w.alloc (.cells o.cs 46) = W
  have hbW : Below w.heap.size w W := by rw [← hW]; exact balloc (Below.refl _ w)
  have hblk : W.heap[w.heap.size]? = some (.cells o.cs 46 (0, 0)) := by rw [← hW]; exact heap_alloc_new w _
  have hWs : w.heap.size < W.heap.size := lt_heap hblk
  obtain ⟨d0, d1, d2, d3, d4, d5⟩ := op_cells hblk
  have Hb : Hid (Below w.heap.size w W) := hbW
  have heW := he.still hbW
  have HI : Hid (Calls Try.prog 14 #[.pointer (some ⟨E.b, 0, none⟩), .int .i64 (k : Int)] W fun e w' => e = .returned (.int .i64 (E.inc k)) ∧ W = w') := inc_at heW k hkn
  have HT : Hid (Calls Try.prog 40 #[.pointer (some ⟨E.b, 0, none⟩), .int .i64 (k : Int)] W fun e w' => e = .returned (.int .i64 (E.tick k)) ∧ W = w') := ticks_at heW k hkn
  have HU : Hid (Calls Try.prog 13 #[.pointer (some ⟨E.b, 0, none⟩), .int .i64 (k : Int)] W fun e w' => e = .returned (.bool true) ∧ W = w') := by
    have := up_at heW k hkn
    rw [hu] at this
    exact this
  have HC : Hid (Calls Try.prog 38 #[.pointer (some ⟨E.b, 0, none⟩), .int .i64 (k : Int)] W fun e w1 => e = .returned (.int .i64 0) ∧ Step W w1 E { E with up := upd1 E.up k false } B (256 * K)) := crash_ok heW k hkn hu
  have HN : Hid (∀ w1, Step W w1 E { E with up := upd1 E.up k false } B (256 * K) → Still W w1 E B K) := fun w1 st => ⟨_, st, ⟨h.cong rfl rfl rfl rfl, rfl, rfl, rfl⟩, rfl, rfl, hv.up⟩
  have hv1 := hv k hkn
  have HK : Hid (∀ w1, Kept W w1 E.own → w1.cell? ⟨w.heap.size, 1, none⟩ = some (.int .i64 (k : Int))) := fun w1 kp => hp ▸ (op_cells (kp.obj hblk (fun e => Nat.lt_irrefl _ (he.ltOwn e)))).2.1
  unfold Opx.cs at hW ⊢
  rw [hk] at hW d0 ⊢
  rw [hp] at hW d1 ⊢
  clear he heW hbW hblk hv h
  generalize hiv : E.inc k = iv at *
  generalize htv : E.tick k = tv at *
  go_enter Try.func29, Try.ntmps29
  go_wp2_with (fail)
  refine HI.out.mono ?_
  rintro e wz ⟨rfl, rfl⟩
  go_wp2_with (fail)
  refine HT.out.mono ?_
  rintro e wz ⟨rfl, rfl⟩
  go_wp2_with (fail)
  refine HU.out.mono ?_
  rintro e wz ⟨rfl, rfl⟩
  go_wp2_with (fail)
  refine HC.out.mono ?_
  rintro e w1 ⟨rfl, st⟩
  have HS := HN.out _ st
  have d6 := HK.out _ st.kept
  have HU1 : Hid (Calls Try.prog 13 #[.pointer (some ⟨E.b, 0, none⟩), .int .i64 (k : Int)] w1 fun e w' => e = .returned (.bool false) ∧ w1 = w') := by
    have := up_at st.ok k hkn
    simp [upd1, hiv, htv] at this
    exact this
  have HI1 : Hid (Calls Try.prog 14 #[.pointer (some ⟨E.b, 0, none⟩), .int .i64 (k : Int)] w1 fun e w' => e = .returned (.int .i64 iv) ∧ w1 = w') := by
    have := inc_at st.ok k hkn
    simp [upd1, hiv, htv] at this
    exact this
  have HT1 : Hid (Calls Try.prog 40 #[.pointer (some ⟨E.b, 0, none⟩), .int .i64 (k : Int)] w1 fun e w' => e = .returned (.int .i64 tv) ∧ w1 = w') := by
    have := ticks_at st.ok k hkn
    simp [upd1, hiv, htv] at this
    exact this
  have HSt : Hid (Still W w1 E B K) := HS
  clear st HS
  go_wp2_with (fail)
  refine HU1.out.mono ?_
  rintro e wz ⟨rfl, rfl⟩
  go_wp2_with (fail)
  refine HI1.out.mono ?_
  rintro e wz ⟨rfl, rfl⟩
  go_wp2_with (fail)
  refine HT1.out.mono ?_
  rintro e wz ⟨rfl, rfl⟩
  go_wp2
  all_goals first | (exfalso; omega) | (go_ret; exact ⟨by simp, HSt.out.pre Hb.out⟩)
set_option maxHeartbeats 400000 in
theorem turn_restart (he : E.Ok w B (256 * K)) (hB : B ≤ w.heap.size) (h : Inv E K) (hv : Lv E K) (bp : Option Addr) (o : Opx) (hk : o.k = 7) (k : Nat) (hp : o.p = k) (hkn : k < E.nn) (hu : E.up k = false) (hK : K ≤ 2199023255551) : Calls Try.prog 29 #[.pointer bp, .pointer (some ⟨E.b, 0, none⟩), .agg o.cs] w fun e w' => e = .returned (.bool true) ∧ Still w w' E B K := by
  generalize hW : w.alloc (.cells o.cs 46) = W
  have hbW : Below w.heap.size w W := by rw [← hW]; exact balloc (Below.refl _ w)
  have hblk : W.heap[w.heap.size]? = some (.cells o.cs 46 (0, 0)) := by rw [← hW]; exact heap_alloc_new w _
  have hWs : w.heap.size < W.heap.size := lt_heap hblk
  obtain ⟨d0, d1, d2, d3, d4, d5⟩ := op_cells hblk
  have Hb : Hid (Below w.heap.size w W) := hbW
  have heW := he.still hbW
  have HI : Hid (Calls Try.prog 14 #[.pointer (some ⟨E.b, 0, none⟩), .int .i64 (k : Int)] W fun e w' => e = .returned (.int .i64 (E.inc k)) ∧ W = w') := inc_at heW k hkn
  have HT : Hid (Calls Try.prog 40 #[.pointer (some ⟨E.b, 0, none⟩), .int .i64 (k : Int)] W fun e w' => e = .returned (.int .i64 (E.tick k)) ∧ W = w') := ticks_at heW k hkn
  have HU : Hid (Calls Try.prog 13 #[.pointer (some ⟨E.b, 0, none⟩), .int .i64 (k : Int)] W fun e w' => e = .returned (.bool false) ∧ W = w') := by
    have := up_at heW k hkn
    rw [hu] at this
    exact this
  have HC : Hid (Calls Try.prog 12 #[.pointer (some ⟨E.b, 0, none⟩), .int .i64 (k : Int)] W fun e w1 => e = .returned (.tuple #[.int .i64 (wrap64 (E.inc k + 1)), .int .i64 0]) ∧ Step W w1 E { E with up := upd1 E.up k true, inc := upd1 E.inc k (wrap64 (E.inc k + 1)), tick := upd1 E.tick k 0 } B (256 * K)) := restart_ok heW k hkn hu
  have HN : Hid (∀ w1, Step W w1 E { E with up := upd1 E.up k true, inc := upd1 E.inc k (wrap64 (E.inc k + 1)), tick := upd1 E.tick k 0 } B (256 * K) → Still W w1 E B K) := fun w1 st => ⟨_, st, ⟨h.cong rfl rfl rfl rfl, rfl, rfl, rfl⟩, rfl, rfl, lv_up hv hK k hkn⟩
  have hv1 := hv k hkn
  have HK : Hid (∀ w1, Kept W w1 E.own → w1.cell? ⟨w.heap.size, 1, none⟩ = some (.int .i64 (k : Int))) := fun w1 kp => hp ▸ (op_cells (kp.obj hblk (fun e => Nat.lt_irrefl _ (he.ltOwn e)))).2.1
  unfold Opx.cs at hW ⊢
  rw [hk] at hW d0 ⊢
  rw [hp] at hW d1 ⊢
  clear he heW hbW hblk hv h
  generalize hiv : E.inc k = iv at *
  generalize htv : E.tick k = tv at *
  have hwr : wrap64 (iv + 1) = iv + 1 := by rw [wrap_eq]; exact wrap_id (by omega) (by omega)
  rw [hwr] at HC HN
  go_enter Try.func29, Try.ntmps29
  go_wp2_with (fail)
  refine HI.out.mono ?_
  rintro e wz ⟨rfl, rfl⟩
  go_wp2_with (fail)
  refine HT.out.mono ?_
  rintro e wz ⟨rfl, rfl⟩
  go_wp2_with (fail)
  refine HU.out.mono ?_
  rintro e wz ⟨rfl, rfl⟩
  go_wp2_with (fail)
  refine HC.out.mono ?_
  rintro e w1 ⟨rfl, st⟩
  have HS := HN.out _ st
  have d6 := HK.out _ st.kept
  have HI1 : Hid (Calls Try.prog 14 #[.pointer (some ⟨E.b, 0, none⟩), .int .i64 (k : Int)] w1 fun e w' => e = .returned (.int .i64 (iv + 1)) ∧ w1 = w') := by
    have := inc_at st.ok k hkn
    simp [upd1, hiv, htv] at this
    exact this
  have HT1 : Hid (Calls Try.prog 40 #[.pointer (some ⟨E.b, 0, none⟩), .int .i64 (k : Int)] w1 fun e w' => e = .returned (.int .i64 0) ∧ w1 = w') := by
    have := ticks_at st.ok k hkn
    simp [upd1, hiv, htv] at this
    exact this
  have HU1 : Hid (Calls Try.prog 13 #[.pointer (some ⟨E.b, 0, none⟩), .int .i64 (k : Int)] w1 fun e w' => e = .returned (.bool true) ∧ w1 = w') := by
    have := up_at st.ok k hkn
    simp [upd1, hiv, htv] at this
    exact this
  have HSt : Hid (Still W w1 E B K) := HS
  clear st HS
  go_wp2_with (fail)
  refine HI1.out.mono ?_
  rintro e wz ⟨rfl, rfl⟩
  go_wp2_with (fail)
  refine HT1.out.mono ?_
  rintro e wz ⟨rfl, rfl⟩
  go_wp2_with (fail)
  refine HU1.out.mono ?_
  rintro e wz ⟨rfl, rfl⟩
  go_wp2
  all_goals first | (exfalso; omega) | (go_ret; exact ⟨by simp, HSt.out.pre Hb.out⟩)
set_option maxHeartbeats 400000 in
theorem turn_tick_no (he : E.Ok w B (256 * K)) (hB : B ≤ w.heap.size) (h : Inv E K) (hv : Lv E K) (bp : Option Addr) (o : Opx) (hk : o.k = 5) (hc : ckUp E o.p ≠ 0) : Calls Try.prog 29 #[.pointer bp, .pointer (some ⟨E.b, 0, none⟩), .agg o.cs] w fun e w' => e = .returned (.bool true) ∧ Still w w' E B K := by
  generalize hW : w.alloc (.cells o.cs 46) = W
  have hbW : Below w.heap.size w W := by rw [← hW]; exact balloc (Below.refl _ w)
  have hblk : W.heap[w.heap.size]? = some (.cells o.cs 46 (0, 0)) := by rw [← hW]; exact heap_alloc_new w _
  have hWs : w.heap.size < W.heap.size := lt_heap hblk
  obtain ⟨d0, d1, d2, d3, d4, d5⟩ := op_cells hblk
  have Hb : Hid (Below w.heap.size w W) := hbW
  have heW := he.still hbW
  have HI : Hid (Calls Try.prog 14 #[.pointer (some ⟨E.b, 0, none⟩), .int .i64 o.p] W fun e w' => e = .returned (.int .i64 (if isN E o.p then E.inc o.p.toNat else 0)) ∧ W = w') := inc_any heW o.p
  have HT : Hid (Calls Try.prog 40 #[.pointer (some ⟨E.b, 0, none⟩), .int .i64 o.p] W fun e w' => e = .returned (.int .i64 (if isN E o.p then E.tick o.p.toNat else 0)) ∧ W = w') := ticks_any heW o.p
  have HU : Hid (Calls Try.prog 13 #[.pointer (some ⟨E.b, 0, none⟩), .int .i64 o.p] W fun e w' => e = .returned (.bool false) ∧ W = w') := up_not heW o.p hc
  have HC : Hid (Calls Try.prog 37 #[.pointer (some ⟨E.b, 0, none⟩), .int .i64 o.p] W fun e w' => e = .returned (.tuple #[.int .i64 0, .int .i64 (ckUp E o.p)]) ∧ W = w') := tick_no heW o.p hc
  have HSt : Hid (Still W W E B K) := still_none heW h hv
  unfold Opx.cs at hW ⊢
  rw [hk] at hW d0 ⊢
  clear he heW hbW hblk hv h
  generalize (if isN E o.p then E.tick o.p.toNat else 0) = tv at *
  try generalize (if isN E o.p then E.inc o.p.toNat else 0) = iv at *
  try generalize ckUp E o.p = ce at *
  try generalize rstE E o.p = ce at *
  try generalize E.inc o.p.toNat = iv at *
  generalize o.p = p at *
  go_enter Try.func29, Try.ntmps29
  go_wp2_with (fail)
  refine HI.out.mono ?_
  rintro e wz ⟨rfl, rfl⟩
  go_wp2_with (fail)
  refine HT.out.mono ?_
  rintro e wz ⟨rfl, rfl⟩
  go_wp2_with (fail)
  refine HU.out.mono ?_
  rintro e wz ⟨rfl, rfl⟩
  go_wp2_with (fail)
  refine HC.out.mono ?_
  rintro e wz ⟨rfl, rfl⟩
  go_wp2_with (fail)
  refine HI.out.mono ?_
  rintro e wz ⟨rfl, rfl⟩
  go_wp2
  all_goals first | (exfalso; omega) | (go_ret; exact ⟨by first | (simp; done) | (simp; exact hc) | (simp; omega) | (simp [hc]; done), HSt.out.pre Hb.out⟩)
set_option maxHeartbeats 400000 in
theorem turn_crash_no (he : E.Ok w B (256 * K)) (hB : B ≤ w.heap.size) (h : Inv E K) (hv : Lv E K) (bp : Option Addr) (o : Opx) (hk : o.k = 6) (hc : ckUp E o.p ≠ 0) : Calls Try.prog 29 #[.pointer bp, .pointer (some ⟨E.b, 0, none⟩), .agg o.cs] w fun e w' => e = .returned (.bool true) ∧ Still w w' E B K := by
  generalize hW : w.alloc (.cells o.cs 46) = W
  have hbW : Below w.heap.size w W := by rw [← hW]; exact balloc (Below.refl _ w)
  have hblk : W.heap[w.heap.size]? = some (.cells o.cs 46 (0, 0)) := by rw [← hW]; exact heap_alloc_new w _
  have hWs : w.heap.size < W.heap.size := lt_heap hblk
  obtain ⟨d0, d1, d2, d3, d4, d5⟩ := op_cells hblk
  have Hb : Hid (Below w.heap.size w W) := hbW
  have heW := he.still hbW
  have HI : Hid (Calls Try.prog 14 #[.pointer (some ⟨E.b, 0, none⟩), .int .i64 o.p] W fun e w' => e = .returned (.int .i64 (if isN E o.p then E.inc o.p.toNat else 0)) ∧ W = w') := inc_any heW o.p
  have HT : Hid (Calls Try.prog 40 #[.pointer (some ⟨E.b, 0, none⟩), .int .i64 o.p] W fun e w' => e = .returned (.int .i64 (if isN E o.p then E.tick o.p.toNat else 0)) ∧ W = w') := ticks_any heW o.p
  have HU : Hid (Calls Try.prog 13 #[.pointer (some ⟨E.b, 0, none⟩), .int .i64 o.p] W fun e w' => e = .returned (.bool false) ∧ W = w') := up_not heW o.p hc
  have HC : Hid (Calls Try.prog 38 #[.pointer (some ⟨E.b, 0, none⟩), .int .i64 o.p] W fun e w' => e = .returned (.int .i64 (ckUp E o.p)) ∧ W = w') := crash_no heW o.p hc
  have HSt : Hid (Still W W E B K) := still_none heW h hv
  unfold Opx.cs at hW ⊢
  rw [hk] at hW d0 ⊢
  clear he heW hbW hblk hv h
  generalize (if isN E o.p then E.tick o.p.toNat else 0) = tv at *
  try generalize (if isN E o.p then E.inc o.p.toNat else 0) = iv at *
  try generalize ckUp E o.p = ce at *
  try generalize rstE E o.p = ce at *
  try generalize E.inc o.p.toNat = iv at *
  generalize o.p = p at *
  go_enter Try.func29, Try.ntmps29
  go_wp2_with (fail)
  refine HI.out.mono ?_
  rintro e wz ⟨rfl, rfl⟩
  go_wp2_with (fail)
  refine HT.out.mono ?_
  rintro e wz ⟨rfl, rfl⟩
  go_wp2_with (fail)
  refine HU.out.mono ?_
  rintro e wz ⟨rfl, rfl⟩
  go_wp2_with (fail)
  refine HC.out.mono ?_
  rintro e wz ⟨rfl, rfl⟩
  go_wp2_with (fail)
  refine HU.out.mono ?_
  rintro e wz ⟨rfl, rfl⟩
  go_wp2_with (fail)
  refine HI.out.mono ?_
  rintro e wz ⟨rfl, rfl⟩
  go_wp2_with (fail)
  refine HT.out.mono ?_
  rintro e wz ⟨rfl, rfl⟩
  go_wp2
  all_goals first | (exfalso; omega) | (go_ret; exact ⟨by first | (simp; done) | (simp; exact hc) | (simp; omega) | (simp [hc]; done), HSt.out.pre Hb.out⟩)
set_option maxHeartbeats 400000 in
theorem turn_restart_up (he : E.Ok w B (256 * K)) (hB : B ≤ w.heap.size) (h : Inv E K) (hv : Lv E K) (bp : Option Addr) (o : Opx) (hk : o.k = 7) (hc : rstE E o.p ≠ 0) (hn : (isN E o.p && E.up o.p.toNat) = true) : Calls Try.prog 29 #[.pointer bp, .pointer (some ⟨E.b, 0, none⟩), .agg o.cs] w fun e w' => e = .returned (.bool true) ∧ Still w w' E B K := by
  generalize hW : w.alloc (.cells o.cs 46) = W
  have hbW : Below w.heap.size w W := by rw [← hW]; exact balloc (Below.refl _ w)
  have hblk : W.heap[w.heap.size]? = some (.cells o.cs 46 (0, 0)) := by rw [← hW]; exact heap_alloc_new w _
  have hWs : w.heap.size < W.heap.size := lt_heap hblk
  obtain ⟨d0, d1, d2, d3, d4, d5⟩ := op_cells hblk
  have Hb : Hid (Below w.heap.size w W) := hbW
  have heW := he.still hbW
  have HI : Hid (Calls Try.prog 14 #[.pointer (some ⟨E.b, 0, none⟩), .int .i64 o.p] W fun e w' => e = .returned (.int .i64 (if isN E o.p then E.inc o.p.toNat else 0)) ∧ W = w') := inc_any heW o.p
  have HT : Hid (Calls Try.prog 40 #[.pointer (some ⟨E.b, 0, none⟩), .int .i64 o.p] W fun e w' => e = .returned (.int .i64 (if isN E o.p then E.tick o.p.toNat else 0)) ∧ W = w') := ticks_any heW o.p
  have HU : Hid (Calls Try.prog 13 #[.pointer (some ⟨E.b, 0, none⟩), .int .i64 o.p] W fun e w' => e = .returned (.bool true) ∧ W = w') := (by have := up_any heW o.p; rw [hn] at this; exact this)
  have HC : Hid (Calls Try.prog 12 #[.pointer (some ⟨E.b, 0, none⟩), .int .i64 o.p] W fun e w' => e = .returned (.tuple #[.int .i64 0, .int .i64 (rstE E o.p)]) ∧ W = w') := restart_no heW o.p hc
  have HSt : Hid (Still W W E B K) := still_none heW h hv
  unfold Opx.cs at hW ⊢
  rw [hk] at hW d0 ⊢
  clear he heW hbW hblk hv h
  generalize (if isN E o.p then E.tick o.p.toNat else 0) = tv at *
  try generalize (if isN E o.p then E.inc o.p.toNat else 0) = iv at *
  try generalize ckUp E o.p = ce at *
  try generalize rstE E o.p = ce at *
  try generalize E.inc o.p.toNat = iv at *
  generalize o.p = p at *
  go_enter Try.func29, Try.ntmps29
  go_wp2_with (fail)
  refine HI.out.mono ?_
  rintro e wz ⟨rfl, rfl⟩
  go_wp2_with (fail)
  refine HT.out.mono ?_
  rintro e wz ⟨rfl, rfl⟩
  go_wp2_with (fail)
  refine HU.out.mono ?_
  rintro e wz ⟨rfl, rfl⟩
  go_wp2_with (fail)
  refine HC.out.mono ?_
  rintro e wz ⟨rfl, rfl⟩
  go_wp2_with (fail)
  refine HI.out.mono ?_
  rintro e wz ⟨rfl, rfl⟩
  go_wp2_with (fail)
  refine HU.out.mono ?_
  rintro e wz ⟨rfl, rfl⟩
  go_wp2
  all_goals first | (exfalso; omega) | (go_ret; exact ⟨by first | (simp; done) | (simp; exact hc) | (simp; omega) | (simp [hc]; done), HSt.out.pre Hb.out⟩)
set_option maxHeartbeats 400000 in
theorem turn_restart_out (he : E.Ok w B (256 * K)) (hB : B ≤ w.heap.size) (h : Inv E K) (hv : Lv E K) (bp : Option Addr) (o : Opx) (hk : o.k = 7) (hc : rstE E o.p ≠ 0) (hn : isN E o.p = false) : Calls Try.prog 29 #[.pointer bp, .pointer (some ⟨E.b, 0, none⟩), .agg o.cs] w fun e w' => e = .returned (.bool true) ∧ Still w w' E B K := by
  generalize hW : w.alloc (.cells o.cs 46) = W
  have hbW : Below w.heap.size w W := by rw [← hW]; exact balloc (Below.refl _ w)
  have hblk : W.heap[w.heap.size]? = some (.cells o.cs 46 (0, 0)) := by rw [← hW]; exact heap_alloc_new w _
  have hWs : w.heap.size < W.heap.size := lt_heap hblk
  obtain ⟨d0, d1, d2, d3, d4, d5⟩ := op_cells hblk
  have Hb : Hid (Below w.heap.size w W) := hbW
  have heW := he.still hbW
  have HI : Hid (Calls Try.prog 14 #[.pointer (some ⟨E.b, 0, none⟩), .int .i64 o.p] W fun e w' => e = .returned (.int .i64 0) ∧ W = w') := (by have := inc_any heW o.p; rw [hn] at this; exact this)
  have HT : Hid (Calls Try.prog 40 #[.pointer (some ⟨E.b, 0, none⟩), .int .i64 o.p] W fun e w' => e = .returned (.int .i64 (if isN E o.p then E.tick o.p.toNat else 0)) ∧ W = w') := ticks_any heW o.p
  have HU : Hid (Calls Try.prog 13 #[.pointer (some ⟨E.b, 0, none⟩), .int .i64 o.p] W fun e w' => e = .returned (.bool false) ∧ W = w') := (by have := up_any heW o.p; rw [hn] at this; exact this)
  have HC : Hid (Calls Try.prog 12 #[.pointer (some ⟨E.b, 0, none⟩), .int .i64 o.p] W fun e w' => e = .returned (.tuple #[.int .i64 0, .int .i64 (rstE E o.p)]) ∧ W = w') := restart_no heW o.p hc
  have HSt : Hid (Still W W E B K) := still_none heW h hv
  unfold Opx.cs at hW ⊢
  rw [hk] at hW d0 ⊢
  clear he heW hbW hblk hv h
  generalize (if isN E o.p then E.tick o.p.toNat else 0) = tv at *
  try generalize (if isN E o.p then E.inc o.p.toNat else 0) = iv at *
  try generalize ckUp E o.p = ce at *
  try generalize rstE E o.p = ce at *
  try generalize E.inc o.p.toNat = iv at *
  generalize o.p = p at *
  go_enter Try.func29, Try.ntmps29
  go_wp2_with (fail)
  refine HI.out.mono ?_
  rintro e wz ⟨rfl, rfl⟩
  go_wp2_with (fail)
  refine HT.out.mono ?_
  rintro e wz ⟨rfl, rfl⟩
  go_wp2_with (fail)
  refine HU.out.mono ?_
  rintro e wz ⟨rfl, rfl⟩
  go_wp2_with (fail)
  refine HC.out.mono ?_
  rintro e wz ⟨rfl, rfl⟩
  go_wp2_with (fail)
  refine HI.out.mono ?_
  rintro e wz ⟨rfl, rfl⟩
  go_wp2_with (fail)
  refine HU.out.mono ?_
  rintro e wz ⟨rfl, rfl⟩
  go_wp2
  all_goals first | (exfalso; omega) | (go_ret; exact ⟨by first | (simp; done) | (simp; exact hc) | (simp; omega) | (simp [hc]; done), HSt.out.pre Hb.out⟩)
theorem turn_any (he : E.Ok w B (256 * K)) (hB : B ≤ w.heap.size) (h : Inv E K) (hv : Lv E K) (bp : Option Addr) (o : Opx) (h1 : 5 ≤ o.k) (h2 : o.k ≤ 7) (hK : K ≤ 2199023255551) : Calls Try.prog 29 #[.pointer bp, .pointer (some ⟨E.b, 0, none⟩), .agg o.cs] w fun e w' => e = .returned (.bool true) ∧ Still w w' E B K := by
  rcases (show o.k = 5 ∨ o.k = 6 ∨ o.k = 7 by omega) with hk | hk | hk
  · by_cases hc : ckUp E o.p = 0
    · obtain ⟨k, hp, hkn, hu⟩ := ckUp_zero hc
      exact turn_tick he hB h hv bp o hk k hp hkn hu hK
    · exact turn_tick_no he hB h hv bp o hk hc
  · by_cases hc : ckUp E o.p = 0
    · obtain ⟨k, hp, hkn, hu⟩ := ckUp_zero hc
      exact turn_crash he hB h hv bp o hk k hp hkn hu hK
    · exact turn_crash_no he hB h hv bp o hk hc
  · by_cases hc : rstE E o.p = 0
    · obtain ⟨k, hp, hkn, hu⟩ := rstE_zero hc
      exact turn_restart he hB h hv bp o hk k hp hkn hu hK
    · by_cases hn : isN E o.p = true
      · refine turn_restart_up he hB h hv bp o hk hc ?_
        unfold rstE at hc
        rw [hn] at hc ⊢
        cases hu : E.up o.p.toNat <;> simp_all
      · exact turn_restart_out he hB h hv bp o hk hc (by simpa using hn)
end
end Go.Proofs.Ytnhhjelplmdloaa.Et
