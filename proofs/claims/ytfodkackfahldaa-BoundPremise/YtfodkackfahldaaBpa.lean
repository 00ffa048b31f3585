import Derived.Test.YtfodkackfahldaaBnd
namespace Go.Proofs.Ytfodkackfahldaa.Lo
open Go.RowKit
set_option linter.unusedVariables false
set_option linter.unusedSimpArgs false

def Nb (w : World) (b : Nat) (f : Nat → Int) : Prop := ∃ C : Array Value, w.heap[b]? = some (.cells C 59 (0, 0)) ∧ C.size = 292 ∧ ∀ i, i < 292 → C[i]? = some (.int .i64 (f i))
theorem Nb.cell {w : World} {b : Nat} {f : Nat → Int} (h : Nb w b f) {i : Nat} (hi : i < 292) : w.cell? ⟨b, i, none⟩ = some (.int .i64 (f i)) := by
  obtain ⟨C, h1, _, h3⟩ := h
  rw [blk_cell h1]
  exact h3 i hi
theorem Nb.on {w w' : World} {b : Nat} {f : Nat → Int} (h : Nb w b f) (hb : Below w.heap.size w w') : Nb w' b f := by
  obtain ⟨C, h1, h2, h3⟩ := h
  exact ⟨C, blk_on hb h1, h2, h3⟩
def stB (st kd n : Int) : Int := if st = 0 then (if kd = 6 then 1 else 0) else if kd = 5 ∨ (kd = 7 ∧ 0 ≤ n) then 0 else if kd = 18 then 2 else st
def paB (p kd n : Int) : Int := if kd = 8 then -(max p (-p)) else if kd = 9 then max p (-p) else if ¬ (1 ≤ n ∧ n ≤ 16) then p else if p < 0 then -n else n

set_option maxRecDepth 100000 in
theorem isNode_any (b : Nat) (f : Nat → Int) (p : Int) (w : World) (h : Nb w b f) (hn : 1 ≤ f 0 ∧ f 0 ≤ 16) : Calls Try.prog 43 #[.pointer (some ⟨b, 0, none⟩), .int .i64 p] w fun e w' => e = .returned (.bool (inR p 0 (f 0 - 1))) ∧ w = w' := by
  have c0 := h.cell (i := 0) (by omega)
  clear h
  obtain ⟨n, hf⟩ : ∃ n, f 0 = n := ⟨_, rfl⟩
  rw [hf] at c0 hn ⊢
  clear hf
  obtain ⟨h1, h2⟩ := hn
  go_enter Try.func43, Try.ntmps43
  go_wp2_with (first | (go_at_call 33; refine (bwithin_any _ _ _ _).mono ?_; rintro e w' ⟨rfl, rfl⟩) | fail)
  go_ret
  exact ⟨rfl, rfl⟩
set_option maxRecDepth 100000 in
theorem isPath_any (b : Nat) (f : Nat → Int) (p q : Int) (w : World) (h : Nb w b f) (hn : 1 ≤ f 0 ∧ f 0 ≤ 16) : Calls Try.prog 45 #[.pointer (some ⟨b, 0, none⟩), .int .i64 p, .int .i64 q] w fun e w' => e = .returned (.bool (inR p 0 (f 0 - 1) && inR q 0 (f 0 - 1) && !(p == q))) ∧ w = w' := by
  have HN : Hid (∀ x, Calls Try.prog 43 #[.pointer (some ⟨b, 0, none⟩), .int .i64 x] w fun e w' => e = .returned (.bool (inR x 0 (f 0 - 1))) ∧ w = w') := fun x => (show Calls _ _ _ _ _ from isNode_any b f x w h hn)
  clear h hn
  generalize f 0 - 1 = m at *
  generalize hp : inR p 0 m = bp
  generalize hq : inR q 0 m = bq
  have HP : Hid (inR p 0 m = bp ∧ inR q 0 m = bq) := (show _ ∧ _ from ⟨hp, hq⟩)
  have H1 : Hid (Calls Try.prog 43 #[.pointer (some ⟨b, 0, none⟩), .int .i64 p] w fun e w' => e = .returned (.bool bp) ∧ w = w') := (show Calls _ _ _ _ _ from by rw [← hp]; exact HN.out p)
  have H2 : Hid (Calls Try.prog 43 #[.pointer (some ⟨b, 0, none⟩), .int .i64 q] w fun e w' => e = .returned (.bool bq) ∧ w = w') := (show Calls _ _ _ _ _ from by rw [← hq]; exact HN.out q)
  clear HN hp hq HP
  go_enter Try.func45, Try.ntmps45
  cases bp
  · go_wp2_with (first | (go_at_call 43; refine H1.out.mono ?_; rintro e w' ⟨rfl, rfl⟩) | fail)
    go_ret
    exact ⟨by simp, rfl⟩
  · cases bq
    · go_wp2_with fail
      refine H1.out.mono ?_
      rintro e w' ⟨rfl, rfl⟩
      go_wp2_with fail
      refine H2.out.mono ?_
      rintro e w' ⟨rfl, rfl⟩
      go_wp2
      go_ret
      exact ⟨by simp, rfl⟩
    · go_wp2_with fail
      refine H1.out.mono ?_
      rintro e w' ⟨rfl, rfl⟩
      go_wp2_with fail
      refine H2.out.mono ?_
      rintro e w' ⟨rfl, rfl⟩
      go_wp2
      all_goals go_ret
      all_goals exact ⟨by simp_all [bne], rfl⟩
set_option maxRecDepth 100000 in
set_option maxHeartbeats 1000000 in
theorem stand_any (st kd a q n : Int) (v4 v5 v6 v7 v8 v9 v10 v11 v12 : Value) (w : World) : Calls Try.prog 44 #[.int .i64 st, .agg #[.int .i64 kd, .int .i64 a, .int .i64 q, .int .i64 n, v4, v5, v6, v7, v8, v9, v10, v11, v12]] w fun e w' => e = .returned (.int .i64 (stB st kd n)) ∧ Below w.heap.size w w' := by
  have HB : Hid (Below w.heap.size w (w.alloc (.cells #[.int .i64 kd, .int .i64 a, .int .i64 q, .int .i64 n, v4, v5, v6, v7, v8, v9, v10, v11, v12] 36))) := bsp _ _ _
  have hk := heap_new w #[.int .i64 kd, .int .i64 a, .int .i64 q, .int .i64 n, v4, v5, v6, v7, v8, v9, v10, v11, v12] 36
  generalize hW : w.alloc (.cells #[.int .i64 kd, .int .i64 a, .int .i64 q, .int .i64 n, v4, v5, v6, v7, v8, v9, v10, v11, v12] 36) = W at *
  have c0 : W.cell? ⟨w.heap.size, 0, none⟩ = some (.int .i64 kd) := blk_cell hk 0
  have c3 : W.cell? ⟨w.heap.size, 3, none⟩ = some (.int .i64 n) := blk_cell hk 3
  clear hk
  go_enter Try.func44, Try.ntmps44
  go_wp2
  all_goals go_ret
  all_goals refine ⟨?_, HB.out⟩
  all_goals simp_all [stB]
  all_goals omega
set_option maxRecDepth 100000 in
set_option maxHeartbeats 1000000 in
theorem path_any (p kd a q n : Int) (v4 v5 v6 v7 v8 v9 v10 v11 v12 : Value) (w : World) (hp : -16 ≤ p ∧ p ≤ 16) : Calls Try.prog 46 #[.int .i64 p, .agg #[.int .i64 kd, .int .i64 a, .int .i64 q, .int .i64 n, v4, v5, v6, v7, v8, v9, v10, v11, v12]] w fun e w' => e = .returned (.int .i64 (paB p kd n)) ∧ Below w.heap.size w w' := by
  obtain ⟨p1, p2⟩ := hp
  have HB : Hid (Below w.heap.size w (w.alloc (.cells #[.int .i64 kd, .int .i64 a, .int .i64 q, .int .i64 n, v4, v5, v6, v7, v8, v9, v10, v11, v12] 36))) := bsp _ _ _
  have hk := heap_new w #[.int .i64 kd, .int .i64 a, .int .i64 q, .int .i64 n, v4, v5, v6, v7, v8, v9, v10, v11, v12] 36
  generalize hW : w.alloc (.cells #[.int .i64 kd, .int .i64 a, .int .i64 q, .int .i64 n, v4, v5, v6, v7, v8, v9, v10, v11, v12] 36) = W at *
  have c0 : W.cell? ⟨w.heap.size, 0, none⟩ = some (.int .i64 kd) := blk_cell hk 0
  have c3 : W.cell? ⟨w.heap.size, 3, none⟩ = some (.int .i64 n) := blk_cell hk 3
  clear hk
  generalize hb : inR n 1 16 = bn
  have H1 : Hid (∀ D, Calls Try.prog 33 #[.int .i64 n, .int .i64 1, .int .i64 16] D fun e w' => e = .returned (.bool bn) ∧ D = w') := fun D => (show Calls _ _ _ _ _ from bwithin_eq _ _ _ _ _ hb)
  have Hb : Hid (inR n 1 16 = bn) := hb
  clear hb
  by_cases k8 : kd = 8
  · subst k8
    go_enter Try.func46, Try.ntmps46
    go_wp2
    all_goals go_ret
    all_goals exact ⟨by simp [paB]; omega, HB.out⟩
  · by_cases k9 : kd = 9
    · subst k9
      go_enter Try.func46, Try.ntmps46
      go_wp2
      all_goals go_ret
      all_goals exact ⟨by simp [paB]; omega, HB.out⟩
    · have k8' : (kd == 8) = false := by simpa using k8
      have k9' : (kd == 9) = false := by simpa using k9
      have Hk : Hid (¬ kd = 8 ∧ ¬ kd = 9) := (show _ ∧ _ from ⟨k8, k9⟩)
      clear k8 k9
      cases bn
      · have Hn : Hid (¬ (1 ≤ n ∧ n ≤ 16)) := (show ¬ _ from by have := Hb.out; simp [inR] at this; omega)
        go_enter Try.func46, Try.ntmps46
        go_wp2_with (first | (go_at_call 33; refine (H1.out _).mono ?_; rintro e w' ⟨rfl, rfl⟩) | fail)
        go_ret
        have e9 : paB p kd n = p := by unfold paB; rw [if_neg Hk.out.1, if_neg Hk.out.2, if_pos Hn.out]
        rw [e9]
        exact ⟨rfl, HB.out⟩
      · have Hn : Hid (1 ≤ n ∧ n ≤ 16) := (show _ ∧ _ from by have := Hb.out; simp [inR] at this; omega)
        obtain ⟨n1, n2⟩ := Hn.out
        have Hx : Hid (paB p kd n = if p < 0 then -n else n) := (show _ = _ from by unfold paB; rw [if_neg Hk.out.1, if_neg Hk.out.2, if_neg (by intro h; exact h Hn.out)])
        rw [Hx.out]
        by_cases p0 : p < 0
        · go_enter Try.func46, Try.ntmps46
          go_wp2_with (first | (go_at_call 33; refine (H1.out _).mono ?_; rintro e w' ⟨rfl, rfl⟩) | fail)
          go_ret
          exact ⟨by first | rfl | (rw [if_pos p0]; rfl), HB.out⟩
        · go_enter Try.func46, Try.ntmps46
          go_wp2_with (first | (go_at_call 33; refine (H1.out _).mono ?_; rintro e w' ⟨rfl, rfl⟩) | fail)
          go_ret
          exact ⟨by first | rfl | (rw [if_neg p0]; rfl), HB.out⟩
end Go.Proofs.Ytfodkackfahldaa.Lo
