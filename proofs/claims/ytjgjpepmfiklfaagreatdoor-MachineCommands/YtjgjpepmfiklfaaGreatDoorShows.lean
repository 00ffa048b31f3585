import Derived.Test.YtjgjpepmfiklfaaGreatDoorBook
namespace Go.Proofs.YtjgjpepmfiklfaaGreatDoor.Bk
open Go.RowKit Lo
set_option linter.unusedVariables false

def pgCells (B G V : Value) (id : Int) (dn : Bool) : Array Value := #[B, G, V, .int .i64 id, .bool dn]

set_option maxRecDepth 100000 in
set_option maxHeartbeats 2000000 in
theorem shows_fresh_some (bb bo cB vb vo cV n : Nat) (G : Value) (id : Int) (bs : List Int) (w : World) (hlen : n ≤ 140737488355328)
    (hb : ∀ i, i < n → w.cell? ⟨bb, bo + i, none⟩ = some (.int .u8 (bs.getD i 0))) (hv : ∀ i, i < n → w.cell? ⟨vb, vo + i, none⟩ = some (.int .u8 (bs.getD i 0))) :
    Calls Tryz.prog 41 #[.agg #[.slice (some ⟨bb, bo, none⟩) n cB, G, .slice (some ⟨vb, vo, none⟩) n cV, .int .i64 id, .bool false]] w fun e w' => e = .returned (.bool true) ∧ Below w.heap.size w w' := by
  have hne : ((n : Int) != (n : Int)) = false := by simp
  go_enter Tryz.func41, Tryz.ntmps41
  go_wp2
  go_loopw [4] (fun i wr => ∃ k : Nat, k ≤ n ∧ i = .int .i64 k ∧ Below (w.heap.size + 1) (w.alloc (.cells #[.slice (some ⟨bb, bo, none⟩) n cB, G, .slice (some ⟨vb, vo, none⟩) n cV, .int .i64 id, .bool false] 75)) wr) (fun i _ => n - (intOf i).toNat)
  case atStart => exact ⟨0, Nat.zero_le _, rfl, Below.refl _ _⟩
  case round =>
    obtain ⟨k, hk, rfl, hbel⟩ := hrel
    have hb0 : Below w.heap.size w wr := ((Below.refl _ _).alloc (Nat.le_refl _) _).trans (hbel.mono (by omega))
    by_cases hlt : k < n
    · have g1 := hb k hlt
      have g2 := hv k hlt
      have e1 := (hb0.cell (World.block_lt_of_cell? w _ g1)).trans g1
      have e2 := (hb0.cell (World.block_lt_of_cell? w _ g2)).trans g2
      have p0 : wr.cell? ⟨w.heap.size, 0, none⟩ = some (.slice (some ⟨bb, bo, none⟩) n cB) := (hbel.cell (by simp)).trans (by simp)
      have p2 : wr.cell? ⟨w.heap.size, 2, none⟩ = some (.slice (some ⟨vb, vo, none⟩) n cV) := (hbel.cell (by simp)).trans (by simp)
      generalize bs.getD k 0 = x at *
      have HB : Hid (Below (w.heap.size + 1) (w.alloc (.cells #[.slice (some ⟨bb, bo, none⟩) n cB, G, .slice (some ⟨vb, vo, none⟩) n cV, .int .i64 id, .bool false] 75)) wr) := hbel
      clear hb hv g1 g2 hb0 hbel
      have i1 : (0 : Int) ≤ (k : Int) := Int.natCast_nonneg _
      have i2 : (k : Int) < (n : Int) := by omega
      go_wp2_with fail
      go_quiet (fail)
      go_wp2
      go_roundw
      case rel => exact ⟨k + 1, by omega, by go_num, below_drewN HB.out _⟩
      case measure => simp [intOf]; omega
    · clear hb hv
      have HB : Hid (Below w.heap.size w wr) := hb0
      clear hbel hb0
      go_wp2
      go_ret
      exact ⟨rfl, HB⟩

set_option maxRecDepth 100000 in
set_option maxHeartbeats 2000000 in
theorem shows_fresh_none (aB : Option Addr) (cB : Nat) (aV : Option Addr) (cV : Nat) (G : Value) (id : Int) (w : World) :
    Calls Tryz.prog 41 #[.agg #[.slice aB 0 cB, G, .slice aV 0 cV, .int .i64 id, .bool false]] w fun e w' => e = .returned (.bool true) ∧ Below w.heap.size w w' := by
  go_enter Tryz.func41, Tryz.ntmps41
  go_wp2
  refine wp_loop_rounds 1 ?_
  rw [rounds_succ]
  go_wp2
  go_ret
  exact ⟨rfl, (Below.refl _ _).alloc (Nat.le_refl _) _⟩

theorem own_shape {w : World} {base : Nat} {v : Value} {bs : List Int} (h : Own w base v bs) : (bs = [] ∧ ∃ a c, v = .slice a 0 c) ∨ (0 < bs.length ∧ ∃ g c, v = .slice (some ⟨g, 0, none⟩) bs.length c ∧ ∀ i, i < bs.length → w.cell? ⟨g, 0 + i, none⟩ = some (.int .u8 (bs.getD i 0))) := by
  by_cases h0 : bs.length = 0
  · obtain rfl := List.eq_nil_of_length_eq_zero h0
    rcases h.2 with ⟨h1, _⟩ | ⟨g, c, cur, hv, _⟩
    · exact .inl ⟨rfl, _, _, h1⟩
    · exact .inl ⟨rfl, _, _, hv⟩
  · rcases h.2 with ⟨_, h1⟩ | ⟨g, c, cur, hv, _⟩
    · omega
    · subst hv
      exact .inr ⟨by omega, g, c, rfl, h.cellAll⟩

theorem shows_fresh (B G V : Value) (id : Int) (base : Nat) (bs : List Int) (w : World) (hB : Own w base B bs) (hV : Own w base V bs) (hlen : bs.length ≤ 140737488355328) :
    Calls Tryz.prog 41 #[.agg #[B, G, V, .int .i64 id, .bool false]] w fun e w' => e = .returned (.bool true) ∧ Below w.heap.size w w' := by
  rcases own_shape hB with ⟨rfl, a, c, rfl⟩ | ⟨h0, g, c, rfl, hb⟩
  · rcases own_shape hV with ⟨_, a', c', rfl⟩ | ⟨h, _⟩
    · exact shows_fresh_none a c a' c' G id w
    · simp at h
  · rcases own_shape hV with ⟨rfl, _⟩ | ⟨_, g', c', rfl, hv⟩
    · simp at h0
    · exact shows_fresh_some g 0 c g' 0 c' bs.length G id bs w hlen hb hv

theorem pat_eq (id k x : Int) (w : World) (h0 : 0 ≤ id) (h1 : id ≤ 10000000) (h2 : 0 ≤ k) (h3 : k ≤ 281474976710656) (hx : x = pat id k) :
    Calls Tryz.prog 33 #[.int .i64 id, .int .i64 k] w fun e w' => e = .returned (.int .u8 x) ∧ w' = w := by
  rw [hx]; exact pat_same id k w h0 h1 h2 h3

set_option maxRecDepth 100000 in
set_option maxHeartbeats 2000000 in
theorem shows_done_some (bb bo cB gb go' cG n : Nat) (V : Value) (id : Int) (w : World) (hlen : n ≤ 140737488355264) (h0 : 0 ≤ id) (h1 : id ≤ 1000000)
    (hb : ∀ i, i < n → w.cell? ⟨bb, bo + i, none⟩ = some (.int .u8 (pat id (i : Int)))) (hg : ∀ i, i < n → w.cell? ⟨gb, go' + i, none⟩ = some (.int .u8 (pat id (i : Int))))
    (hg2 : ∀ i, i < 64 → w.cell? ⟨gb, go' + (n + i), none⟩ = some (.int .u8 (pat (id + 100000) (i : Int)))) :
    Calls Tryz.prog 41 #[.agg #[.slice (some ⟨bb, bo, none⟩) n cB, .slice (some ⟨gb, go', none⟩) (n + 64) cG, V, .int .i64 id, .bool true]] w fun e w' => e = .returned (.bool true) ∧ Below w.heap.size w w' := by
  go_enter Tryz.func41, Tryz.ntmps41
  go_wp2
  go_loopw [5] (fun i wr => ∃ k : Nat, k ≤ n ∧ i = .int .i64 k ∧ Below (w.heap.size + 1) (w.alloc (.cells #[.slice (some ⟨bb, bo, none⟩) n cB, .slice (some ⟨gb, go', none⟩) (n + 64) cG, V, .int .i64 id, .bool true] 75)) wr) (fun i _ => n - (intOf i).toNat)
  case atStart => exact ⟨0, Nat.zero_le _, rfl, Below.refl _ _⟩
  case round =>
    obtain ⟨k, hk, rfl, hbel⟩ := hrel
    have hb0 : Below w.heap.size w wr := ((Below.refl _ _).alloc (Nat.le_refl _) _).trans (hbel.mono (by omega))
    by_cases hlt : k < n
    · have g1 := hb k hlt
      have g2 := hg k hlt
      have e1 := (hb0.cell (World.block_lt_of_cell? w _ g1)).trans g1
      have e2 := (hb0.cell (World.block_lt_of_cell? w _ g2)).trans g2
      have p0 : wr.cell? ⟨w.heap.size, 0, none⟩ = some (.slice (some ⟨bb, bo, none⟩) n cB) := (hbel.cell (by simp)).trans (by simp)
      have p1 : wr.cell? ⟨w.heap.size, 1, none⟩ = some (.slice (some ⟨gb, go', none⟩) (n + 64) cG) := (hbel.cell (by simp)).trans (by simp)
      have p3 : wr.cell? ⟨w.heap.size, 3, none⟩ = some (.int .i64 id) := (hbel.cell (by simp)).trans (by simp)
      have HB : Hid (Below (w.heap.size + 1) (w.alloc (.cells #[.slice (some ⟨bb, bo, none⟩) n cB, .slice (some ⟨gb, go', none⟩) (n + 64) cG, V, .int .i64 id, .bool true] 75)) wr) := hbel
      clear hb hg hg2 g1 g2 hb0 hbel
      obtain ⟨x, hx⟩ : ∃ x, x = pat id (k : Int) := ⟨_, rfl⟩
      have Hx : Hid (x = pat id (k : Int)) := hx
      rw [← hx] at e1 e2
      clear hx
      have i1 : (0 : Int) ≤ (k : Int) := Int.natCast_nonneg _
      have i2 : (k : Int) < (n : Int) := by omega
      have i3 : (k : Int) < (n : Int) + 64 := by omega
      have b1 : (x != x) = false := by simp
      go_wp2_with fail
      go_quiet ((go_at_call 33; exact Calls.quiet_of_same (pat_eq _ _ _ _ h0 (by omega) i1 (by omega) Hx)))
      go_wp2
      go_roundw
      case rel => exact ⟨k + 1, by omega, by go_num, below_drewN HB.out _⟩
      case measure => simp [intOf]; omega
    · have HB : Hid (Below (w.heap.size + 1) (w.alloc (.cells #[.slice (some ⟨bb, bo, none⟩) n cB, .slice (some ⟨gb, go', none⟩) (n + 64) cG, V, .int .i64 id, .bool true] 75)) wr) := hbel
      clear hb hg hbel hb0
      go_wp2
      go_loopw [6] (fun i wr => ∃ k : Nat, k ≤ 64 ∧ i = .int .i64 k ∧ Below (w.heap.size + 1) (w.alloc (.cells #[.slice (some ⟨bb, bo, none⟩) n cB, .slice (some ⟨gb, go', none⟩) (n + 64) cG, V, .int .i64 id, .bool true] 75)) wr) (fun i _ => 64 - (intOf i).toNat)
      case atStart => exact ⟨0, Nat.zero_le _, rfl, HB⟩
      case round =>
        obtain ⟨j, hj, rfl, hbel⟩ := hrel
        have hb0 : Below w.heap.size w wr := ((Below.refl _ _).alloc (Nat.le_refl _) _).trans (hbel.mono (by omega))
        by_cases hjl : j < 64
        · have g1 := hg2 j hjl
          have e1 := (hb0.cell (World.block_lt_of_cell? w _ g1)).trans g1
          have p1 : wr.cell? ⟨w.heap.size, 1, none⟩ = some (.slice (some ⟨gb, go', none⟩) (n + 64) cG) := (hbel.cell (by simp)).trans (by simp)
          have p3 : wr.cell? ⟨w.heap.size, 3, none⟩ = some (.int .i64 id) := (hbel.cell (by simp)).trans (by simp)
          have HB2 : Hid (Below (w.heap.size + 1) (w.alloc (.cells #[.slice (some ⟨bb, bo, none⟩) n cB, .slice (some ⟨gb, go', none⟩) (n + 64) cG, V, .int .i64 id, .bool true] 75)) wr) := hbel
          clear hg2 g1 hb0 hbel
          obtain ⟨x, hx⟩ : ∃ x, x = pat (id + 100000) (j : Int) := ⟨_, rfl⟩
          have Hx : Hid (x = pat (id + 100000) (j : Int)) := hx
          rw [← hx] at e1
          clear hx
          have i1 : (0 : Int) ≤ (j : Int) := Int.natCast_nonneg _
          have i2 : (n : Int) + (j : Int) < (n : Int) + 64 := by omega
          have i3 : (0 : Int) ≤ (n : Int) + (j : Int) := by omega
          go_wp2_with fail
          go_quiet ((go_at_call 33; exact Calls.quiet_of_same (pat_eq _ _ _ _ (by omega) (by omega) i1 (by omega) Hx)))
          go_wp2
          go_roundw
          case rel => exact ⟨j + 1, by omega, by go_num, below_drewN HB2.out _⟩
          case measure => simp [intOf]; omega
        · clear hg2
          have HB2 : Hid (Below w.heap.size w wr) := hb0
          clear hbel hb0
          go_wp2
          go_ret
          exact ⟨rfl, HB2⟩

set_option maxRecDepth 100000 in
set_option maxHeartbeats 2000000 in
theorem shows_done_none (aB : Option Addr) (cB gb go' cG : Nat) (V : Value) (id : Int) (w : World) (h0 : 0 ≤ id) (h1 : id ≤ 1000000)
    (hg2 : ∀ i, i < 64 → w.cell? ⟨gb, go' + i, none⟩ = some (.int .u8 (pat (id + 100000) (i : Int)))) :
    Calls Tryz.prog 41 #[.agg #[.slice aB 0 cB, .slice (some ⟨gb, go', none⟩) 64 cG, V, .int .i64 id, .bool true]] w fun e w' => e = .returned (.bool true) ∧ Below w.heap.size w w' := by
  have HB : Hid (Below (w.heap.size + 1) (w.alloc (.cells #[.slice aB 0 cB, .slice (some ⟨gb, go', none⟩) 64 cG, V, .int .i64 id, .bool true] 75)) (w.alloc (.cells #[.slice aB 0 cB, .slice (some ⟨gb, go', none⟩) 64 cG, V, .int .i64 id, .bool true] 75))) := Below.refl _ _
  go_enter Tryz.func41, Tryz.ntmps41
  go_wp2
  refine wp_loop_rounds 1 ?_
  rw [rounds_succ]
  go_wp2
  go_loopw [6] (fun i wr => ∃ k : Nat, k ≤ 64 ∧ i = .int .i64 k ∧ Below (w.heap.size + 1) (w.alloc (.cells #[.slice aB 0 cB, .slice (some ⟨gb, go', none⟩) 64 cG, V, .int .i64 id, .bool true] 75)) wr) (fun i _ => 64 - (intOf i).toNat)
  case atStart => exact ⟨0, Nat.zero_le _, rfl, HB⟩
  case round =>
    obtain ⟨j, hj, rfl, hbel⟩ := hrel
    have hb0 : Below w.heap.size w wr := ((Below.refl _ _).alloc (Nat.le_refl _) _).trans (hbel.mono (by omega))
    by_cases hjl : j < 64
    · have g1 := hg2 j hjl
      have e1 := (hb0.cell (World.block_lt_of_cell? w _ g1)).trans g1
      have p1 : wr.cell? ⟨w.heap.size, 1, none⟩ = some (.slice (some ⟨gb, go', none⟩) 64 cG) := (hbel.cell (by simp)).trans (by simp)
      have p3 : wr.cell? ⟨w.heap.size, 3, none⟩ = some (.int .i64 id) := (hbel.cell (by simp)).trans (by simp)
      have HB2 : Hid (Below (w.heap.size + 1) (w.alloc (.cells #[.slice aB 0 cB, .slice (some ⟨gb, go', none⟩) 64 cG, V, .int .i64 id, .bool true] 75)) wr) := hbel
      clear hg2 g1 hb0 hbel
      obtain ⟨x, hx⟩ : ∃ x, x = pat (id + 100000) (j : Int) := ⟨_, rfl⟩
      have Hx : Hid (x = pat (id + 100000) (j : Int)) := hx
      rw [← hx] at e1
      clear hx
      have i1 : (0 : Int) ≤ (j : Int) := Int.natCast_nonneg _
      have i2 : (j : Int) < 64 := by omega
      go_wp2_with fail
      go_quiet ((go_at_call 33; exact Calls.quiet_of_same (pat_eq _ _ _ _ (by omega) (by omega) i1 (by omega) Hx)))
      go_wp2
      go_roundw
      case rel => exact ⟨j + 1, by omega, by go_num, below_drewN HB2.out _⟩
      case measure => simp [intOf]; omega
    · clear hg2
      have HB2 : Hid (Below w.heap.size w wr) := hb0
      clear hbel hb0
      go_wp2
      go_ret
      exact ⟨rfl, HB2⟩

theorem shows_done (B G V : Value) (id : Int) (base n : Nat) (w : World) (hB : Own w base B (pats id n)) (hG : Own w base G (pats id n ++ pats (id + 100000) 64)) (hlen : n ≤ 140737488355264) (h0 : 0 ≤ id) (h1 : id ≤ 1000000) :
    Calls Tryz.prog 41 #[.agg #[B, G, V, .int .i64 id, .bool true]] w fun e w' => e = .returned (.bool true) ∧ Below w.heap.size w w' := by
  rcases own_shape hG with ⟨h, _⟩ | ⟨_, gb, cG, rfl, hg⟩
  · have := congrArg List.length h
    simp [pats_len] at this
  · have hgl : (pats id n ++ pats (id + 100000) 64).length = n + 64 := by simp [pats_len]
    rw [hgl] at hg ⊢
    have g1 : ∀ i, i < n → w.cell? ⟨gb, 0 + i, none⟩ = some (.int .u8 (pat id (i : Int))) := by
      intro i hi
      rw [hg i (by omega)]
      have e : (pats id n ++ pats (id + 100000) 64).getD i 0 = (pats id n).getD i 0 := by simp only [List.getD]; rw [List.getElem?_append_left (by rw [pats_len]; exact hi)]
      rw [e, pats_get id n i hi]
    have g2 : ∀ i, i < 64 → w.cell? ⟨gb, 0 + (n + i), none⟩ = some (.int .u8 (pat (id + 100000) (i : Int))) := by
      intro i hi
      rw [hg (n + i) (by omega)]
      have e : (pats id n ++ pats (id + 100000) 64).getD (n + i) 0 = (pats (id + 100000) 64).getD i 0 := by simp only [List.getD]; rw [List.getElem?_append_right (by rw [pats_len]; omega), pats_len]; congr 2; omega
      rw [e, pats_get _ 64 i hi]
    rcases own_shape hB with ⟨h, a, c, rfl⟩ | ⟨_, bb, cB, rfl, hb⟩
    · obtain rfl : n = 0 := by have := congrArg List.length h; simpa [pats_len] using this
      exact shows_done_none a c gb 0 cG V id w h0 h1 (by simpa using g2)
    · rw [pats_len] at hb ⊢
      exact shows_done_some bb 0 cB gb 0 cG n V id w hlen h0 h1 (fun i hi => by rw [hb i hi, pats_get id n i hi]) g1 g2

end Go.Proofs.YtjgjpepmfiklfaaGreatDoor.Bk
