import Derived.Test.YtjgjpepmfiklfaaGreatDoorMxp
namespace Go.Proofs.YtjgjpepmfiklfaaGreatDoor.Mx
open Go.RowKit Mb Mh Lo
set_option linter.unusedVariables false
set_option maxRecDepth 100000
set_option linter.unusedSimpArgs false
set_option maxRecDepth 100000 in
set_option maxHeartbeats 1000000 in
theorem same_some (b off b' off' n c c' : Nat) (bs : List Int) (w : World) (hn : bs.length = n) (hlen : n ≤ 140737488355328)
    (h1 : ∀ i, i < n → w.cell? ⟨b, off + i, none⟩ = some (.int .u8 (bs.getD i 0))) (h2 : ∀ i, i < n → w.cell? ⟨b', off' + i, none⟩ = some (.int .u8 (bs.getD i 0))) :
    Calls Tryz.prog 10 #[.slice (some ⟨b, off, none⟩) n c, .slice (some ⟨b', off', none⟩) n c'] w fun e w' => e = .returned (.bool true) ∧ Below w.heap.size w w' := by
  go_enter Tryz.func10, Tryz.ntmps10
  go_wp2
  go_loopw [5] (fun i wr => ∃ k : Nat, k ≤ n ∧ i = .int .i64 k ∧ Below w.heap.size w wr) (fun i _ => n - (intOf i).toNat)
  case atStart => exact ⟨0, Nat.zero_le _, rfl, Below.refl _ _⟩
  case round =>
    obtain ⟨k, hk, rfl, hbel⟩ := hrel
    by_cases hlt : k < n
    · have g1 := h1 k hlt
      have g2 := h2 k hlt
      have g1' : wr.cell? ⟨b, off + k, none⟩ = some (.int .u8 (bs.getD k 0)) := by rw [hbel.cell (World.block_lt_of_cell? w _ g1), g1]
      have g2' : wr.cell? ⟨b', off' + k, none⟩ = some (.int .u8 (bs.getD k 0)) := by rw [hbel.cell (World.block_lt_of_cell? w _ g2), g2]
      clear g1 g2 h1 h2
      generalize bs.getD k 0 = x at *
      have HB : Hid (Below w.heap.size w wr) := hbel
      clear hbel
      go_wp2
      go_quiet (fail)
      go_wp2
      go_roundw
      case rel => exact ⟨k + 1, by omega, by go_num, below_drewN HB.out _⟩
      case measure => simp [intOf]; omega
    · have HB : Hid (Below w.heap.size w wr) := hbel
      clear hbel h1 h2
      go_wp2
      go_ret
      exact ⟨rfl, HB⟩

theorem same_none (ao ao' : Option Addr) (c c' : Nat) (w : World) :
    Calls Tryz.prog 10 #[.slice ao 0 c, .slice ao' 0 c'] w fun e w' => e = .returned (.bool true) ∧ Below w.heap.size w w' := by
  go_enter Tryz.func10, Tryz.ntmps10
  go_wp2
  refine wp_loop_rounds 1 ?_
  rw [rounds_succ]
  go_wp2
  go_ret
  exact ⟨rfl, Below.refl _ _⟩

theorem same_any (ao ao' : Option Addr) (n c c' : Nat) (bs : List Int) (w : World) (h1 : Rd w ao n c bs) (h2 : Rd w ao' n c' bs) (hlen : n ≤ 140737488355328) :
    Calls Tryz.prog 10 #[.slice ao n c, .slice ao' n c'] w fun e w' => e = .returned (.bool true) ∧ Below w.heap.size w w' := by
  obtain ⟨hn, _, hc, _⟩ := h1
  obtain ⟨_, _, hc', _⟩ := h2
  rcases hc with h0 | ⟨b, off, rfl, hc⟩
  · subst h0; exact same_none ao ao' c c' w
  · rcases hc' with h0 | ⟨b', off', rfl, hc'⟩
    · subst h0; exact same_none _ _ c c' w
    · exact same_some b off b' off' n c c' bs w hn hlen hc hc'


theorem own_le {w : World} {base n cap : Nat} {ao : Option Addr} {bs : List Int} (h : Own w base (.slice ao n cap) bs) : n ≤ cap := by
  rcases h.2 with ⟨hv, _⟩ | ⟨g, cap', cur, hv, _, _, hc, _⟩
  · simp only [Value.slice.injEq] at hv
    omega
  · simp only [Value.slice.injEq] at hv
    omega
theorem num_any {w : World} (x : Int) : Calls Tryz.prog 7 #[.int .i64 x] w fun e w' => e = .returned (.int .i64 x) ∧ w = w' := by
  go_enter Tryz.func7, Tryz.ntmps7
  go_wp2
  go_ret
  exact ⟨rfl, rfl⟩
theorem getD_rng {bs : List Int} (h : ∀ x ∈ bs, 0 ≤ x ∧ x ≤ 255) : ∀ i, 0 ≤ bs.getD i 0 ∧ bs.getD i 0 ≤ 255 := fun i => by
  rw [List.getD_eq_getElem?_getD]
  cases hi : bs[i]? with
  | none => simp
  | some x => exact h x (List.mem_of_getElem? hi)
theorem bt_rng (s : ByteArray) : ∀ x ∈ bt s, 0 ≤ x ∧ x ≤ 255 := fun x hx => by
  unfold bt at hx
  obtain ⟨b, _, rfl⟩ := List.mem_map.1 hx
  have := b.toNat_lt
  omega
theorem enc_rng {cl inc req op : Int} {ky v old : ByteArray} (hok : okC cl inc req op ky v old = true) : ∀ i, 0 ≤ (encC cl inc req op ky v old).getD i 0 ∧ (encC cl inc req op ky v old).getD i 0 ≤ 255 := by
  obtain ⟨r1, r2, r3, r4, r5, r6, r7⟩ := okC_rng hok
  refine getD_rng fun x hx => ?_
  have p : ∀ u : Int, 0 ≤ u → u ≤ 4611686018427387904 → ∀ y ∈ Wm.put 8 u, 0 ≤ y ∧ y ≤ 255 := fun u h0 h1 => Wm.put_bytes 8 u h0 (by simp; omega)
  simp only [encC, puts, txts, txt, List.flatMap_cons, List.flatMap_nil, List.append_nil, List.mem_append] at hx
  rcases hx with (h | h | h | h) | (h | h) | (h | h) | (h | h)
  · exact p _ (by omega) (by omega) x h
  · exact p _ (by omega) (by omega) x h
  · exact p _ (by omega) (by omega) x h
  · exact p _ (by omega) (by omega) x h
  · exact p _ (by omega) (by omega) x h
  · exact bt_rng _ x h
  · exact p _ (by omega) (by omega) x h
  · exact bt_rng _ x h
  · exact p _ (by omega) (by omega) x h
  · exact bt_rng _ x h
theorem blk_below {w w' : World} {k : Nat} {cs : Array Value} {t : TypeId} (h : w.heap[k]? = some (.cells cs t (0, 0))) (hb : Below w.heap.size w w') : w'.heap[k]? = some (.cells cs t (0, 0)) := (hb.block k (lt_heap h)).trans h
theorem newcmd (X : World) (v0 v1 v2 v3 v4 v5 v6 : Value) : ∃ A S0 S1 S2 S3 S4 S5 S6 : World, X.alloc (.cells #[.int .i64 0, .int .i64 0, .int .i64 0, .int .i64 0, .string ⟨#[]⟩, .string ⟨#[]⟩, .string ⟨#[]⟩] 23) = A ∧ A.frozen? ⟨X.heap.size, 0, none⟩ = false ∧ A.cell? ⟨X.heap.size, 0, none⟩ = some (.int .i64 0) ∧ A.setCell ⟨X.heap.size, 0, none⟩ v0 = S0 ∧ S0.frozen? ⟨X.heap.size, 1, none⟩ = false ∧ S0.cell? ⟨X.heap.size, 1, none⟩ = some (.int .i64 0) ∧ S0.setCell ⟨X.heap.size, 1, none⟩ v1 = S1 ∧ S1.frozen? ⟨X.heap.size, 2, none⟩ = false ∧ S1.cell? ⟨X.heap.size, 2, none⟩ = some (.int .i64 0) ∧ S1.setCell ⟨X.heap.size, 2, none⟩ v2 = S2 ∧ S2.frozen? ⟨X.heap.size, 3, none⟩ = false ∧ S2.cell? ⟨X.heap.size, 3, none⟩ = some (.int .i64 0) ∧ S2.setCell ⟨X.heap.size, 3, none⟩ v3 = S3 ∧ S3.frozen? ⟨X.heap.size, 4, none⟩ = false ∧ S3.cell? ⟨X.heap.size, 4, none⟩ = some (.string ⟨#[]⟩) ∧ S3.setCell ⟨X.heap.size, 4, none⟩ v4 = S4 ∧ S4.frozen? ⟨X.heap.size, 5, none⟩ = false ∧ S4.cell? ⟨X.heap.size, 5, none⟩ = some (.string ⟨#[]⟩) ∧ S4.setCell ⟨X.heap.size, 5, none⟩ v5 = S5 ∧ S5.frozen? ⟨X.heap.size, 6, none⟩ = false ∧ S5.cell? ⟨X.heap.size, 6, none⟩ = some (.string ⟨#[]⟩) ∧ S5.setCell ⟨X.heap.size, 6, none⟩ v6 = S6 ∧ Hid (S6.heap[X.heap.size]? = some (.cells #[v0, v1, v2, v3, v4, v5, v6] 23 (0, 0))) ∧ Hid (Below X.heap.size X S6) := by
  have b0 : (X.alloc (.cells #[.int .i64 0, .int .i64 0, .int .i64 0, .int .i64 0, .string ⟨#[]⟩, .string ⟨#[]⟩, .string ⟨#[]⟩] 23)).heap[X.heap.size]? = some (.cells #[.int .i64 0, .int .i64 0, .int .i64 0, .int .i64 0, .string ⟨#[]⟩, .string ⟨#[]⟩, .string ⟨#[]⟩] 23 (0, 0)) := heap_alloc_new X _
  have l0 : Below X.heap.size X (X.alloc (.cells #[.int .i64 0, .int .i64 0, .int .i64 0, .int .i64 0, .string ⟨#[]⟩, .string ⟨#[]⟩, .string ⟨#[]⟩] 23)) := balloc (Below.refl _ _)
  have b1 : ((X.alloc (.cells #[.int .i64 0, .int .i64 0, .int .i64 0, .int .i64 0, .string ⟨#[]⟩, .string ⟨#[]⟩, .string ⟨#[]⟩] 23)).setCell ⟨X.heap.size, 0, none⟩ v0).heap[X.heap.size]? = some (.cells #[v0, .int .i64 0, .int .i64 0, .int .i64 0, .string ⟨#[]⟩, .string ⟨#[]⟩, .string ⟨#[]⟩] 23 (0, 0)) := blk_set b0 rfl
  have l1 : Below X.heap.size X ((X.alloc (.cells #[.int .i64 0, .int .i64 0, .int .i64 0, .int .i64 0, .string ⟨#[]⟩, .string ⟨#[]⟩, .string ⟨#[]⟩] 23)).setCell ⟨X.heap.size, 0, none⟩ v0) := l0.trans ((kset (P := fun j => j = X.heap.size) _ _ _ _ rfl).below l0.size (fun j hj e => by omega))
  have b2 : (((X.alloc (.cells #[.int .i64 0, .int .i64 0, .int .i64 0, .int .i64 0, .string ⟨#[]⟩, .string ⟨#[]⟩, .string ⟨#[]⟩] 23)).setCell ⟨X.heap.size, 0, none⟩ v0).setCell ⟨X.heap.size, 1, none⟩ v1).heap[X.heap.size]? = some (.cells #[v0, v1, .int .i64 0, .int .i64 0, .string ⟨#[]⟩, .string ⟨#[]⟩, .string ⟨#[]⟩] 23 (0, 0)) := blk_set b1 rfl
  have l2 : Below X.heap.size X (((X.alloc (.cells #[.int .i64 0, .int .i64 0, .int .i64 0, .int .i64 0, .string ⟨#[]⟩, .string ⟨#[]⟩, .string ⟨#[]⟩] 23)).setCell ⟨X.heap.size, 0, none⟩ v0).setCell ⟨X.heap.size, 1, none⟩ v1) := l1.trans ((kset (P := fun j => j = X.heap.size) _ _ _ _ rfl).below l1.size (fun j hj e => by omega))
  have b3 : ((((X.alloc (.cells #[.int .i64 0, .int .i64 0, .int .i64 0, .int .i64 0, .string ⟨#[]⟩, .string ⟨#[]⟩, .string ⟨#[]⟩] 23)).setCell ⟨X.heap.size, 0, none⟩ v0).setCell ⟨X.heap.size, 1, none⟩ v1).setCell ⟨X.heap.size, 2, none⟩ v2).heap[X.heap.size]? = some (.cells #[v0, v1, v2, .int .i64 0, .string ⟨#[]⟩, .string ⟨#[]⟩, .string ⟨#[]⟩] 23 (0, 0)) := blk_set b2 rfl
  have l3 : Below X.heap.size X ((((X.alloc (.cells #[.int .i64 0, .int .i64 0, .int .i64 0, .int .i64 0, .string ⟨#[]⟩, .string ⟨#[]⟩, .string ⟨#[]⟩] 23)).setCell ⟨X.heap.size, 0, none⟩ v0).setCell ⟨X.heap.size, 1, none⟩ v1).setCell ⟨X.heap.size, 2, none⟩ v2) := l2.trans ((kset (P := fun j => j = X.heap.size) _ _ _ _ rfl).below l2.size (fun j hj e => by omega))
  have b4 : (((((X.alloc (.cells #[.int .i64 0, .int .i64 0, .int .i64 0, .int .i64 0, .string ⟨#[]⟩, .string ⟨#[]⟩, .string ⟨#[]⟩] 23)).setCell ⟨X.heap.size, 0, none⟩ v0).setCell ⟨X.heap.size, 1, none⟩ v1).setCell ⟨X.heap.size, 2, none⟩ v2).setCell ⟨X.heap.size, 3, none⟩ v3).heap[X.heap.size]? = some (.cells #[v0, v1, v2, v3, .string ⟨#[]⟩, .string ⟨#[]⟩, .string ⟨#[]⟩] 23 (0, 0)) := blk_set b3 rfl
  have l4 : Below X.heap.size X (((((X.alloc (.cells #[.int .i64 0, .int .i64 0, .int .i64 0, .int .i64 0, .string ⟨#[]⟩, .string ⟨#[]⟩, .string ⟨#[]⟩] 23)).setCell ⟨X.heap.size, 0, none⟩ v0).setCell ⟨X.heap.size, 1, none⟩ v1).setCell ⟨X.heap.size, 2, none⟩ v2).setCell ⟨X.heap.size, 3, none⟩ v3) := l3.trans ((kset (P := fun j => j = X.heap.size) _ _ _ _ rfl).below l3.size (fun j hj e => by omega))
  have b5 : ((((((X.alloc (.cells #[.int .i64 0, .int .i64 0, .int .i64 0, .int .i64 0, .string ⟨#[]⟩, .string ⟨#[]⟩, .string ⟨#[]⟩] 23)).setCell ⟨X.heap.size, 0, none⟩ v0).setCell ⟨X.heap.size, 1, none⟩ v1).setCell ⟨X.heap.size, 2, none⟩ v2).setCell ⟨X.heap.size, 3, none⟩ v3).setCell ⟨X.heap.size, 4, none⟩ v4).heap[X.heap.size]? = some (.cells #[v0, v1, v2, v3, v4, .string ⟨#[]⟩, .string ⟨#[]⟩] 23 (0, 0)) := blk_set b4 rfl
  have l5 : Below X.heap.size X ((((((X.alloc (.cells #[.int .i64 0, .int .i64 0, .int .i64 0, .int .i64 0, .string ⟨#[]⟩, .string ⟨#[]⟩, .string ⟨#[]⟩] 23)).setCell ⟨X.heap.size, 0, none⟩ v0).setCell ⟨X.heap.size, 1, none⟩ v1).setCell ⟨X.heap.size, 2, none⟩ v2).setCell ⟨X.heap.size, 3, none⟩ v3).setCell ⟨X.heap.size, 4, none⟩ v4) := l4.trans ((kset (P := fun j => j = X.heap.size) _ _ _ _ rfl).below l4.size (fun j hj e => by omega))
  have b6 : (((((((X.alloc (.cells #[.int .i64 0, .int .i64 0, .int .i64 0, .int .i64 0, .string ⟨#[]⟩, .string ⟨#[]⟩, .string ⟨#[]⟩] 23)).setCell ⟨X.heap.size, 0, none⟩ v0).setCell ⟨X.heap.size, 1, none⟩ v1).setCell ⟨X.heap.size, 2, none⟩ v2).setCell ⟨X.heap.size, 3, none⟩ v3).setCell ⟨X.heap.size, 4, none⟩ v4).setCell ⟨X.heap.size, 5, none⟩ v5).heap[X.heap.size]? = some (.cells #[v0, v1, v2, v3, v4, v5, .string ⟨#[]⟩] 23 (0, 0)) := blk_set b5 rfl
  have l6 : Below X.heap.size X (((((((X.alloc (.cells #[.int .i64 0, .int .i64 0, .int .i64 0, .int .i64 0, .string ⟨#[]⟩, .string ⟨#[]⟩, .string ⟨#[]⟩] 23)).setCell ⟨X.heap.size, 0, none⟩ v0).setCell ⟨X.heap.size, 1, none⟩ v1).setCell ⟨X.heap.size, 2, none⟩ v2).setCell ⟨X.heap.size, 3, none⟩ v3).setCell ⟨X.heap.size, 4, none⟩ v4).setCell ⟨X.heap.size, 5, none⟩ v5) := l5.trans ((kset (P := fun j => j = X.heap.size) _ _ _ _ rfl).below l5.size (fun j hj e => by omega))
  have b7 : ((((((((X.alloc (.cells #[.int .i64 0, .int .i64 0, .int .i64 0, .int .i64 0, .string ⟨#[]⟩, .string ⟨#[]⟩, .string ⟨#[]⟩] 23)).setCell ⟨X.heap.size, 0, none⟩ v0).setCell ⟨X.heap.size, 1, none⟩ v1).setCell ⟨X.heap.size, 2, none⟩ v2).setCell ⟨X.heap.size, 3, none⟩ v3).setCell ⟨X.heap.size, 4, none⟩ v4).setCell ⟨X.heap.size, 5, none⟩ v5).setCell ⟨X.heap.size, 6, none⟩ v6).heap[X.heap.size]? = some (.cells #[v0, v1, v2, v3, v4, v5, v6] 23 (0, 0)) := blk_set b6 rfl
  have l7 : Below X.heap.size X ((((((((X.alloc (.cells #[.int .i64 0, .int .i64 0, .int .i64 0, .int .i64 0, .string ⟨#[]⟩, .string ⟨#[]⟩, .string ⟨#[]⟩] 23)).setCell ⟨X.heap.size, 0, none⟩ v0).setCell ⟨X.heap.size, 1, none⟩ v1).setCell ⟨X.heap.size, 2, none⟩ v2).setCell ⟨X.heap.size, 3, none⟩ v3).setCell ⟨X.heap.size, 4, none⟩ v4).setCell ⟨X.heap.size, 5, none⟩ v5).setCell ⟨X.heap.size, 6, none⟩ v6) := l6.trans ((kset (P := fun j => j = X.heap.size) _ _ _ _ rfl).below l6.size (fun j hj e => by omega))
  exact ⟨_, _, _, _, _, _, _, _, rfl, frozen_of_row _ _ _ _ _ b0, blk_cell b0 0, rfl, frozen_of_row _ _ _ _ _ b1, blk_cell b1 1, rfl, frozen_of_row _ _ _ _ _ b2, blk_cell b2 2, rfl, frozen_of_row _ _ _ _ _ b3, blk_cell b3 3, rfl, frozen_of_row _ _ _ _ _ b4, blk_cell b4 4, rfl, frozen_of_row _ _ _ _ _ b5, blk_cell b5 5, rfl, frozen_of_row _ _ _ _ _ b6, blk_cell b6 6, rfl, b7, l7⟩
end Go.Proofs.YtjgjpepmfiklfaaGreatDoor.Mx
