import Derived.Test.YtnhhjelplmdloaaV10
namespace Go.Proofs.Ytnhhjelplmdloaa.Et
open Go.RowKit Go.Maps
set_option linter.unusedVariables false
set_option linter.unusedSimpArgs false
set_option maxRecDepth 100000
section
variable {E E' : En} {w w' W w1 : World} {B m : Nat}
def badNew (n r : Int) : Prop := n < 1 ∨ 16 < n ∨ r < 1 ∨ 20000 < r
set_option maxHeartbeats 400000 in
theorem new_no (n r : Int) (hb : badNew n r) : Calls Try.prog 6 #[.int .i64 n, .int .i64 r] w fun e w' => e = .returned (.tuple #[.pointer none, .int .i64 1]) ∧ w = w' := by
  unfold badNew at hb
  go_enter Try.func6, Try.ntmps6
  go_wp2
  all_goals first | (exfalso; omega) | (go_ret2; exact ⟨rfl, rfl⟩)
theorem info_node : (Try.prog.info? 78).map (fun i => (i.zero, i.size, i.bytes)) = some (some (.agg #[.bool false, .int .i64 0, .int .i64 0]), 3, 24) := by kernel_rfl
def newE (b bn bc bd n : Nat) (r : Int) (k : Nat) : En := ⟨b, bn, bc, bd, n, 0, r, 0, fun i => decide (i < k), fun i => if i < k then 1 else 0, fun _ => 0, fun _ _ => false, fun _ _ => 1, none, 0, []⟩
theorem node_zero (n : Nat) (p : Nat) (hp : p < n) : (madeCells #[.bool false, .int .i64 0, .int .i64 0] (n * 3))[p * 3]? = some (.bool false) ∧ (madeCells #[.bool false, .int .i64 0, .int .i64 0] (n * 3))[p * 3 + 1]? = some (.int .i64 0) ∧ (madeCells #[.bool false, .int .i64 0, .int .i64 0] (n * 3))[p * 3 + 2]? = some (.int .i64 0) := by
  have h0 : p * 3 < n * 3 := by omega
  have h1 : p * 3 + 1 < n * 3 := by omega
  have h2 : p * 3 + 2 < n * 3 := by omega
  unfold madeCells
  simp only [Array.getElem?_map, Array.getElem?_range, h0, h1, h2, if_true, Option.map_some]
  have e0 : p * 3 % 3 = 0 := by omega
  have e1 : (p * 3 + 1) % 3 = 1 := by omega
  have e2 : (p * 3 + 2) % 3 = 2 := by omega
  simp [e0, e1, e2]
theorem new_first {w w1 : World} (n : Nat) (r : Int) (h1 : 1 ≤ n) (h2 : n ≤ 16) (hown : w1.ownsRow w.heap.size 78 3 (.slice (some ⟨w.heap.size, 0, none⟩) n n) n (madeCells #[.bool false, .int .i64 0, .int .i64 0] (n * 3)).toList) (hb : Below w.heap.size w w1) :
    En.Ok (newE (w1.heap.size + 1 + 1) w.heap.size w1.heap.size (w1.heap.size + 1) n r 0) (((w1.alloc (.map #[] 0)).alloc (.map #[] 0)).alloc (.cells #[.int .i64 0, .slice (some ⟨w.heap.size, 0, none⟩) n n, .map (some w1.heap.size), .map (some (w1.heap.size + 1)), .int .i64 r, .int .i64 0, .slice none 0 0] 76)) w.heap.size 0 ∧
    Below w.heap.size w (((w1.alloc (.map #[] 0)).alloc (.map #[] 0)).alloc (.cells #[.int .i64 0, .slice (some ⟨w.heap.size, 0, none⟩) n n, .map (some w1.heap.size), .map (some (w1.heap.size + 1)), .int .i64 r, .int .i64 0, .slice none 0 0] 76)) := by
  have hsz := hb.size
  have hlt : w.heap.size < w1.heap.size := by
    obtain ⟨cur, hc⟩ := row_ty hown (j := w.heap.size) rfl
    exact lt_heap hc
  generalize hX : (Obj.cells #[.int .i64 0, .slice (some ⟨w.heap.size, 0, none⟩) n n, .map (some w1.heap.size), .map (some (w1.heap.size + 1)), .int .i64 r, .int .i64 0, .slice none 0 0] 76) = X
  have hbk : heap_alloc_new ((w1.alloc (.map #[] 0)).alloc (.map #[] 0)) X = heap_alloc_new ((w1.alloc (.map #[] 0)).alloc (.map #[] 0)) X := rfl
  have hB : (((w1.alloc (.map #[] 0)).alloc (.map #[] 0)).alloc X).heap[w1.heap.size + 1 + 1]? = some X := by
    have := heap_alloc_new ((w1.alloc (.map #[] 0)).alloc (.map #[] 0)) X
    simpa using this
  have a1 := World.ownsMap_made (H := Unit) w1 Try.prog 80 unitElem
  have a2 := World.ownsMap_made (H := Unit) (w1.alloc (.map #[] 0)) Try.prog 80 (plainElem Try.prog 3)
  have hs1 : (w1.alloc (.map #[] 0)).heap.size = w1.heap.size + 1 := by simp
  rw [hs1] at a2
  refine ⟨⟨?_, ?_, ?_, ?_, ⟨?_, ?_, ?_⟩, ?_, ?_, ⟨h1, h2⟩, ?_, ?_⟩, balloc (balloc (balloc hb))⟩
  · show (((w1.alloc (.map #[] 0)).alloc (.map #[] 0)).alloc X).heap[w1.heap.size + 1 + 1]? = _
    rw [hB, ← hX]
    rfl
  · rcases hown.2 with ⟨e1, e2⟩ | ⟨g, cap, cur, hv, hg0, hg, hnc, hcm, hcs, htk⟩
    · simp at e1
    · simp at hv
      obtain ⟨rfl, rfl⟩ := hv
      have hcur : cur = madeCells #[.bool false, .int .i64 0, .int .i64 0] (n * 3) := by
        have e3 : cur.toList = (madeCells #[.bool false, .int .i64 0, .int .i64 0] (n * 3)).toList := by
          rw [← htk, List.take_of_length_le (by simp; omega)]
        exact Array.toList_inj.1 e3
      subst hcur
      refine ⟨_, blk_alloc (blk_alloc (blk_alloc hg)), by simp [size_madeCells, newE], fun p hp => ?_⟩
      obtain ⟨z0, z1, z2⟩ := node_zero n p hp
      exact ⟨by rw [z0]; simp [newE], by rw [z1]; simp [newE], z2⟩
  · exact ⟨.map [], (a1.alloc _).alloc _, fun p q _ _ => rfl⟩
  · refine ⟨.map [], a2.alloc _, fun p q _ _ => ⟨rfl, rfl⟩⟩
  · exact ⟨rfl, .inl ⟨rfl, rfl⟩⟩
  · intro f hf; cases hf
  · exact List.Pairwise.nil
  · exact ⟨by show w.heap.size ≤ w1.heap.size + 1 + 1; omega, Nat.le_refl _, by show w.heap.size ≤ w1.heap.size; omega, by show w.heap.size ≤ w1.heap.size + 1; omega⟩
  · show w1.heap.size ≠ w1.heap.size + 1; omega
  · intro f hf; cases hf
  · intro p q _ _; show (1 : Int) ≤ 1 ∧ (1 : Int) ≤ 16; omega
theorem new_next {b bn bc bd n k : Nat} {r : Int} {wr : World} (h : En.Ok (newE b bn bc bd n r k) wr B 0) (hk : k < n) :
    En.Ok (newE b bn bc bd n r (k + 1)) (((wr.setCell ⟨bn, k * 3, none⟩ (.bool true)).setCell ⟨bn, k * 3 + 1, none⟩ (.int .i64 1)).setCell ⟨bn, k * 3 + 2, none⟩ (.int .i64 0)) B 0 := by
  have s1 := Step.nod h ((h.nod.set hk).1 true)
  have s2 := Step.nod s1.ok ((s1.ok.nod.set hk).2.1 1)
  have s3 := Step.nod s2.ok ((s2.ok.nod.set hk).2.2 0)
  have e : newE b bn bc bd n r (k + 1) = { newE b bn bc bd n r k with up := upd1 (newE b bn bc bd n r k).up k true, inc := upd1 (newE b bn bc bd n r k).inc k 1, tick := upd1 (newE b bn bc bd n r k).tick k 0 } := by
    unfold newE upd1
    congr 1
    · funext i
      by_cases hi : i = k
      · subst hi; simp
      · have : (i < k + 1) ↔ (i < k) := by omega
        simp [hi, this]
    · funext i
      by_cases hi : i = k
      · subst hi; simp
      · have : (i < k + 1) ↔ (i < k) := by omega
        simp [hi, this]
    · funext i
      simp
  rw [e]
  exact s3.ok
set_option maxHeartbeats 400000 in
theorem new_ok (n : Nat) (r : Int) (h1 : 1 ≤ n) (h2 : n ≤ 16) (h3 : 1 ≤ r) (h4 : r ≤ 20000) : Calls Try.prog 6 #[.int .i64 n, .int .i64 r] w fun e w' => ∃ b bn bc bd, e = .returned (.tuple #[.pointer (some ⟨b, 0, none⟩), .int .i64 0]) ∧ En.Ok (newE b bn bc bd n r n) w' w.heap.size 0 ∧ Below w.heap.size w w' := by
  have i1 : (1 : Int) ≤ (n : Int) := by omega
  have i2 : (n : Int) ≤ 16 := by omega
  have hmm := @run_makeMap Try.prog
  obtain ⟨i0, hi, hz0, hz1, hz2⟩ := info_parts info_node
  go_enter Try.func6, Try.ntmps6
  go_wp2_with (first
    | (at_make; refine wpList_make_full _ rfl _ _ 72 rfl w.heap.size 78 i0 (.agg #[.bool false, .int .i64 0, .int .i64 0]) 3 Try.underlying72 hi hz0 hz1 .i64 .i64 _ _ n rfl rfl rfl rfl (by rw [hz2]; omega) (by unfold maxLen; omega) (Nat.le_refl _) ?_)
    | fail)
  intro w1 hown hgrow
  obtain ⟨hf1, hf2⟩ := new_first n r h1 h2 hown ((Below.refl _ w).grown hgrow (Nat.le_refl _) (fun k hk => by cases hk))
  generalize hX : ((w1.alloc (.map #[] 0)).alloc (.map #[] 0)).alloc (.cells #[.int .i64 0, .slice (some ⟨w.heap.size, 0, none⟩) n n, .map (some w1.heap.size), .map (some (w1.heap.size + 1)), .int .i64 r, .int .i64 0, .slice none 0 0] 76) = X at hf1 hf2
  have H1 : Hid (En.Ok (newE (w1.heap.size + 1 + 1) w.heap.size w1.heap.size (w1.heap.size + 1) n r 0) X w.heap.size 0) := hf1
  have H2 : Hid (Below w.heap.size w X) := hf2
  have c1 : X.cell? ⟨w1.heap.size + 1 + 1, 1, none⟩ = some (.slice (some ⟨w.heap.size, 0, none⟩) n n) := hf1.c1
  clear hown hgrow hf1 hf2
  go_wp2
  go_loopw [34] (fun i wr => ∃ k : Nat, k ≤ n ∧ i = .int .i64 k ∧ En.Ok (newE (w1.heap.size + 1 + 1) w.heap.size w1.heap.size (w1.heap.size + 1) n r k) wr w.heap.size 0 ∧ Below w.heap.size w wr) (fun i _ => n - (intOf i).toNat)
  case atStart => exact ⟨0, Nat.zero_le _, rfl, H1.out, H2.out⟩
  case round =>
    obtain ⟨k, hk, rfl, hok, hbel⟩ := hrel
    have HK : Hid (En.Ok (newE (w1.heap.size + 1 + 1) w.heap.size w1.heap.size (w1.heap.size + 1) n r k) wr w.heap.size 0) := hok
    have HB : Hid (Below w.heap.size w wr) := hbel
    by_cases hlt : k < n
    · have d1 : wr.cell? ⟨w1.heap.size + 1 + 1, 1, none⟩ = some (.slice (some ⟨w.heap.size, 0, none⟩) n n) := hok.c1
      obtain ⟨e0, e1, e2⟩ := hok.nodC (p := k) hlt
      have e0 : wr.cell? ⟨w.heap.size, k * 3, none⟩ = some (.bool (decide (k < k))) := e0
      have e1 : wr.cell? ⟨w.heap.size, k * 3 + 1, none⟩ = some (.int .i64 (if k < k then 1 else 0)) := e1
      have e2 : wr.cell? ⟨w.heap.size, k * 3 + 2, none⟩ = some (.int .i64 0) := e2
      have f0 : wr.frozen? ⟨w.heap.size, k * 3, none⟩ = false := hok.nodF _
      have f1 : wr.frozen? ⟨w.heap.size, k * 3 + 1, none⟩ = false := hok.nodF _
      have f2 : wr.frozen? ⟨w.heap.size, k * 3 + 2, none⟩ = false := hok.nodF _
      simp only [Nat.lt_irrefl, decide_false, if_false] at e0 e1
      have j1 : (0 : Int) ≤ (k : Int) := Int.natCast_nonneg _
      have j2 : (k : Int) < (n : Int) := by omega
      clear hok hbel
      go_wp2
      go_roundw
      case rel => exact ⟨k + 1, by omega, by go_num, new_next HK.out hlt, bset (bset (bset HB.out (Nat.le_refl _) _ _) (Nat.le_refl _) _ _) (Nat.le_refl _) _ _⟩
      case measure => simp [intOf]; omega
    · obtain rfl : k = n := by omega
      go_wp2
      go_ret2
      exact ⟨_, _, _, _, rfl, HK.out, HB.out⟩
end
end Go.Proofs.Ytnhhjelplmdloaa.Et
