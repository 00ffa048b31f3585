import Derived.Test.YtnhhjelplmdloaaV03
import Derived.Lib.SliceRun
namespace Go.Proofs.Ytnhhjelplmdloaa.Et
open Go.RowKit Go.Maps
set_option linter.unusedVariables false
set_option linter.unusedSimpArgs false
set_option maxRecDepth 100000
section
variable {E E' : En} {w w' W : World} {B m : Nat}
theorem two_cells {t : TypeId} {k : Nat} {v0 v1 : Value} (h : w.heap[k]? = some (.cells #[v0, v1] t (0, 0))) : w.cell? ⟨k, 0, none⟩ = some v0 ∧ w.cell? ⟨k, 1, none⟩ = some v1 := ⟨blk_cell h 0, blk_cell h 1⟩
set_option maxHeartbeats 1000000 in
theorem pathOf_any (f : Fx) : Calls Try.prog 49 #[.agg f.cs] w fun e w' => e = .returned (.agg #[.int .i64 f.src, .int .i64 f.dst]) ∧ Below w.heap.size w w' := by
  unfold Fx.cs
  generalize hW : (w.alloc (.cells #[.int .i64 f.id, .int .i64 f.src, .int .i64 f.dst, .int .i64 f.due, .slice f.a f.n f.c] 43)).alloc (.cells #[.int .i64 0, .int .i64 0] 80) = W
  have hb : Hid (Below w.heap.size w W) := by rw [← hW]; exact balloc (balloc (Below.refl _ w))
  have hblk : W.heap[w.heap.size]? = some (.cells #[.int .i64 f.id, .int .i64 f.src, .int .i64 f.dst, .int .i64 f.due, .slice f.a f.n f.c] 43 (0, 0)) := by rw [← hW]; exact blk_alloc (heap_alloc_new w _)
  have hblk2 : W.heap[w.heap.size + 1]? = some (.cells #[.int .i64 0, .int .i64 0] 80 (0, 0)) := by
    rw [← hW]
    have := heap_alloc_new (w.alloc (.cells #[.int .i64 f.id, .int .i64 f.src, .int .i64 f.dst, .int .i64 f.due, .slice f.a f.n f.c] 43)) (.cells #[.int .i64 0, .int .i64 0] 80)
    simpa using this
  obtain ⟨e0, e1, e2, e3, e4⟩ := fl_cells hblk
  obtain ⟨z0, z1⟩ := two_cells hblk2
  have g0 := frozen_of_row W _ 0 _ _ hblk2
  have g1 := frozen_of_row W _ 1 _ _ hblk2
  have b1 := blk_set (i := 0) (v := .int .i64 f.src) hblk2 rfl
  have b2 := blk_set (i := 1) (v := .int .i64 f.dst) b1 rfl
  have B2 : Hid ((((W.setCell ⟨w.heap.size + 1, 0, none⟩ (.int .i64 f.src)).setCell ⟨w.heap.size + 1, 1, none⟩ (.int .i64 f.dst))).heap[w.heap.size + 1]? = some (.cells #[.int .i64 f.src, .int .i64 f.dst] 80 (0, 0))) := b2
  clear hblk hblk2 b1 b2
  go_enter Try.func49, Try.ntmps49
  go_wp2
  obtain ⟨q0, q1⟩ := two_cells B2.out
  exact bodyPost_ret (v := .agg #[.int .i64 f.src, .int .i64 f.dst]) (by simp [results, Try.results49, go_sem, q0, q1]) rfl ⟨rfl, bset (bset hb.out (Nat.le_succ _) 0 _) (Nat.le_succ _) 1 _⟩
def barE (E : En) (p q : Nat) : Int := if E.cut p q then 30 else if E.up q then 0 else 32
set_option maxHeartbeats 1000000 in
theorem barrier_any (h : E.Ok w B m) (f : Fx) (p q : Nat) (h1 : f.src = p) (h2 : f.dst = q) (hp : p < E.nn) (hq : q < E.nn) : Calls Try.prog 27 #[.pointer (some ⟨E.b, 0, none⟩), .agg f.cs] w fun e w' => e = .returned (.int .i64 (barE E p q)) ∧ Below w.heap.size w w' := by
  have hn := h.n16
  have HPa := fun w => pathOf_any (w := w) f
  rw [h1, h2] at HPa
  unfold Fx.cs at HPa ⊢
  rw [h1, h2] at HPa ⊢
  generalize hW : w.alloc (.cells #[.int .i64 f.id, .int .i64 p, .int .i64 q, .int .i64 f.due, .slice f.a f.n f.c] 43) = W
  have hbW : Below w.heap.size w W := by rw [← hW]; exact balloc (Below.refl _ w)
  have hblk : W.heap[w.heap.size]? = some (.cells #[.int .i64 f.id, .int .i64 p, .int .i64 q, .int .i64 f.due, .slice f.a f.n f.c] 43 (0, 0)) := by rw [← hW]; exact heap_alloc_new w _
  obtain ⟨e0, e1, e2, e3, e4⟩ := fl_cells hblk
  have HPa : Hid (∀ w, Calls Try.prog 49 #[.agg #[.int .i64 f.id, .int .i64 p, .int .i64 q, .int .i64 f.due, .slice f.a f.n f.c]] w fun e w' => e = .returned (.agg #[.int .i64 p, .int .i64 q]) ∧ Below w.heap.size w w') := HPa
  generalize hc : E.cut p q = c
  have HC : Hid (∀ w', Below w.heap.size w w' → Calls Try.prog 46 #[.pointer (some ⟨E.b, 0, none⟩), .agg #[.int .i64 p, .int .i64 q]] w' fun e w2 => e = .returned (.bool c) ∧ Below w'.heap.size w' w2) := isCut_is h (by omega) (by omega) hc
  have Hh : Hid (E.Ok w B m) := h
  have Hb : Hid (Below w.heap.size w W) := hbW
  have i1 : (0 : Int) ≤ (q : Int) := Int.natCast_nonneg _
  have i2 : (q : Int) < (E.nn : Int) := by omega
  unfold barE
  rw [hc]
  generalize hu : E.up q = u
  clear h hbW hblk
  cases c <;> cases u <;>
  · go_enter Try.func27, Try.ntmps27
    go_wp2_with (first
      | (go_at_call 49; refine (HPa.out _).mono ?_; rintro e w1 ⟨rfl, hb1⟩; have r1 : Hid (Below w.heap.size w w1) := bstep Hb.out hb1; have k1 := below_at hb1 e1; have k2 := below_at hb1 e2; clear hb1)
      | (go_at_call 46; refine (HC.out _ r1.out).mono ?_; rintro e w2 ⟨rfl, hb2⟩; have r2 : Hid (Below w.heap.size w w2) := bstep r1.out hb2; have m2 := below_at hb2 k2; have c1 := (Hh.out.still r2.out).c1; have d0 := ((Hh.out.still r2.out).nodC hq).1; rw [hu] at d0; clear hb2)
      | fail)
    first
      | (go_ret; exact ⟨rfl, r2.out⟩)
      | (go_quiet (fail); go_wp2; go_ret; exact ⟨rfl, below_drewN r2.out _⟩)
set_option maxHeartbeats 400000 in
theorem isPlace_any (h : E.Ok w B m) (k : Int) : Calls Try.prog 42 #[.pointer (some ⟨E.b, 0, none⟩), .int .i64 k] w fun e w' => e = .returned (.bool (decide (0 ≤ k ∧ k < E.fs.length))) ∧ w = w' := by
  have c6 := h.c6
  clear h
  go_enter Try.func42, Try.ntmps42
  go_wp2
  all_goals (go_ret; exact ⟨by simp; first | assumption | omega | skip, rfl⟩)
end
end Go.Proofs.Ytnhhjelplmdloaa.Et
namespace Go.Proofs.Ytnhhjelplmdloaa.Et
open Go.RowKit Go.Maps
set_option linter.unusedVariables false
set_option linter.unusedSimpArgs false
set_option maxRecDepth 100000
section
variable {E E' : En} {w w' W : World} {B m : Nat}
theorem splice_cons {α : Type} (L : List α) (o : Nat) (v : α) (r : List α) (h : o < L.length) : splice (L.set o v) (o + 1) r = splice L o (v :: r) := by
  unfold splice
  have e1 : (L.set o v).take (o + 1) = L.take o ++ [v] := by
    rw [List.take_set, List.take_succ_eq_append_getElem h]
    rw [List.set_append_right _ _ (by simp; omega)]
    simp [show o - min o L.length = 0 by omega]
  rw [e1, List.drop_set_of_lt (by omega)]
  simp only [List.length_cons, List.append_assoc, List.cons_append, List.nil_append]
  rw [show o + 1 + r.length = o + (r.length + 1) by omega]
theorem heap_setCells {g : Nat} {t : TypeId} : ∀ (vs : List Value) (o : Nat) (w : World) (L : List Value), w.heap[g]? = some (.cells L.toArray t (0, 0)) → o + vs.length ≤ L.length → (w.setCells g o vs).heap[g]? = some (.cells (splice L o vs).toArray t (0, 0))
  | [], o, w, L, h, hl => by
    simp only [World.setCells]
    rw [h]
    simp [splice]
  | v :: r, o, w, L, h, hl => by
    simp only [World.setCells]
    simp only [List.length_cons] at hl
    have h1 := blk_set (i := o) (v := v) h (cs' := (L.set o v).toArray) (by simp)
    rw [heap_setCells r (o + 1) _ (L.set o v) h1 (by simp; omega), splice_cons L o v r (by omega)]
theorem kept_setCells {g : Nat} : ∀ (vs : List Value) (o : Nat) (w : World), Kept w (w.setCells g o vs) (fun j => j = g)
  | [], o, w => Kept.refl _ _
  | v :: r, o, w => (kset (P := fun j => j = g) w g o v rfl).trans (kept_setCells r (o + 1) _)
theorem splice_take {α : Type} (L : List α) (o : Nat) (vs : List α) (h : o ≤ L.length) : (splice L o vs).take o = L.take o := by
  unfold splice
  rw [List.take_append_of_le_length (by simp; omega), List.take_take, Nat.min_self]
theorem fl_take (fs : List Fx) (k : Nat) : (flCells fs).take (k * 5) = flCells (fs.take k) := by
  induction fs generalizing k with
  | nil => simp [flCells]
  | cons f fs ih =>
    cases k with
    | zero => simp [flCells]
    | succ k =>
      have hl : f.cs.toList.length = 5 := rfl
      have := ih k
      simp only [flCells, List.flatMap_cons, List.take_succ_cons] at this ⊢
      rw [List.take_append, hl, List.take_of_length_le (by rw [hl]; omega), show (k + 1) * 5 - 5 = k * 5 by omega, this]
theorem fl_drop (fs : List Fx) (k : Nat) : (flCells fs).drop (k * 5) = flCells (fs.drop k) := by
  induction fs generalizing k with
  | nil => simp [flCells]
  | cons f fs ih =>
    cases k with
    | zero => simp [flCells]
    | succ k =>
      have hl : f.cs.toList.length = 5 := rfl
      have := ih k
      simp only [flCells, List.flatMap_cons, List.drop_succ_cons] at this ⊢
      rw [List.drop_append, hl, List.drop_of_length_le (by rw [hl]; omega), show (k + 1) * 5 - 5 = k * 5 by omega, this]
      simp
theorem row_list {va : Option Addr} {n c : Nat} {l : List Value} (h : w.ownsRow B 43 5 (.slice va n c) n l) (hn : 0 < n) : ∃ (g : Nat) (L : List Value), va = some ⟨g, 0, none⟩ ∧ B ≤ g ∧ w.heap[g]? = some (.cells L.toArray 43 (0, 0)) ∧ L.length = c * 5 ∧ L.take (n * 5) = l ∧ n ≤ c ∧ c ≤ maxLen := by
  rcases h.2 with ⟨h1, h2⟩ | ⟨g, cap, cur, hv, hB, hg, hnc, hcm, hcs, htk⟩
  · omega
  · simp at hv
    obtain ⟨rfl, rfl⟩ := hv
    exact ⟨g, cur.toList, rfl, hB, by simpa using hg, by simpa using hcs, htk, hnc, hcm⟩
theorem list_row {g n c : Nat} {L l : List Value} (hB : B ≤ g) (hg : w.heap[g]? = some (.cells L.toArray 43 (0, 0))) (hl : L.length = c * 5) (ht : L.take (n * 5) = l) (hn : n ≤ c) (hc : c ≤ maxLen) : w.ownsRow B 43 5 (.slice (some ⟨g, 0, none⟩) n c) n l :=
  ⟨by rw [← ht, List.length_take]; omega, .inr ⟨g, c, L.toArray, rfl, hB, hg, hn, hc, by simpa using hl, by simpa using ht⟩⟩
theorem zeroF (w : World) : (zeroValue 43).run Try.prog w = .ok (.agg #[.int .i64 0, .int .i64 0, .int .i64 0, .int .i64 0, .slice none 0 0]) w := by kernel_rfl
theorem zc_len (n : Nat) : (Builtin.zeroCells (Value.agg #[.int .i64 0, .int .i64 0, .int .i64 0, .int .i64 0, .slice none 0 0]).cells n).toList.length = n * 5 := by
  simp [Builtin.zeroCells, Value.cells]
theorem zc_one (n : Nat) : ∀ u ∈ (Builtin.zeroCells (Value.agg #[.int .i64 0, .int .i64 0, .int .i64 0, .int .i64 0, .slice none 0 0]).cells n).toList, u.oneCell' = true := by
  intro u hu
  simp [Builtin.zeroCells, Value.cells] at hu
  obtain ⟨a, ha, rfl⟩ := hu
  have : a % 5 < 5 := Nat.mod_lt _ (by omega)
  generalize a % 5 = k at this
  rcases k with _ | _ | _ | _ | _ | k <;> first | rfl | omega
theorem run_clearF (w : World) (ty : TypeId) (b o n c : Nat) (hc : ∀ j, j < n * 5 → (w.cell? ⟨b, o + j, none⟩).isSome = true) (hf : ∀ j, j < n * 5 → w.frozen? ⟨b, o + j, none⟩ = false) :
    (Builtin.clear_ #[39] ty #[.slice (some ⟨b, o, none⟩) n c]).run Try.prog w = .ok (.tuple #[]) (w.setCells b o (Builtin.zeroCells (Value.agg #[.int .i64 0, .int .i64 0, .int .i64 0, .int .i64 0, .slice none 0 0]).cells n).toList) := by
  have hst := run_storeCells_cells (P := Try.prog) b o _ 0 w (by rw [zc_len n]; simpa using hc) (by rw [zc_len n]; simpa using hf) (zc_one n)
  simp only [Nat.add_zero] at hst
  cases n with
  | zero =>
    have e : (Builtin.zeroCells (Value.agg #[.int .i64 0, .int .i64 0, .int .i64 0, .int .i64 0, .slice none 0 0]).cells 0).toList = [] := List.eq_nil_of_length_eq_zero (by rw [zc_len])
    rw [e]
    simp [Builtin.clear_, run_underlying Try.underlying39, World.setCells]
  | succ n =>
    simp only [Builtin.clear_]
    simp [run_underlying Try.underlying39, zeroF, hst]
theorem er_cells (fs : List Fx) (k : Nat) (rest : List Value) (hk : k < fs.length) : (splice (flCells fs ++ rest) (k * 5) (flCells (fs.drop (k + 1)))).take ((fs.length - 1) * 5) = flCells (fs.eraseIdx k) := by
  unfold splice
  have e1 : (flCells fs ++ rest).take (k * 5) = flCells (fs.take k) := by
    rw [List.take_append_of_le_length (by rw [flCells_len]; omega), fl_take]
  rw [e1, ← List.append_assoc, ← flCells_app, ← List.eraseIdx_eq_take_drop_succ]
  have hl := List.length_eraseIdx_of_lt hk
  rw [List.take_append_of_le_length (by rw [flCells_len, hl]; omega), List.take_of_length_le (by rw [flCells_len, hl]; omega)]
set_option maxHeartbeats 4000000 in
theorem delete_any (g cap : Nat) (L : List Value) (fs : List Fx) (k : Nat) (hk : k < fs.length) (hg : w.heap[g]? = some (.cells L.toArray 43 (0, 0))) (hL : L.length = cap * 5) (ht : L.take (fs.length * 5) = flCells fs) (hn : fs.length ≤ cap) (hc : cap ≤ maxLen) :
    Calls Try.prog 57 #[.slice (some ⟨g, 0, none⟩) fs.length cap, .int .i64 k, .int .i64 (k + 1)] w fun e w' => e = .returned (.slice (some ⟨g, 0, none⟩) (fs.length - 1) cap) ∧ (∃ L' : List Value, w'.heap[g]? = some (.cells L'.toArray 43 (0, 0)) ∧ L'.length = cap * 5 ∧ L'.take ((fs.length - 1) * 5) = flCells (fs.eraseIdx k)) ∧ Kept w w' (fun j => j = g) := by
  obtain ⟨i0, hi, hz0, hz1, hz2⟩ := info_parts info_fl
  have i1 : (0 : Int) ≤ (k : Int) := Int.natCast_nonneg _
  have i2 : (k : Int) + 1 ≤ (fs.length : Int) := by omega
  have i3 : (fs.length : Int) ≤ (cap : Int) := by omega
  obtain ⟨news, hnews⟩ : ∃ news, news = flCells (fs.drop (k + 1)) := ⟨_, rfl⟩
  have hlen : news.length = (fs.length - (k + 1)) * 5 := by rw [hnews, flCells_len]; simp
  have hLs : L = flCells fs ++ L.drop (fs.length * 5) := by rw [← ht, List.take_append_drop]
  have hcell : ∀ j, w.cell? ⟨g, j, none⟩ = L[j]? := fun j => by rw [blk_cell hg j]; simp
  have hget : ∀ j u, news[j]? = some u → w.cell? ⟨g, (k + 1) * 5 + j, none⟩ = some u := by
    intro j u hu
    have hj : j < news.length := (List.getElem?_eq_some_iff.1 hu).1
    rw [hcell, hLs, List.getElem?_append_left (by rw [flCells_len]; omega), ← hu, hnews, ← fl_drop, List.getElem?_drop]
  have s1 : Hid (news.length = (fs.length - (k + 1)) * 5) := hlen
  have s2 : Hid (∀ u ∈ news, u.oneCell' = true) := by rw [hnews]; exact flCells_one _
  have s3 : Hid (∀ j, j < news.length → (w.drew.cell? ⟨g, 0 + k * 5 + j, none⟩).isSome = true ∧ w.drew.frozen? ⟨g, 0 + k * 5 + j, none⟩ = false) := by
    intro j hj
    refine ⟨?_, frozen_of_row w _ _ _ _ hg⟩
    show (w.cell? _).isSome = true
    rw [hcell, List.getElem?_eq_getElem (by omega)]
    rfl
  obtain ⟨W1, hW1⟩ : ∃ W1, W1 = w.drew.setCells g (0 + k * 5) news := ⟨_, rfl⟩
  have hb1 : W1.heap[g]? = some (.cells (splice L (0 + k * 5) news).toArray 43 (0, 0)) := by
    rw [hW1]
    exact heap_setCells news (0 + k * 5) w.drew L hg (by omega)
  have hl1 : (splice L (0 + k * 5) news).length = cap * 5 := by rw [length_splice _ _ _ (by omega), hL]
  have hcl : ∀ ty, (Builtin.clear_ #[39] ty #[.slice (some ⟨g, (k + (fs.length - (k + 1))) * 5, none⟩) (fs.length - (k + (fs.length - (k + 1)))) (cap - (k + (fs.length - (k + 1))))]).run Try.prog W1 = .ok (.tuple #[]) (W1.setCells g ((k + (fs.length - (k + 1))) * 5) (Builtin.zeroCells (Value.agg #[.int .i64 0, .int .i64 0, .int .i64 0, .int .i64 0, .slice none 0 0]).cells (fs.length - (k + (fs.length - (k + 1))))).toList) := fun ty =>
    run_clearF W1 ty g _ _ _ (fun j hj => by rw [blk_cell hb1 _]; simp only [List.getElem?_toArray]; rw [List.getElem?_eq_getElem (by omega)]; rfl) (fun j hj => frozen_of_row W1 _ _ _ _ hb1)
  have hres : Hid (∃ L' : List Value, (W1.setCells g ((k + (fs.length - (k + 1))) * 5) (Builtin.zeroCells (Value.agg #[.int .i64 0, .int .i64 0, .int .i64 0, .int .i64 0, .slice none 0 0]).cells (fs.length - (k + (fs.length - (k + 1))))).toList).heap[g]? = some (.cells L'.toArray 43 (0, 0)) ∧ L'.length = cap * 5 ∧ L'.take ((fs.length - 1) * 5) = flCells (fs.eraseIdx k)) := by
    refine ⟨_, heap_setCells _ _ W1 _ hb1 (by rw [zc_len, hl1]; omega), ?_, ?_⟩
    · rw [length_splice _ _ _ (by rw [zc_len, hl1]; omega), hl1]
    · rw [show (fs.length - 1) * 5 = (k + (fs.length - (k + 1))) * 5 by omega, splice_take _ _ _ (by rw [hl1]; omega), show (k + (fs.length - (k + 1))) * 5 = (fs.length - 1) * 5 by omega, Nat.zero_add, hLs, hnews]
      exact er_cells fs k _ hk
  have hkept : Hid (Kept w (W1.setCells g ((k + (fs.length - (k + 1))) * 5) (Builtin.zeroCells (Value.agg #[.int .i64 0, .int .i64 0, .int .i64 0, .int .i64 0, .slice none 0 0]).cells (fs.length - (k + (fs.length - (k + 1))))).toList) (fun j => j = g)) := by
    refine Kept.trans ?_ (kept_setCells _ _ _)
    rw [hW1]
    exact (Kept.ofBelow ((Below.refl _ w).drew) _).trans (kept_setCells _ _ _)
  have hW : Hid (W1 = w.drew.setCells g (0 + k * 5) news) := hW1
  have HG : Hid (∀ j u, news[j]? = some u → w.drew.cell? ⟨g, (k + 1) * 5 + j, none⟩ = some u) := hget
  have hne2 : ¬ cap = k + (fs.length - (k + 1)) := by omega
  have hns : Hid (0 < news.length → ¬ cap = k + 1) := fun h => by rw [hlen] at h; omega
  clear hg hL ht hLs hcell hget hnews hlen hW1 hb1 hl1
  have n1 : k ≤ cap := by omega
  have n2 : k + 1 ≤ fs.length := by omega
  have n3 : (k : Int) ≤ (k : Int) + 1 := by omega
  have n4 : k + 1 ≤ cap := by omega
  have n5 : (0 : Int) ≤ (k : Int) + 1 := by omega
  obtain ⟨A, hA, hsrc⟩ : ∃ A : Addr, (if cap = k + 1 then some (⟨g, 0, none⟩ : Addr) else some ⟨g, (k + 1) * 5, none⟩) = some A ∧ Hid (∀ t u, news[t]? = some u → w.drew.cell? (A.add t) = some u) := by
    by_cases hcap : cap = k + 1
    · exact ⟨⟨g, 0, none⟩, by simp [hcap], fun t u hu => absurd hcap (hns.out (by have := (List.getElem?_eq_some_iff.1 hu).1; omega))⟩
    · exact ⟨⟨g, (k + 1) * 5, none⟩, by simp [hcap], fun t u hu => by rw [Addr.add_lit]; exact HG.out t u hu⟩
  go_enter Try.func57, Try.ntmps57
  go_wp2
  go_region_law (refine step_append_room rfl (.tmp 22) (.tmp 25) 39 rfl 43 i0 5 Try.underlying39 hi hz1 g 0 k cap (by simp [Act.eval, Act.put]) A (fs.length - (k + 1)) (cap - (k + 1)) news (by simp [Act.eval, Act.put]) s1.out hsrc.out s2.out (by omega) s3.out ?_; rw [← hW.out])
  go_wp2
  go_ret
  exact ⟨by rw [show fs.length - 1 = k + (fs.length - (k + 1)) by omega]; rfl, hres.out, hkept.out⟩
end
end Go.Proofs.Ytnhhjelplmdloaa.Et
namespace Go.Proofs.Ytnhhjelplmdloaa.Et
open Go.RowKit Go.Maps
set_option linter.unusedVariables false
set_option linter.unusedSimpArgs false
set_option maxRecDepth 100000
section
variable {E E' : En} {w w' W w1 : World} {B m : Nat}
theorem Step.sub (h : E.Ok W B m) (g n cap : Nat) (fs' : List Fx) (hsub : fs'.Sublist E.fs) (hn : fs'.length = n) (hva : (Value.slice E.va E.fs.length E.vc).ownBlock = some g) (k1 : Kept W w1 (fun j => j = g)) (hrow : w1.ownsRow B 43 5 (.slice (some ⟨g, 0, none⟩) n cap) n (flCells fs')) :
    Step W (w1.setCell ⟨E.b, 6, none⟩ (.slice (some ⟨g, 0, none⟩) n cap)) E { E with va := some ⟨g, 0, none⟩, vc := cap, fs := fs' } B m := by
  subst hn
  have hgr := h.row_ne hva
  have hblk1 : w1.heap[E.b]? = some (.cells E.cs 76 (0, 0)) := k1.obj h.blk (fun e => hgr.1 e.symm)
  have ks : Kept w1 (w1.setCell ⟨E.b, 6, none⟩ (.slice (some ⟨g, 0, none⟩) fs'.length cap)) (fun j => j = E.b) := kset w1 E.b 6 _ rfl
  have k4 : Kept W (w1.setCell ⟨E.b, 6, none⟩ (.slice (some ⟨g, 0, none⟩) fs'.length cap)) (fun j => j = g ∨ j = E.b) := (k1.mono (fun _ _ e => .inl e)).trans (ks.mono (fun _ _ e => .inr e))
  refine ⟨⟨?_, ?_, ?_, ?_, ⟨?_, ?_, ?_⟩, h.ge, h.ne, h.n16, ?_, h.dly⟩, ?_, ?_⟩
  · have := blk_set (i := 6) (v := .slice (some ⟨g, 0, none⟩) fs'.length cap) hblk1 rfl
    rw [this]
    simp [En.cs]
  · exact h.nod.keep k4 (fun e => e.elim (fun e => hgr.2.1 e.symm) (fun e => h.b_bn e.symm))
  · exact h.cut.keep k4 (fun e => e.elim (fun e => hgr.2.2.1 e.symm) (fun e => h.b_bc e.symm))
  · exact h.del.keep k4 (fun e => e.elim (fun e => hgr.2.2.2 e.symm) (fun e => h.b_bd e.symm))
  · exact own_set hrow (by simp [Value.ownBlock]; exact hgr.1)
  · intro x hx
    exact (h.fls.byt x (hsub.subset hx)).keep k4 (fun j hj e => e.elim (fun e => (h.byt_ne (hsub.subset hx) hj).2.2.2.2 (by rw [e]; exact hva)) (fun e => (h.byt_ne (hsub.subset hx) hj).1 e))
  · exact h.fls.apt.sublist hsub
  · intro x hx
    exact h.pth x (hsub.subset hx)
  · exact k4.mono (fun j _ e => e.elim (fun e => .inr (.inr (.inr (.inr (.inl (by rw [e]; exact hva)))))) (fun e => .inl e))
  · intro j hj
    left
    rcases hj with e | e | e | e | e | ⟨x, hx, e⟩
    · exact .inl e
    · exact .inr (.inl e)
    · exact .inr (.inr (.inl e))
    · exact .inr (.inr (.inr (.inl e)))
    · simp [Value.ownBlock] at e
      exact .inr (.inr (.inr (.inr (.inl (by rw [hva, e])))))
    · exact .inr (.inr (.inr (.inr (.inr ⟨x, hsub.subset hx, e⟩))))
theorem En.Ok.shape (h : E.Ok w B m) (hpos : 0 < E.fs.length) : ∃ (g : Nat) (L : List Value), E.va = some ⟨g, 0, none⟩ ∧ B ≤ g ∧ w.heap[g]? = some (.cells L.toArray 43 (0, 0)) ∧ L.length = E.vc * 5 ∧ L.take (E.fs.length * 5) = flCells E.fs ∧ E.fs.length ≤ E.vc ∧ E.vc ≤ maxLen := row_list h.fls.row hpos
set_option maxHeartbeats 1000000 in
theorem drop_any (h : E.Ok w B m) (k : Nat) (hk : k < E.fs.length) (hlen : E.fs.length ≤ 20000) : Calls Try.prog 43 #[.pointer (some ⟨E.b, 0, none⟩), .int .i64 k] w fun e w' => e = .returned (.tuple #[]) ∧ (∃ a c, Step w w' E { E with va := a, vc := c, fs := E.fs.eraseIdx k } B m) ∧ Kept w w' (fun j => (Value.slice E.va E.fs.length E.vc).ownBlock = some j ∨ j = E.b) := by
  obtain ⟨g, L, hva, hBg, hg, hL, ht, hn, hc⟩ := h.shape (by omega)
  have c6 := h.c6
  rw [hva] at c6
  have HD := delete_any (w := w) g E.vc L E.fs k hk hg hL ht hn hc
  have HD1 := delete_any (w := w.drew) g E.vc L E.fs k hk hg hL ht hn hc
  have Hh : Hid (E.Ok w B m) := h
  have hvo : (Value.slice E.va E.fs.length E.vc).ownBlock = some g := by rw [hva]; rfl
  have hgr := h.row_ne hvo
  have hkk : (k : Int) + 1 ≤ 20000 := by omega
  have hres : Hid (∀ w1, Kept w w1 (fun j => j = g) → (∃ L' : List Value, w1.heap[g]? = some (.cells L'.toArray 43 (0, 0)) ∧ L'.length = E.vc * 5 ∧ L'.take ((E.fs.length - 1) * 5) = flCells (E.fs.eraseIdx k)) → Step w (w1.setCell ⟨E.b, 6, none⟩ (.slice (some ⟨g, 0, none⟩) (E.fs.length - 1) E.vc)) E { E with va := some ⟨g, 0, none⟩, vc := E.vc, fs := E.fs.eraseIdx k } B m) := by
    rintro w1 k1 ⟨L', hg', hL', ht'⟩
    exact Step.sub Hh.out g (E.fs.length - 1) E.vc (E.fs.eraseIdx k) (List.eraseIdx_sublist _ _) (List.length_eraseIdx_of_lt hk) hvo k1 (list_row hBg hg' hL' ht' (by omega) hc)
  have hcel : Hid (∀ w1, Kept w w1 (fun j => j = g) → w1.cell? ⟨E.b, 6, none⟩ = some (.slice (some ⟨g, 0, none⟩) E.fs.length E.vc) ∧ w1.frozen? ⟨E.b, 6, none⟩ = false) := by
    intro w1 k1
    have hblk1 : w1.heap[E.b]? = some (.cells E.cs 76 (0, 0)) := k1.obj Hh.out.blk (fun e => hgr.1 e.symm)
    exact ⟨(blk_cell hblk1 6).trans (by simp [En.cs, hva]), frozen_of_row w1 _ 6 _ _ hblk1⟩
  clear h hg hL ht
  go_enter Try.func43, Try.ntmps43
  go_wp2_with (first | (go_at_call 57; refine HD.mono ?_; rintro e w1 ⟨rfl, hx, k1⟩; obtain ⟨t6, tz⟩ := hcel.out w1 k1) | fail)
  go_end0
  exact ⟨rfl, ⟨_, _, hres.out w1 k1 hx⟩, (k1.mono (fun j _ e => .inl (by rw [hvo, e]))).trans (kset w1 E.b 6 _ (.inr rfl))⟩
theorem En.Ok.flC (h : E.Ok w B m) {k : Nat} (hk : k < E.fs.length) : ∃ g, E.va = some ⟨g, 0, none⟩ ∧ w.cell? ⟨g, k * 5, none⟩ = some (.int .i64 (E.fs.getD k f0).id) ∧ w.cell? ⟨g, k * 5 + 1, none⟩ = some (.int .i64 (E.fs.getD k f0).src) ∧ w.cell? ⟨g, k * 5 + 2, none⟩ = some (.int .i64 (E.fs.getD k f0).dst) ∧ w.cell? ⟨g, k * 5 + 3, none⟩ = some (.int .i64 (E.fs.getD k f0).due) ∧ w.cell? ⟨g, k * 5 + 4, none⟩ = some (.slice (E.fs.getD k f0).a (E.fs.getD k f0).n (E.fs.getD k f0).c) ∧ ∀ j, w.frozen? ⟨g, j, none⟩ = false := by
  obtain ⟨g, L, hva, hBg, hg, hL, ht, hn, hc⟩ := h.shape (by omega)
  have hx : ∀ j, j < 5 → w.cell? ⟨g, k * 5 + j, none⟩ = (E.fs.getD k f0).cs[j]? := by
    intro j hj
    rw [blk_cell hg _, ← flCells_get E.fs k hk j hj, ← ht]
    simp only [List.getElem?_toArray]
    rw [List.getElem?_take_of_lt (by omega)]
  exact ⟨g, hva, hx 0 (by omega), hx 1 (by omega), hx 2 (by omega), hx 3 (by omega), hx 4 (by omega), fun j => frozen_of_row w _ j _ _ hg⟩
theorem mem_getD {fs : List Fx} {k : Nat} (hk : k < fs.length) : fs.getD k f0 ∈ fs := by
  simp [List.getD, List.getElem?_eq_getElem hk]
end
end Go.Proofs.Ytnhhjelplmdloaa.Et
