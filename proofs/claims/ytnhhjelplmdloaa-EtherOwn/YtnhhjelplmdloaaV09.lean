import Derived.Test.YtnhhjelplmdloaaV08
namespace Go.Proofs.Ytnhhjelplmdloaa.Et
open Go.RowKit Go.Maps
set_option linter.unusedVariables false
set_option linter.unusedSimpArgs false
set_option maxRecDepth 100000
section
variable {E E' : En} {w w' W w1 : World} {B m : Nat}
set_option maxHeartbeats 400000 in
theorem do_path (b : Nat) (v : Ev) (hk : v.k = 8 ∨ v.k = 9 ∨ v.k = 10) (R : Ending → World → Prop) (HR : ∀ w', Below w.heap.size w w' → Calls Try.prog 50 #[.pointer (some ⟨b, 0, none⟩), .agg v.cs] w' fun e w2 => (∃ y, e = .returned (.int .i64 y)) ∧ R e w2) : Calls Try.prog 32 #[.pointer (some ⟨b, 0, none⟩), .agg v.cs] w R := by
  generalize hW : w.alloc (.cells v.cs 90) = W
  have hbW : Below w.heap.size w W := by rw [← hW]; exact balloc (Below.refl _ w)
  have hblk : W.heap[w.heap.size]? = some (.cells v.cs 90 (0, 0)) := by rw [← hW]; exact heap_alloc_new w _
  obtain ⟨e0, e1, e2, e3, e4, e5⟩ := ev_cells hblk
  obtain ⟨r0, r1, r2, r3, r4, r5, r6⟩ := ev_rest hblk
  have Hb : Hid (Below w.heap.size w W) := hbW
  unfold Ev.cs at hW ⊢
  have HR : Hid (∀ w', Below w.heap.size w w' → Calls Try.prog 50 #[.pointer (some ⟨b, 0, none⟩), .agg v.cs] w' fun e w2 => (∃ y, e = .returned (.int .i64 y)) ∧ R e w2) := HR
  unfold Ev.cs at HR
  clear hbW hblk
  rcases hk with hk | hk | hk <;>
  · rw [hk] at HR e0 hW ⊢
    go_enter Try.func32, Try.ntmps32
    go_wp2_with (first | (go_at_call 50; refine (HR.out _ (by repeat (first | exact Below.refl _ _ | exact Hb.out | apply below_drewN | apply Below.drew | apply balloc))).mono ?_; rintro e w2 ⟨⟨y, rfl⟩, hR⟩) | fail)
    all_goals first | exact hR | (go_ret; exact hR)
set_option maxHeartbeats 400000 in
theorem do_packet (b : Nat) (v : Ev) (hk : v.k = 12 ∨ v.k = 13 ∨ v.k = 15 ∨ v.k = 16) (R : Ending → World → Prop) (HR : ∀ w', Below w.heap.size w w' → Calls Try.prog 52 #[.pointer (some ⟨b, 0, none⟩), .agg v.cs] w' fun e w2 => (∃ y, e = .returned (.int .i64 y)) ∧ R e w2) : Calls Try.prog 32 #[.pointer (some ⟨b, 0, none⟩), .agg v.cs] w R := by
  generalize hW : w.alloc (.cells v.cs 90) = W
  have hbW : Below w.heap.size w W := by rw [← hW]; exact balloc (Below.refl _ w)
  have hblk : W.heap[w.heap.size]? = some (.cells v.cs 90 (0, 0)) := by rw [← hW]; exact heap_alloc_new w _
  obtain ⟨e0, e1, e2, e3, e4, e5⟩ := ev_cells hblk
  obtain ⟨r0, r1, r2, r3, r4, r5, r6⟩ := ev_rest hblk
  have Hb : Hid (Below w.heap.size w W) := hbW
  unfold Ev.cs at hW ⊢
  have HR : Hid (∀ w', Below w.heap.size w w' → Calls Try.prog 52 #[.pointer (some ⟨b, 0, none⟩), .agg v.cs] w' fun e w2 => (∃ y, e = .returned (.int .i64 y)) ∧ R e w2) := HR
  unfold Ev.cs at HR
  clear hbW hblk
  rcases hk with hk | hk | hk | hk <;>
  · rw [hk] at HR e0 hW ⊢
    go_enter Try.func32, Try.ntmps32
    go_wp2_with (first | (go_at_call 52; refine (HR.out _ (by repeat (first | exact Below.refl _ _ | exact Hb.out | apply below_drewN | apply Below.drew | apply balloc))).mono ?_; rintro e w2 ⟨⟨y, rfl⟩, hR⟩) | fail)
    all_goals first | exact hR | (go_ret; exact hR)
set_option maxHeartbeats 400000 in
theorem do_split (b : Nat) (v : Ev) (hk : v.k = 11) (R : Ending → World → Prop) (HR : ∀ w', Below w.heap.size w w' → Calls Try.prog 51 #[.pointer (some ⟨b, 0, none⟩), .slice v.sa v.sn v.sc] w' fun e w2 => (∃ y, e = .returned (.int .i64 y)) ∧ R e w2) : Calls Try.prog 32 #[.pointer (some ⟨b, 0, none⟩), .agg v.cs] w R := by
  generalize hW : w.alloc (.cells v.cs 90) = W
  have hbW : Below w.heap.size w W := by rw [← hW]; exact balloc (Below.refl _ w)
  have hblk : W.heap[w.heap.size]? = some (.cells v.cs 90 (0, 0)) := by rw [← hW]; exact heap_alloc_new w _
  obtain ⟨e0, e1, e2, e3, e4, e5⟩ := ev_cells hblk
  obtain ⟨r0, r1, r2, r3, r4, r5, r6⟩ := ev_rest hblk
  have Hb : Hid (Below w.heap.size w W) := hbW
  unfold Ev.cs at hW ⊢
  have HR : Hid (∀ w', Below w.heap.size w w' → Calls Try.prog 51 #[.pointer (some ⟨b, 0, none⟩), .slice v.sa v.sn v.sc] w' fun e w2 => (∃ y, e = .returned (.int .i64 y)) ∧ R e w2) := HR
  clear hbW hblk
  · rw [hk] at e0 hW ⊢
    go_enter Try.func32, Try.ntmps32
    go_wp2_with (first | (go_at_call 51; refine (HR.out _ (by repeat (first | exact Below.refl _ _ | exact Hb.out | apply below_drewN | apply Below.drew | apply balloc))).mono ?_; rintro e w2 ⟨⟨y, rfl⟩, hR⟩) | fail)
    all_goals first | exact hR | (go_ret; exact hR)
set_option maxHeartbeats 400000 in
theorem do_inject (b : Nat) (v : Ev) (hk : v.k = 17) (R : Ending → World → Prop) (HR : ∀ w', Below w.heap.size w w' → Calls Try.prog 53 #[.pointer (some ⟨b, 0, none⟩), .agg #[.int .i64 v.a, .int .i64 v.b], .slice v.ba v.bn v.bc] w' fun e w2 => (∃ y, e = .returned (.int .i64 y)) ∧ R e w2) : Calls Try.prog 32 #[.pointer (some ⟨b, 0, none⟩), .agg v.cs] w R := by
  generalize hW : w.alloc (.cells v.cs 90) = W
  have hbW : Below w.heap.size w W := by rw [← hW]; exact balloc (Below.refl _ w)
  have hblk : W.heap[w.heap.size]? = some (.cells v.cs 90 (0, 0)) := by rw [← hW]; exact heap_alloc_new w _
  obtain ⟨e0, e1, e2, e3, e4, e5⟩ := ev_cells hblk
  obtain ⟨r0, r1, r2, r3, r4, r5, r6⟩ := ev_rest hblk
  have Hb : Hid (Below w.heap.size w W) := hbW
  unfold Ev.cs at hW ⊢
  have HR : Hid (∀ w', Below w.heap.size w w' → Calls Try.prog 53 #[.pointer (some ⟨b, 0, none⟩), .agg #[.int .i64 v.a, .int .i64 v.b], .slice v.ba v.bn v.bc] w' fun e w2 => (∃ y, e = .returned (.int .i64 y)) ∧ R e w2) := HR
  clear hbW hblk
  · rw [hk] at e0 hW ⊢
    go_enter Try.func32, Try.ntmps32
    go_wp2_with (first | (go_at_call 53; refine (HR.out _ (by repeat (first | exact Below.refl _ _ | exact Hb.out | apply below_drewN | apply Below.drew | apply balloc))).mono ?_; rintro e w2 ⟨⟨y, rfl⟩, hR⟩) | fail)
    all_goals first | exact hR | (go_ret; exact hR)
def doKind (k : Int) : Bool := decide (8 ≤ k ∧ k ≤ 13) || decide (15 ≤ k ∧ k ≤ 17)
set_option maxHeartbeats 400000 in
theorem do_other (b : Nat) (v : Ev) (hk : doKind v.k = false) : Calls Try.prog 32 #[.pointer (some ⟨b, 0, none⟩), .agg v.cs] w fun e w' => e = .returned (.int .i64 1) ∧ Below w.heap.size w w' := by
  have k1 : v.k ≠ 8 ∧ v.k ≠ 9 ∧ v.k ≠ 10 ∧ v.k ≠ 11 ∧ v.k ≠ 12 ∧ v.k ≠ 13 ∧ v.k ≠ 15 ∧ v.k ≠ 16 ∧ v.k ≠ 17 := by
    simp [doKind] at hk
    omega
  obtain ⟨j1, j2, j3, j4, j5, j6, j7, j8, j9⟩ := k1
  generalize hW : w.alloc (.cells v.cs 90) = W
  have hbW : Below w.heap.size w W := by rw [← hW]; exact balloc (Below.refl _ w)
  have hblk : W.heap[w.heap.size]? = some (.cells v.cs 90 (0, 0)) := by rw [← hW]; exact heap_alloc_new w _
  obtain ⟨e0, e1, e2, e3, e4, e5⟩ := ev_cells hblk
  obtain ⟨r0, r1, r2, r3, r4, r5, r6⟩ := ev_rest hblk
  have Hb : Hid (Below w.heap.size w W) := hbW
  unfold Ev.cs at hW ⊢
  clear hbW hblk hk
  go_enter Try.func32, Try.ntmps32
  go_wp2
  all_goals first | (go_ret; exact ⟨rfl, Hb.out⟩) | (exfalso; omega)
end
end Go.Proofs.Ytnhhjelplmdloaa.Et
namespace Go.Proofs.Ytnhhjelplmdloaa.Et
open Go.RowKit Go.Maps
set_option linter.unusedVariables false
set_option linter.unusedSimpArgs false
set_option maxRecDepth 100000
section
variable {E E' : En} {w w' W w1 : World} {B m : Nat}
theorem getD_set (L : List Fx) (k : Nat) (hk : k < L.length) (f : Fx) : (L.set k f).getD k f0 = f := by simp [List.getD, hk]
theorem fl_put (L : List Fx) (k : Nat) (hk : k < L.length) (f : Fx) : flCells (L.set k f) = (((((flCells L).set (k * 5) (.int .i64 f.id)).set (k * 5 + 1) (.int .i64 f.src)).set (k * 5 + 2) (.int .i64 f.dst)).set (k * 5 + 3) (.int .i64 f.due)).set (k * 5 + 4) (.slice f.a f.n f.c) := by
  have e0 := flCells_set L k hk { (L.getD k f0) with id := f.id } 0 (by omega) (.int .i64 f.id) rfl
  have h1 : k < (L.set k { (L.getD k f0) with id := f.id }).length := by simpa using hk
  have e1 := flCells_set _ k h1 { (L.getD k f0) with id := f.id, src := f.src } 1 (by omega) (.int .i64 f.src) (by rw [getD_set L k hk]; rfl)
  rw [List.set_set] at e1
  have h2 : k < (L.set k { (L.getD k f0) with id := f.id, src := f.src }).length := by simpa using hk
  have e2 := flCells_set _ k h2 { (L.getD k f0) with id := f.id, src := f.src, dst := f.dst } 2 (by omega) (.int .i64 f.dst) (by rw [getD_set L k hk]; rfl)
  rw [List.set_set] at e2
  have h3 : k < (L.set k { (L.getD k f0) with id := f.id, src := f.src, dst := f.dst }).length := by simpa using hk
  have e3 := flCells_set _ k h3 { (L.getD k f0) with id := f.id, src := f.src, dst := f.dst, due := f.due } 3 (by omega) (.int .i64 f.due) (by rw [getD_set L k hk]; rfl)
  rw [List.set_set] at e3
  have h4 : k < (L.set k { (L.getD k f0) with id := f.id, src := f.src, dst := f.dst, due := f.due }).length := by simpa using hk
  have e4 := flCells_set _ k h4 f 4 (by omega) (.slice f.a f.n f.c) (by rw [getD_set L k hk]; rfl)
  rw [List.set_set] at e4
  rw [e4, e3, e2, e1, e0]
  rfl
def put5at (W : World) (g o : Nat) (v0 v1 v2 v3 v4 : Value) : World := ((((W.setCell ⟨g, o, none⟩ v0).setCell ⟨g, o + 1, none⟩ v1).setCell ⟨g, o + 2, none⟩ v2).setCell ⟨g, o + 3, none⟩ v3).setCell ⟨g, o + 4, none⟩ v4
theorem put5at_eq (W : World) (g o : Nat) (v0 v1 v2 v3 v4 : Value) : ((((W.setCell ⟨g, o, none⟩ v0).setCell ⟨g, o + 1, none⟩ v1).setCell ⟨g, o + 2, none⟩ v2).setCell ⟨g, o + 3, none⟩ v3).setCell ⟨g, o + 4, none⟩ v4 = put5at W g o v0 v1 v2 v3 v4 := rfl
theorem row_put {g n c : Nat} {L : List Fx} (h : w.ownsRow B 43 5 (.slice (some ⟨g, 0, none⟩) n c) n (flCells L)) (k : Nat) (hk : k < L.length) (f : Fx) : (put5at w g (k * 5) (.int .i64 f.id) (.int .i64 f.src) (.int .i64 f.dst) (.int .i64 f.due) (.slice f.a f.n f.c)).ownsRow B 43 5 (.slice (some ⟨g, 0, none⟩) n c) n (flCells (L.set k f)) := by
  rw [fl_put L k hk f]
  have s0 := (World.ownsRow.stored h (k * 5) (.int .i64 f.id)).1
  have s1 := (World.ownsRow.stored s0 (k * 5 + 1) (.int .i64 f.src)).1
  have s2 := (World.ownsRow.stored s1 (k * 5 + 2) (.int .i64 f.dst)).1
  have s3 := (World.ownsRow.stored s2 (k * 5 + 3) (.int .i64 f.due)).1
  exact (World.ownsRow.stored s3 (k * 5 + 4) (.slice f.a f.n f.c)).1
theorem put5at_kept (g o : Nat) (v0 v1 v2 v3 v4 : Value) : Kept W (put5at W g o v0 v1 v2 v3 v4) (fun j => j = g) :=
  ((((kset (P := fun j => j = g) W g o v0 rfl).trans (kset _ g _ v1 rfl)).trans (kset _ g _ v2 rfl)).trans (kset _ g _ v3 rfl)).trans (kset _ g _ v4 rfl)
structure Fd where
  id : Int
  src : Int
  dst : Int
  due : Int
  bs : List Int
def Fx.d (f : Fx) : Fd := ⟨f.id, f.src, f.dst, f.due, f.bs⟩
def RdF (w : World) (ao : Option Addr) (n : Nat) (ds : List Fd) : Prop :=
  ∃ fs : List Fx, fs.map Fx.d = ds ∧ fs.length = n ∧ (∀ f ∈ fs, Rd w f.a f.n f.c f.bs) ∧ (n = 0 ∨ ∃ g, ao = some ⟨g, 0, none⟩ ∧ ∀ i, i < n → ∀ j, j < 5 → w.cell? ⟨g, i * 5 + j, none⟩ = (fs.getD i f0).cs[j]?)
theorem row_cells {ao : Option Addr} {n c : Nat} {fs : List Fx} (h : w.ownsRow B 43 5 (.slice ao n c) n (flCells fs)) (hn : fs.length = n) : n = 0 ∨ ∃ g, ao = some ⟨g, 0, none⟩ ∧ ∀ i, i < n → ∀ j, j < 5 → w.cell? ⟨g, i * 5 + j, none⟩ = (fs.getD i f0).cs[j]? := by
  by_cases h0 : n = 0
  · exact .inl h0
  · obtain ⟨g, L, hva, hBg, hg, hL, ht, hnc, hc⟩ := row_list h (by omega)
    refine .inr ⟨g, hva, fun i hi j hj => ?_⟩
    rw [blk_cell hg _, ← flCells_get fs i (by omega) j hj, ← ht]
    simp only [List.getElem?_toArray]
    rw [List.getElem?_take_of_lt (by omega)]
theorem row_at {g n c k : Nat} {L : List Fx} (h : w.ownsRow B 43 5 (.slice (some ⟨g, 0, none⟩) n c) n (flCells L)) (hk : k < L.length) :
    w.cell? ⟨g, k * 5, none⟩ = some (.int .i64 (L.getD k f0).id) ∧ w.cell? ⟨g, k * 5 + 1, none⟩ = some (.int .i64 (L.getD k f0).src) ∧ w.cell? ⟨g, k * 5 + 2, none⟩ = some (.int .i64 (L.getD k f0).dst) ∧ w.cell? ⟨g, k * 5 + 3, none⟩ = some (.int .i64 (L.getD k f0).due) ∧ w.cell? ⟨g, k * 5 + 4, none⟩ = some (.slice (L.getD k f0).a (L.getD k f0).n (L.getD k f0).c) ∧
    w.frozen? ⟨g, k * 5, none⟩ = false ∧ w.frozen? ⟨g, k * 5 + 1, none⟩ = false ∧ w.frozen? ⟨g, k * 5 + 2, none⟩ = false ∧ w.frozen? ⟨g, k * 5 + 3, none⟩ = false ∧ w.frozen? ⟨g, k * 5 + 4, none⟩ = false := by
  have hl : L.length = n := by have := h.1; rw [flCells_len] at this; omega
  rcases row_cells h hl with h0 | ⟨g', hg', hc⟩
  · omega
  · obtain rfl : g = g' := by simpa using hg'
    obtain ⟨g2, L2, hva, _, hg2, _⟩ := row_list h (by omega)
    obtain rfl : g = g2 := by simpa using hva
    exact ⟨hc k (by omega) 0 (by omega), hc k (by omega) 1 (by omega), hc k (by omega) 2 (by omega), hc k (by omega) 3 (by omega), hc k (by omega) 4 (by omega), frozen_of_row w _ _ _ _ hg2, frozen_of_row w _ _ _ _ hg2, frozen_of_row w _ _ _ _ hg2, frozen_of_row w _ _ _ _ hg2, frozen_of_row w _ _ _ _ hg2⟩
theorem made_zero (n : Nat) : (madeCells (Value.agg #[.int .i64 0, .int .i64 0, .int .i64 0, .int .i64 0, .slice none 0 0]).cells (n * 5)).toList = flCells (List.replicate n f0) := by
  apply List.ext_getElem?
  intro i
  by_cases hi : i < n * 5
  · have h1 := flCells_get (List.replicate n f0) (i / 5) (by simp; omega) (i % 5) (Nat.mod_lt _ (by omega))
    rw [show i / 5 * 5 + i % 5 = i by omega] at h1
    rw [h1]
    have h2 : i % 5 < 5 := Nat.mod_lt _ (by omega)
    have e : (List.replicate n f0).getD (i / 5) f0 = f0 := by simp [List.getD, show i / 5 < n by omega]
    rw [e]
    simp only [madeCells, Array.toList_map, Array.toList_range, List.getElem?_map, List.getElem?_range hi, Option.map_some, Value.cells]
    show some ((#[Value.int .i64 0, Value.int .i64 0, Value.int .i64 0, Value.int .i64 0, Value.slice none 0 0])[i % 5]!) = _
    generalize i % 5 = k at h2
    rcases k with _ | _ | _ | _ | _ | k <;> first | rfl | omega
  · rw [List.getElem?_eq_none (by simp [size_madeCells]; omega), List.getElem?_eq_none (by rw [flCells_len]; simp; omega)]
theorem own_ty {B' t t' s s' n n' : Nat} {v v' : Value} {l l' : List Value} (h : w.ownsRow B t s v n l) (h' : w.ownsRow B' t' s' v' n' l') (ht : t ≠ t') {j : Nat} (hj : v.ownBlock = some j) : v'.ownBlock ≠ some j := by
  intro e
  obtain ⟨c1, h1⟩ := row_ty h hj
  obtain ⟨c2, h2⟩ := row_ty h' e
  rw [h1] at h2
  simp at h2
  exact ht h2.2
end
end Go.Proofs.Ytnhhjelplmdloaa.Et
namespace Go.Proofs.Ytnhhjelplmdloaa.Et
open Go.RowKit Go.Maps
set_option linter.unusedVariables false
set_option linter.unusedSimpArgs false
set_option maxRecDepth 100000
structure En.Ko (E : En) (w : World) (m : Nat) : Prop where
  blk : w.heap[E.b]? = some (.cells E.cs 76 (0, 0))
  nod : NodAt w E.bn E.nn E.up E.inc E.tick
  cut : Cut w E.bc m E.cut
  del : Del w E.bd m E.dl
  n16 : 1 ≤ E.nn ∧ E.nn ≤ 16
section
variable {E E' : En} {w w' W w1 : World} {B m : Nat}
theorem En.Ok.ko (h : E.Ok w B m) : E.Ko w m := ⟨h.blk, h.nod, h.cut, h.del, h.n16⟩
def En.core (E : En) (j : Nat) : Prop := j = E.b ∨ j = E.bn ∨ j = E.bc ∨ j = E.bd
theorem En.Ko.keep {P : Nat → Prop} (h : E.Ko w m) (k : Kept w w' P) (hp : ∀ j, E.core j → ¬ P j) : E.Ko w' m :=
  ⟨k.obj h.blk (hp _ (.inl rfl)), h.nod.keep k (hp _ (.inr (.inl rfl))), h.cut.keep k (hp _ (.inr (.inr (.inl rfl)))), h.del.keep k (hp _ (.inr (.inr (.inr rfl)))), h.n16⟩
theorem En.Ko.still (h : E.Ko w m) (hb : Below w.heap.size w w') : E.Ko w' m := h.keep (Kept.ofBelow hb (fun _ => False)) (fun _ _ => id)
theorem En.Ko.c (h : E.Ko w m) (i : Nat) {v : Value} (hv : E.cs[i]? = some v) : w.cell? ⟨E.b, i, none⟩ = some v := (blk_cell h.blk i).trans hv
theorem En.Ko.c0 (h : E.Ko w m) : w.cell? ⟨E.b, 0, none⟩ = some (.int .i64 E.clock) := h.c 0 rfl
theorem En.Ko.c1 (h : E.Ko w m) : w.cell? ⟨E.b, 1, none⟩ = some (.slice (some ⟨E.bn, 0, none⟩) E.nn E.nn) := h.c 1 rfl
theorem En.Ko.c2 (h : E.Ko w m) : w.cell? ⟨E.b, 2, none⟩ = some (.map (some E.bc)) := h.c 2 rfl
theorem En.Ko.c6 (h : E.Ko w m) : w.cell? ⟨E.b, 6, none⟩ = some (.slice E.va E.fs.length E.vc) := h.c 6 rfl
theorem En.Ko.fz (h : E.Ko w m) (i : Nat) : w.frozen? ⟨E.b, i, none⟩ = false := frozen_of_row w _ i _ _ h.blk
theorem En.Ko.nodC (h : E.Ko w m) {p : Nat} (hp : p < E.nn) : w.cell? ⟨E.bn, p * 3, none⟩ = some (.bool (E.up p)) ∧ w.cell? ⟨E.bn, p * 3 + 1, none⟩ = some (.int .i64 (E.inc p)) ∧ w.cell? ⟨E.bn, p * 3 + 2, none⟩ = some (.int .i64 (E.tick p)) := by
  obtain ⟨cs, h1, h2, h3⟩ := h.nod
  exact ⟨(blk_cell h1 _).trans (h3 p hp).1, (blk_cell h1 _).trans (h3 p hp).2.1, (blk_cell h1 _).trans (h3 p hp).2.2⟩
set_option maxHeartbeats 400000 in
theorem isCut_ko (h : E.Ko w m) (p q : Nat) (hp : p < 16) (hq : q < 16) : Calls Try.prog 46 #[.pointer (some ⟨E.b, 0, none⟩), .agg #[.int .i64 p, .int .i64 q]] w fun e w' => e = .returned (.bool (E.cut p q)) ∧ Below w.heap.size w w' := by
  generalize hW : w.alloc (.cells #[.int .i64 p, .int .i64 q] 80) = W
  have hbW : Below w.heap.size w W := by rw [← hW]; exact (Below.refl _ w).alloc (Nat.le_refl _) _
  have h1 := h.still hbW
  obtain ⟨D, hown, hD⟩ := h1.cut
  have hk := kl_some p q hp hq
  unfold pv at hk
  rw [← hD p q hp hq]
  have hS : ∀ w', Below W.heap.size W w' → w'.cell? ⟨E.b, 2, none⟩ = some (.map (some E.bc)) ∧ w'.cell? ⟨w.heap.size, 0, none⟩ = some (.int .i64 p) ∧ w'.cell? ⟨w.heap.size, 1, none⟩ = some (.int .i64 q) ∧ (Instr.lookup 73 (.map (some E.bc)) (.agg #[.int .i64 p, .int .i64 q]) true).run Try.prog w' = .ok (.tuple #[.agg #[], .bool (Maps.has D (klP Try.prog p q))]) w' ∧ Below W.heap.size W w' := by
    intro w' hb
    refine ⟨(h1.still hb).c2, ?_, ?_, ?_, hb⟩
    · subst hW; exact new_cells hb 0 rfl
    · subst hW; exact new_cells hb 1 rfl
    · obtain ⟨v, ps, hrun, hv⟩ := ((Kept.ofBelow hb (fun _ => False)).map hown id).look_ok law Try.underlying73 (zeroU _) (zd := .agg []) (zp := []) unitElem_mk hk
      obtain ⟨rfl, _⟩ := unitElem_inv hv
      exact hrun
  have hs0 := hS W (Below.refl _ _)
  have hb0 : Hid (Below w.heap.size w W) := hbW
  clear h h1 hD hown hbW
  go_enter Try.func46, Try.ntmps46
  go_wp2
  go_region_held3 (fun w' => w'.cell? ⟨E.b, 2, none⟩ = some (.map (some E.bc)) ∧ w'.cell? ⟨w.heap.size, 0, none⟩ = some (.int .i64 p) ∧ w'.cell? ⟨w.heap.size, 1, none⟩ = some (.int .i64 q) ∧ (Instr.lookup 73 (.map (some E.bc)) (.agg #[.int .i64 p, .int .i64 q]) true).run Try.prog w' = .ok (.tuple #[.agg #[], .bool (Maps.has D (klP Try.prog p q))]) w' ∧ Below W.heap.size W w')
    (first | (go_split_ands; apply hS; repeat (first | assumption | apply Below.drew | apply balloc))) (fail)
  all_goals (go_wp2; go_ret; rename_i hHeld; exact ⟨rfl, bstep hb0.out hHeld.2.2.2.2⟩)
theorem isCut_isko (h : E.Ko w m) {p q : Nat} (hp : p < 16) (hq : q < 16) {c : Bool} (hc : E.cut p q = c) : ∀ w', Below w.heap.size w w' → Calls Try.prog 46 #[.pointer (some ⟨E.b, 0, none⟩), .agg #[.int .i64 p, .int .i64 q]] w' fun e w2 => e = .returned (.bool c) ∧ Below w'.heap.size w' w2 :=
  fun w' hb => (isCut_ko (h.still hb) p q hp hq).mono fun e w2 ⟨h1, h2⟩ => ⟨by rw [h1, hc], h2⟩
set_option maxHeartbeats 1000000 in
theorem barrier_ko (h : E.Ko w m) (f : Fx) (p q : Nat) (h1 : f.src = p) (h2 : f.dst = q) (hp : p < E.nn) (hq : q < E.nn) : Calls Try.prog 27 #[.pointer (some ⟨E.b, 0, none⟩), .agg f.cs] w fun e w' => e = .returned (.int .i64 (barE E p q)) ∧ Below w.heap.size w w' := by
  have hn := h.n16
  have HPa := fun w => pathOf_any (w := w) f
  rw [h1, h2] at HPa
  unfold Fx.cs at HPa ⊢
  rw [h1, h2] at HPa ⊢
  generalize hW : w.alloc (.cells #[.int .i64 f.id, .int .i64 p, .int .i64 q, .int .i64 f.due, .slice f.a f.n f.c] 43) = W
  have hbW : Below w.heap.size w W := by rw [← hW]; exact balloc (Below.refl _ w)
  have hblk : W.heap[w.heap.size]? = some (.cells #[.int .i64 f.id, .int .i64 p, .int .i64 q, .int .i64 f.due, .slice f.a f.n f.c] 43 (0, 0)) := by rw [← hW]; exact heap_alloc_new w _
  obtain ⟨e0, e1, e2, e3, e4⟩ := fl_cells hblk
  have HPa : Hid (∀ w, Calls Try.prog 49 #[.agg #[.int .i64 f.id, .int .i64 p, .int .i64 q, .int .i64 f.due, .slice f.a f.n f.c]] w fun e w' => e = .returned (.agg #[.int .i64 p, .int .i64 q]) ∧ Below w.heap.size w w') := HPa
  generalize hc : E.cut p q = c
  have HC : Hid (∀ w', Below w.heap.size w w' → Calls Try.prog 46 #[.pointer (some ⟨E.b, 0, none⟩), .agg #[.int .i64 p, .int .i64 q]] w' fun e w2 => e = .returned (.bool c) ∧ Below w'.heap.size w' w2) := isCut_isko h (by omega) (by omega) hc
  have Hh : Hid (E.Ko w m) := h
  have Hb : Hid (Below w.heap.size w W) := hbW
  have i1 : (0 : Int) ≤ (q : Int) := Int.natCast_nonneg _
  have i2 : (q : Int) < (E.nn : Int) := by omega
  unfold barE
  rw [hc]
  generalize hu : E.up q = u
  clear h hbW hblk
  cases c <;> cases u <;>
  · go_enter Try.func27, Try.ntmps27
    go_wp2_with (first
      | (go_at_call 49; refine (HPa.out _).mono ?_; rintro e w1 ⟨rfl, hb1⟩; have r1 : Hid (Below w.heap.size w w1) := bstep Hb.out hb1; have k1 := below_at hb1 e1; have k2 := below_at hb1 e2; clear hb1)
      | (go_at_call 46; refine (HC.out _ r1.out).mono ?_; rintro e w2 ⟨rfl, hb2⟩; have r2 : Hid (Below w.heap.size w w2) := bstep r1.out hb2; have m2 := below_at hb2 k2; have c1 := (Hh.out.still r2.out).c1; have d0 := ((Hh.out.still r2.out).nodC hq).1; rw [hu] at d0; clear hb2)
      | fail)
    first
      | (go_ret; exact ⟨rfl, r2.out⟩)
      | (go_quiet (fail); go_wp2; go_ret; exact ⟨rfl, below_drewN r2.out _⟩)
end
end Go.Proofs.Ytnhhjelplmdloaa.Et
namespace Go.Proofs.Ytnhhjelplmdloaa.Et
open Go.RowKit Go.Maps
set_option linter.unusedVariables false
set_option linter.unusedSimpArgs false
set_option maxRecDepth 100000
def ckN (E : En) : Int := wrap64 (E.clock + 1)
def stays (E : En) (f : Fx) : Bool := decide (f.due ≠ ckN E)
def comes (E : En) (f : Fx) : Bool := decide (f.due = ckN E) && decide (barE E f.src.toNat f.dst.toNat = 0)
def lefts (E : En) (k : Nat) : List Fx := (E.fs.take k).filter (stays E)
def arrs (E : En) (k : Nat) : List Fx := (E.fs.take k).filter (comes E)
theorem take_next {fs : List Fx} {k : Nat} (hk : k < fs.length) : fs.take (k + 1) = fs.take k ++ [fs.getD k f0] := by
  rw [List.take_succ_eq_append_getElem hk]
  simp [List.getD, List.getElem?_eq_getElem hk]
theorem lefts_next {E : En} {k : Nat} (hk : k < E.fs.length) : lefts E (k + 1) = lefts E k ++ (if stays E (E.fs.getD k f0) then [E.fs.getD k f0] else []) := by
  unfold lefts
  rw [take_next hk, List.filter_append]
  congr 1
  simp [List.filter_cons]
theorem arrs_next {E : En} {k : Nat} (hk : k < E.fs.length) : arrs E (k + 1) = arrs E k ++ (if comes E (E.fs.getD k f0) then [E.fs.getD k f0] else []) := by
  unfold arrs
  rw [take_next hk, List.filter_append]
  congr 1
  simp [List.filter_cons]
theorem lefts_le (E : En) (k : Nat) : (lefts E k).length ≤ k := by
  unfold lefts
  exact Nat.le_trans (List.length_filter_le _ _) (by simp; omega)
theorem arrs_le (E : En) (k : Nat) : (arrs E k).length ≤ k := by
  unfold arrs
  exact Nat.le_trans (List.length_filter_le _ _) (by simp; omega)
structure RI (w wr : World) (E : En) (B m g k : Nat) (L : List Value) (av : Value) : Prop where
  ko : En.Ko { E with clock := ckN E } wr m
  blk : wr.heap[g]? = some (.cells L.toArray 43 (0, 0))
  len : L.length = E.vc * 5
  tk : L.take ((lefts E k).length * 5) = flCells (lefts E k)
  rest : ∀ j, k * 5 ≤ j → j < E.fs.length * 5 → L[j]? = (flCells E.fs)[j]?
  byt : ∀ f ∈ E.fs, f.byt wr B
  arr : wr.ownsRow w.heap.size 43 5 av (arrs E k).length (flCells (arrs E k))
  kept : Kept w wr (fun j => j = g ∨ j = E.b)
section
variable {E E' : En} {w w' W w1 wr wr' : World} {B m g k : Nat} {L : List Value} {av : Value}
theorem RI.still (h : RI w wr E B m g k L av) (hb : Below wr.heap.size wr wr') : RI w wr' E B m g k L av :=
  ⟨h.ko.still hb, (hb.block _ (lt_heap h.blk)).trans h.blk, h.len, h.tk, h.rest, fun f hf => (h.byt f hf).keep (Kept.ofBelow hb (fun _ => False)) (fun _ _ => id), own_still h.arr hb, h.kept.trans (Kept.ofBelow hb _)⟩
theorem RI.core (h : RI w wr E B m g k L av) : ∀ j, En.core { E with clock := ckN E } j → ¬ j = g := by
  intro j hj e
  subst e
  have hb := h.blk
  rcases hj with e | e | e | e
  · have := h.ko.blk; rw [← e, hb] at this; simp at this
  · obtain ⟨cs, h1, _⟩ := h.ko.nod; rw [← e, hb] at h1; simp at h1
  · obtain ⟨es, cl, h1⟩ := h.ko.cut.obj; rw [← e, hb] at h1; simp at h1
  · obtain ⟨es, cl, h1⟩ := h.ko.del.obj; rw [← e, hb] at h1; simp at h1
theorem RI.push (h : RI w wr E B m g k L av) (hk : k < E.fs.length) (hN : E.fs.length ≤ E.vc) (hg : g < w.heap.size) (hs : stays E (E.fs.getD k f0) = true) :
    RI w (wr.setCells g (0 + (lefts E k).length * 5) (E.fs.getD k f0).cs.toList) E B m g (k + 1) (splice L (0 + (lefts E k).length * 5) (E.fs.getD k f0).cs.toList) av := by
  have hll := lefts_le E k
  have hc5 : (E.fs.getD k f0).cs.toList.length = 5 := rfl
  have hL := h.len
  have hfit : 0 + (lefts E k).length * 5 + (E.fs.getD k f0).cs.toList.length ≤ L.length := by rw [hc5, hL]; omega
  have kp := kept_setCells (g := g) (E.fs.getD k f0).cs.toList (0 + (lefts E k).length * 5) wr
  have hcm : comes E (E.fs.getD k f0) = false := by
    unfold stays at hs
    unfold comes
    simp at hs
    simp [hs]
  refine ⟨h.ko.keep kp h.core, heap_setCells _ _ wr L h.blk hfit, ?_, ?_, ?_, ?_, ?_, h.kept.trans (kp.mono (fun _ _ e => .inl e))⟩
  · rw [length_splice _ _ _ hfit, hL]
  · rw [lefts_next hk, hs]
    simp only [if_true, List.length_append, List.length_cons, List.length_nil]
    unfold splice
    have e0 : L.take (0 + (lefts E k).length * 5) = flCells (lefts E k) := by rw [Nat.zero_add]; exact h.tk
    rw [e0, ← List.append_assoc, List.take_append_of_le_length (by simp only [List.length_append, flCells_len, hc5]; omega), List.take_of_length_le (by simp only [List.length_append, flCells_len, hc5]; omega), flCells_app]
    simp [flCells]
  · intro j hj hj2
    rw [← h.rest j (by omega) hj2]
    unfold splice
    have h1 : (L.take (0 + (lefts E k).length * 5)).length = (lefts E k).length * 5 := by rw [List.length_take]; omega
    rw [List.getElem?_append_right (by rw [h1]; omega), h1, List.getElem?_append_right (by rw [hc5]; omega), hc5, List.getElem?_drop]
    congr 1
    omega
  · intro f hf
    exact (h.byt f hf).keep kp (fun j hj e => by
      obtain ⟨cur, hc⟩ := row_ty (h.byt f hf).1 hj
      rw [e, h.blk] at hc
      simp at hc)
  · rw [arrs_next hk, hcm]
    simp only [Bool.false_eq_true, if_false, List.append_nil]
    exact kp.owns h.arr (fun j hj e => by have := (World.ownsRow.lt h.arr j hj).1; omega)
theorem RI.skip (h : RI w wr E B m g k L av) (hk : k < E.fs.length) (hs : stays E (E.fs.getD k f0) = false) (hc : comes E (E.fs.getD k f0) = false) : RI w wr E B m g (k + 1) L av := by
  have e1 : lefts E (k + 1) = lefts E k := by rw [lefts_next hk, hs]; simp
  have e2 : arrs E (k + 1) = arrs E k := by rw [arrs_next hk, hc]; simp
  exact ⟨h.ko, h.blk, h.len, by rw [e1]; exact h.tk, fun j hj => h.rest j (by omega), h.byt, by rw [e2]; exact h.arr, h.kept⟩
theorem RI.come {av' : Value} (h : RI w wr E B m g k L av) (hk : k < E.fs.length) (hg : g < w.heap.size) (hbw : E.b < w.heap.size) (hlt : ∀ j, En.core { E with clock := ckN E } j → j < w.heap.size) (hbl : ∀ f ∈ E.fs, ∀ j, f.v.ownBlock = some j → j < w.heap.size) (hs : stays E (E.fs.getD k f0) = false) (hc : comes E (E.fs.getD k f0) = true) (hown : wr'.ownsRow w.heap.size 43 5 av' ((arrs E k).length + 1) (flCells (arrs E k) ++ (E.fs.getD k f0).cs.toList)) (hgrow : wr.grownBy wr' av.ownBlock) :
    RI w wr' E B m g (k + 1) L av' := by
  have e1 : lefts E (k + 1) = lefts E k := by rw [lefts_next hk, hs]; simp
  have e2 : arrs E (k + 1) = arrs E k ++ [E.fs.getD k f0] := by rw [arrs_next hk, hc]; simp
  have kp := Kept.ofGrown hgrow
  have hav : ∀ j, av.ownBlock = some j → w.heap.size ≤ j := fun j hj => (World.ownsRow.lt h.arr j hj).1
  have hno : ∀ j, j < w.heap.size → ¬ some j = av.ownBlock := fun j hj e => by have := hav j e.symm; omega
  refine ⟨h.ko.keep kp (fun j hj => hno j (hlt j hj)), kp.obj h.blk (hno g hg), h.len, by rw [e1]; exact h.tk, fun j hj => h.rest j (by omega), fun f hf => (h.byt f hf).keep kp (fun j hj => hno j (hbl f hf j hj)), ?_, h.kept.step kp (fun j hj => .inr (hav j hj.symm))⟩
  rw [e2, flCells_app]
  simp only [List.length_append, List.length_cons, List.length_nil]
  simpa [flCells] using hown
theorem RI.at (h : RI w wr E B m g k L av) (hk : k < E.fs.length) : wr.cell? ⟨g, k * 5, none⟩ = some (.int .i64 (E.fs.getD k f0).id) ∧ wr.cell? ⟨g, k * 5 + 1, none⟩ = some (.int .i64 (E.fs.getD k f0).src) ∧ wr.cell? ⟨g, k * 5 + 2, none⟩ = some (.int .i64 (E.fs.getD k f0).dst) ∧ wr.cell? ⟨g, k * 5 + 3, none⟩ = some (.int .i64 (E.fs.getD k f0).due) ∧ wr.cell? ⟨g, k * 5 + 4, none⟩ = some (.slice (E.fs.getD k f0).a (E.fs.getD k f0).n (E.fs.getD k f0).c) := by
  have hx : ∀ j, j < 5 → wr.cell? ⟨g, k * 5 + j, none⟩ = (E.fs.getD k f0).cs[j]? := by
    intro j hj
    rw [blk_cell h.blk _, ← flCells_get E.fs k hk j hj, ← h.rest _ (by omega) (by omega)]
    simp
  exact ⟨hx 0 (by omega), hx 1 (by omega), hx 2 (by omega), hx 3 (by omega), hx 4 (by omega)⟩
theorem RI.olds (h : RI w wr E B m g k L av) : ∀ j u, (flCells (lefts E k))[j]? = some u → wr.cell? ⟨g, 0 + j, none⟩ = some u := by
  intro j u hu
  have hj := (List.getElem?_eq_some_iff.1 hu).1
  rw [flCells_len] at hj
  rw [blk_cell h.blk _, Nat.zero_add]
  simp only [List.getElem?_toArray]
  rw [← hu, ← h.tk, List.getElem?_take_of_lt hj]
theorem RI.spare (h : RI w wr E B m g k L av) (hk : k < E.fs.length) (hN : E.fs.length ≤ E.vc) : ∀ j, j < (E.fs.getD k f0).cs.toList.length → (wr.cell? ⟨g, 0 + (lefts E k).length * 5 + j, none⟩).isSome = true ∧ wr.frozen? ⟨g, 0 + (lefts E k).length * 5 + j, none⟩ = false := by
  intro j hj
  have hc5 : (E.fs.getD k f0).cs.toList.length = 5 := rfl
  rw [hc5] at hj
  have := lefts_le E k
  have hl := h.len
  refine ⟨?_, frozen_of_row wr _ _ _ _ h.blk⟩
  rw [blk_cell h.blk _]
  simp only [List.getElem?_toArray]
  rw [List.getElem?_eq_getElem (by omega)]
  rfl
theorem lefts_sub (E : En) (k : Nat) : (lefts E k).Sublist E.fs := (List.filter_sublist).trans (List.take_sublist _ _)
theorem arrs_sub (E : En) (k : Nat) : (arrs E k).Sublist E.fs := (List.filter_sublist).trans (List.take_sublist _ _)
theorem RI.last {WC : World} {L' : List Value} (h0 : E.Ok w B m) (h : RI w wr E B m g k L av) (hva : (Value.slice E.va E.fs.length E.vc).ownBlock = some g) (hBg : B ≤ g) (hvc : E.vc ≤ maxLen) (hfk : (lefts E k).length ≤ E.vc) (kc : Kept wr WC (fun j => j = g)) (hg : WC.heap[g]? = some (.cells L'.toArray 43 (0, 0))) (hl : L'.length = E.vc * 5) (ht : L'.take ((lefts E k).length * 5) = flCells (lefts E k)) :
    Step w (WC.setCell ⟨E.b, 6, none⟩ (.slice (some ⟨g, 0, none⟩) (lefts E k).length E.vc)) E { E with clock := ckN E, va := some ⟨g, 0, none⟩, fs := lefts E k } B m ∧
    (∃ a n c, av = .slice a n c ∧ RdF (WC.setCell ⟨E.b, 6, none⟩ (.slice (some ⟨g, 0, none⟩) (lefts E k).length E.vc)) a n ((arrs E k).map Fx.d) ∧ n = (arrs E k).length) := by
  have hgr := h0.row_ne hva
  have hko := h.ko.keep kc h.core
  have ks : Kept WC (WC.setCell ⟨E.b, 6, none⟩ (.slice (some ⟨g, 0, none⟩) (lefts E k).length E.vc)) (fun j => j = E.b) := kset WC E.b 6 _ rfl
  have k4 : Kept w (WC.setCell ⟨E.b, 6, none⟩ (.slice (some ⟨g, 0, none⟩) (lefts E k).length E.vc)) (fun j => j = g ∨ j = E.b) := (h.kept.trans (kc.mono (fun _ _ e => .inl e))).trans (ks.mono (fun _ _ e => .inr e))
  have kr : Kept wr (WC.setCell ⟨E.b, 6, none⟩ (.slice (some ⟨g, 0, none⟩) (lefts E k).length E.vc)) (fun j => j = g ∨ j = E.b) := (kc.mono (fun _ _ e => .inl e)).trans (ks.mono (fun _ _ e => .inr e))
  have hsub := lefts_sub E k
  have hbyt : ∀ f ∈ E.fs, f.byt (WC.setCell ⟨E.b, 6, none⟩ (.slice (some ⟨g, 0, none⟩) (lefts E k).length E.vc)) B := fun f hf => (h.byt f hf).keep kr (fun j hj e => by
    rcases e with e | e
    · exact (h0.byt_ne hf hj).2.2.2.2 (by rw [e]; exact hva)
    · exact (h0.byt_ne hf hj).1 e)
  refine ⟨⟨⟨?_, ?_, ?_, ?_, ⟨?_, ?_, ?_⟩, h0.ge, h0.ne, h0.n16, ?_, h0.dly⟩, ?_, ?_⟩, ?_⟩
  · have := blk_set (i := 6) (v := .slice (some ⟨g, 0, none⟩) (lefts E k).length E.vc) hko.blk rfl
    rw [this]
    simp [En.cs]
  · exact hko.nod.keep ks (fun e => h0.b_bn e.symm)
  · exact hko.cut.keep ks (fun e => h0.b_bc e.symm)
  · exact hko.del.keep ks (fun e => h0.b_bd e.symm)
  · exact own_set (list_row hBg hg hl ht hfk hvc) (by simp [Value.ownBlock]; exact hgr.1)
  · exact fun f hf => hbyt f (hsub.subset hf)
  · exact h0.fls.apt.sublist hsub
  · exact fun f hf => h0.pth f (hsub.subset hf)
  · exact k4.mono (fun j _ e => e.elim (fun e => .inr (.inr (.inr (.inr (.inl (by rw [e]; exact hva)))))) (fun e => .inl e))
  · intro j hj
    left
    rcases hj with e | e | e | e | e | ⟨x, hx, e⟩
    · exact .inl e
    · exact .inr (.inl e)
    · exact .inr (.inr (.inl e))
    · exact .inr (.inr (.inr (.inl e)))
    · simp [Value.ownBlock] at e
      exact .inr (.inr (.inr (.inr (.inl (by rw [hva, e])))))
    · exact .inr (.inr (.inr (.inr (.inr ⟨x, hsub.subset hx, e⟩))))
  · have hg0 : g < w.heap.size := by
      obtain ⟨cur, hc⟩ := row_ty h0.fls.row hva
      exact lt_heap hc
    have hb0 := lt_heap h0.blk
    have ho := kr.owns h.arr (fun j hj e => by
      have := (World.ownsRow.lt h.arr j hj).1
      rcases e with e | e <;> omega)
    obtain ⟨a, c, hav⟩ : ∃ a c, av = Value.slice a (arrs E k).length c := by
      rcases h.arr.2 with ⟨h3, h4⟩ | ⟨g', cap, cur, hv, _⟩
      · exact ⟨none, 0, by rw [h4]; exact h3⟩
      · exact ⟨_, _, hv⟩
    subst hav
    exact ⟨a, _, c, rfl, ⟨arrs E k, rfl, rfl, fun f hf => (hbyt f ((arrs_sub E k).subset hf)).rd, row_cells ho rfl⟩, rfl⟩
end
end Go.Proofs.Ytnhhjelplmdloaa.Et
