import Derived.Test.YtnhhjelplmdloaaV04
namespace Go.Proofs.Ytnhhjelplmdloaa.Et
open Go.RowKit Go.Maps
set_option linter.unusedVariables false
set_option linter.unusedSimpArgs false
set_option maxRecDepth 100000
section
variable {E E' : En} {w w' W w1 : World} {B m : Nat}
def put5 (W : World) (k : Nat) (v0 v1 v2 v3 v4 : Value) : World := ((((W.setCell ⟨k, 0, none⟩ v0).setCell ⟨k, 1, none⟩ v1).setCell ⟨k, 2, none⟩ v2).setCell ⟨k, 3, none⟩ v3).setCell ⟨k, 4, none⟩ v4
theorem put5_eq (W : World) (k : Nat) (v0 v1 v2 v3 v4 : Value) : ((((W.setCell ⟨k, 0, none⟩ v0).setCell ⟨k, 1, none⟩ v1).setCell ⟨k, 2, none⟩ v2).setCell ⟨k, 3, none⟩ v3).setCell ⟨k, 4, none⟩ v4 = put5 W k v0 v1 v2 v3 v4 := rfl
theorem put5_blk {k : Nat} {t : TypeId} {z0 z1 z2 z3 z4 : Value} (v0 v1 v2 v3 v4 : Value) (h : W.heap[k]? = some (.cells #[z0, z1, z2, z3, z4] t (0, 0))) : (put5 W k v0 v1 v2 v3 v4).heap[k]? = some (.cells #[v0, v1, v2, v3, v4] t (0, 0)) :=
  blk_set (blk_set (blk_set (blk_set (blk_set h rfl) rfl) rfl) rfl) rfl
theorem put5_kept (k : Nat) (v0 v1 v2 v3 v4 : Value) : Kept W (put5 W k v0 v1 v2 v3 v4) (fun j => j = k) :=
  ((((kset (P := fun j => j = k) W k 0 v0 rfl).trans (kset _ k 1 v1 rfl)).trans (kset _ k 2 v2 rfl)).trans (kset _ k 3 v3 rfl)).trans (kset _ k 4 v4 rfl)
theorem put5_below {k : Nat} (v0 v1 v2 v3 v4 : Value) (h : Below w.heap.size w W) (hk : w.heap.size ≤ k) : Below w.heap.size w (put5 W k v0 v1 v2 v3 v4) :=
  h.trans ((put5_kept k v0 v1 v2 v3 v4).below h.size (fun j hj e => by omega))
set_option maxHeartbeats 1000000 in
theorem take_none (h : E.Ok w B m) (k : Int) (hk : ¬ (0 ≤ k ∧ k < E.fs.length)) : Calls Try.prog 19 #[.pointer (some ⟨E.b, 0, none⟩), .int .i64 k] w fun e w' => e = .returned (.tuple #[.agg f0.cs, .int .i64 34]) ∧ Below w.heap.size w w' := by
  generalize hW : w.alloc (.cells #[.int .i64 0, .int .i64 0, .int .i64 0, .int .i64 0, .slice none 0 0] 43) = W
  have hbW : Below w.heap.size w W := by rw [← hW]; exact balloc (Below.refl _ w)
  have hblk : W.heap[w.heap.size]? = some (.cells #[.int .i64 0, .int .i64 0, .int .i64 0, .int .i64 0, .slice none 0 0] 43 (0, 0)) := by rw [← hW]; exact heap_alloc_new w _
  have HP := isPlace_any (h.still hbW) k
  rw [decide_eq_false hk] at HP
  obtain ⟨e0, e1, e2, e3, e4⟩ := fl_cells hblk
  obtain ⟨g0, g1, g2, g3, g4⟩ := fl_frz hblk
  have Hb : Hid (Below w.heap.size w W) := hbW
  have HB : Hid (W.heap[w.heap.size]? = some (.cells #[.int .i64 0, .int .i64 0, .int .i64 0, .int .i64 0, .slice none 0 0] 43 (0, 0))) := hblk
  clear h hbW hblk
  go_enter Try.func19, Try.ntmps19
  go_wp2_with (first | (go_at_call 42; refine HP.mono ?_; rintro e w1 ⟨rfl, rfl⟩) | fail)
  rw [put5_eq]
  obtain ⟨q0, q1, q2, q3, q4⟩ := fl_cells (put5_blk (.int .i64 0) (.int .i64 0) (.int .i64 0) (.int .i64 0) (.slice none 0 0) HB.out)
  exact bodyPost_ret (v := .tuple #[.agg f0.cs, .int .i64 34]) (by simp [results, Try.results19, go_sem, q0, q1, q2, q3, q4, Fx.cs, f0]) rfl ⟨rfl, put5_below _ _ _ _ _ Hb.out (Nat.le_refl _)⟩
set_option maxHeartbeats 400000 in
theorem take_bar (h : E.Ok w B m) (k : Nat) (hk : k < E.fs.length) (p q : Nat) (hs : (E.fs.getD k f0).src = p) (hd : (E.fs.getD k f0).dst = q) (hp : p < E.nn) (hq : q < E.nn) (hb : barE E p q ≠ 0) : Calls Try.prog 19 #[.pointer (some ⟨E.b, 0, none⟩), .int .i64 k] w fun e w' => e = .returned (.tuple #[.agg f0.cs, .int .i64 (barE E p q)]) ∧ Below w.heap.size w w' := by
  generalize hf : E.fs.getD k f0 = f at hs hd
  generalize hW : w.alloc (.cells #[.int .i64 0, .int .i64 0, .int .i64 0, .int .i64 0, .slice none 0 0] 43) = W
  have hbW : Below w.heap.size w W := by rw [← hW]; exact balloc (Below.refl _ w)
  have hblk : W.heap[w.heap.size]? = some (.cells #[.int .i64 0, .int .i64 0, .int .i64 0, .int .i64 0, .slice none 0 0] 43 (0, 0)) := by rw [← hW]; exact heap_alloc_new w _
  have hWs : W.heap.size = w.heap.size + 1 := by rw [← hW]; simp
  have HP := isPlace_any (h.still hbW) k
  rw [decide_eq_true (by omega)] at HP
  obtain ⟨g, hva, u0, u1, u2, u3, u4, uz⟩ := (h.still hbW).flC hk
  have c6 := (h.still hbW).c6
  rw [hva] at c6
  rw [hf] at u0 u1 u2 u3 u4
  have HBa : Hid (∀ w', Below w.heap.size w w' → Calls Try.prog 27 #[.pointer (some ⟨E.b, 0, none⟩), .agg f.cs] w' fun e w2 => e = .returned (.int .i64 (barE E p q)) ∧ Below w'.heap.size w' w2) := fun w' hb' => barrier_any (h.still hb') f p q hs hd hp hq
  generalize barE E p q = bE at HBa hb ⊢
  have Hb : Hid (Below w.heap.size w W) := hbW
  have HB : Hid (W.heap[w.heap.size]? = some (.cells #[.int .i64 0, .int .i64 0, .int .i64 0, .int .i64 0, .slice none 0 0] 43 (0, 0))) := hblk
  have i1 : (0 : Int) ≤ (k : Int) := Int.natCast_nonneg _
  have i2 : (k : Int) < (E.fs.length : Int) := by omega
  clear h hbW hblk uz
  unfold Fx.cs at HBa
  rw [hs, hd] at HBa
  rw [hs] at u1
  rw [hd] at u2
  go_enter Try.func19, Try.ntmps19
  go_wp2_with (first
    | (go_at_call 42; refine HP.mono ?_; rintro e w1 ⟨rfl, rfl⟩)
    | (go_at_call 27; refine (HBa.out _ (by repeat (first | exact Below.refl _ _ | assumption | exact Hb.out | apply Below.drew | apply balloc))).mono ?_; rintro e w2 ⟨rfl, hb2⟩; have HB2 : Hid (w2.heap[w.heap.size]? = some (.cells #[.int .i64 0, .int .i64 0, .int .i64 0, .int .i64 0, .slice none 0 0] 43 (0, 0))) := ((hb2.block _ (by simp; omega)).trans (by first | exact blk_alloc HB.out | exact HB.out)); obtain ⟨e0, e1, e2, e3, e4⟩ := fl_cells HB2.out; obtain ⟨g0, g1, g2, g3, g4⟩ := fl_frz HB2.out)
    | fail)
  rw [put5_eq]
  obtain ⟨q0, q1, q2, q3, q4⟩ := fl_cells (put5_blk (.int .i64 0) (.int .i64 0) (.int .i64 0) (.int .i64 0) (.slice none 0 0) HB2.out)
  exact bodyPost_ret (v := .tuple #[.agg f0.cs, .int .i64 bE]) (by simp [results, Try.results19, go_sem, q0, q1, q2, q3, q4, Fx.cs, f0]) rfl ⟨rfl, put5_below _ _ _ _ _ (bstep (balloc Hb.out) hb2) (Nat.le_refl _)⟩
theorem Step.after {w2 w3 w4 : World} (s : Step w w3 E E' B m) (k : Kept w3 w4 (fun j => j = w.heap.size)) (hne : ¬ E'.own w.heap.size) : Step w w4 E E' B m :=
  ⟨s.ok.keep k (fun j hj e => hne (e ▸ hj)), s.kept.step k (fun j hj => .inr (by omega)), s.own⟩
set_option maxHeartbeats 400000 in
theorem take_ok (h : E.Ok w B m) (k : Nat) (hk : k < E.fs.length) (hlen : E.fs.length ≤ 20000) (p q : Nat) (hs : (E.fs.getD k f0).src = p) (hd : (E.fs.getD k f0).dst = q) (hp : p < E.nn) (hq : q < E.nn) (hb : barE E p q = 0) : Calls Try.prog 19 #[.pointer (some ⟨E.b, 0, none⟩), .int .i64 k] w fun e w' => e = .returned (.tuple #[.agg (E.fs.getD k f0).cs, .int .i64 0]) ∧ (∃ a c, Step w w' E { E with va := a, vc := c, fs := E.fs.eraseIdx k } B m) ∧ Rd w' (E.fs.getD k f0).a (E.fs.getD k f0).n (E.fs.getD k f0).c (E.fs.getD k f0).bs := by
  have hmem := mem_getD hk
  generalize hf : E.fs.getD k f0 = f at hs hd hmem ⊢
  have hfb := h.fls.byt f hmem
  have hfo : ∀ j, f.v.ownBlock = some j → j < w.heap.size ∧ ¬ ((Value.slice E.va E.fs.length E.vc).ownBlock = some j ∨ j = E.b) := fun j hj => ⟨(World.ownsRow.lt hfb.1 j hj).2, fun e => e.elim (h.byt_ne hmem hj).2.2.2.2 (h.byt_ne hmem hj).1⟩
  have hro : ∀ j, ((Value.slice E.va E.fs.length E.vc).ownBlock = some j ∨ j = E.b) → j < w.heap.size := fun j hj => hj.elim (fun e => h.ltOwn (.inr (.inr (.inr (.inr (.inl e)))))) (fun e => h.ltOwn (.inl e))
  generalize hW : w.alloc (.cells #[.int .i64 0, .int .i64 0, .int .i64 0, .int .i64 0, .slice none 0 0] 43) = W
  have hbW : Below w.heap.size w W := by rw [← hW]; exact balloc (Below.refl _ w)
  have hblk : W.heap[w.heap.size]? = some (.cells #[.int .i64 0, .int .i64 0, .int .i64 0, .int .i64 0, .slice none 0 0] 43 (0, 0)) := by rw [← hW]; exact heap_alloc_new w _
  have hWs : W.heap.size = w.heap.size + 1 := by rw [← hW]; simp
  have HP := isPlace_any (h.still hbW) k
  rw [decide_eq_true (by omega)] at HP
  obtain ⟨g, hva, u0, u1, u2, u3, u4, uz⟩ := (h.still hbW).flC hk
  have c6 := (h.still hbW).c6
  rw [hva] at c6
  rw [hf] at u0 u1 u2 u3 u4
  have HBa : Hid (∀ w', Below w.heap.size w w' → Calls Try.prog 27 #[.pointer (some ⟨E.b, 0, none⟩), .agg f.cs] w' fun e w2 => e = .returned (.int .i64 (barE E p q)) ∧ Below w'.heap.size w' w2) := fun w' hb' => barrier_any (h.still hb') f p q hs hd hp hq
  have HDr : Hid (∀ w', Below w.heap.size w w' → Calls Try.prog 43 #[.pointer (some ⟨E.b, 0, none⟩), .int .i64 k] w' fun e w2 => e = .returned (.tuple #[]) ∧ (∃ a c, Step w' w2 E { E with va := a, vc := c, fs := E.fs.eraseIdx k } B m) ∧ Kept w' w2 (fun j => (Value.slice E.va E.fs.length E.vc).ownBlock = some j ∨ j = E.b)) := fun w' hb' => drop_any (h.still hb') k hk hlen
  rw [hb] at HBa
  have Hb : Hid (Below w.heap.size w W) := hbW
  have HB : Hid (W.heap[w.heap.size]? = some (.cells #[.int .i64 0, .int .i64 0, .int .i64 0, .int .i64 0, .slice none 0 0] 43 (0, 0))) := hblk
  have i1 : (0 : Int) ≤ (k : Int) := Int.natCast_nonneg _
  have i2 : (k : Int) < (E.fs.length : Int) := by omega
  have HE : Hid (E.Ok w B m) := h
  have Hfo : Hid (∀ j, f.v.ownBlock = some j → j < w.heap.size ∧ ¬ ((Value.slice E.va E.fs.length E.vc).ownBlock = some j ∨ j = E.b)) := hfo
  have Hro : Hid (∀ j, ((Value.slice E.va E.fs.length E.vc).ownBlock = some j ∨ j = E.b) → j < w.heap.size) := hro
  have Hfb : Hid (f.byt w B) := hfb
  clear h hbW hblk uz hfo hro hfb hb
  unfold Fx.cs at HBa ⊢
  rw [hs, hd] at HBa ⊢
  rw [hs] at u1
  rw [hd] at u2
  go_enter Try.func19, Try.ntmps19
  go_wp2_with (first
    | (go_at_call 42; refine HP.mono ?_; rintro e w1 ⟨rfl, rfl⟩)
    | (go_at_call 27; refine (HBa.out _ (by repeat (first | exact Below.refl _ _ | assumption | exact Hb.out | apply Below.drew | apply balloc))).mono ?_; rintro e w2 ⟨rfl, hb2⟩; have R2 : Hid (Below w.heap.size w w2) := (bstep (balloc Hb.out) hb2); have HB2 : Hid (w2.heap[w.heap.size]? = some (.cells #[.int .i64 0, .int .i64 0, .int .i64 0, .int .i64 0, .slice none 0 0] 43 (0, 0))) := ((hb2.block _ (by simp; omega)).trans (by first | exact blk_alloc HB.out | exact HB.out)); have HF2 : Hid (w2.heap[w.heap.size + 1]? = some (.cells #[.int .i64 f.id, .int .i64 p, .int .i64 q, .int .i64 f.due, .slice f.a f.n f.c] 43 (0, 0))) := ((hb2.block _ (by simp; omega)).trans (by rw [← hWs]; exact heap_alloc_new W _)); clear hb2)
    | (go_at_call 43; refine (HDr.out _ R2.out).mono ?_; rintro e w3 ⟨rfl, ⟨av, cv, hs3⟩, hk3⟩; have HS3 : Hid (Step w w3 E { E with va := av, vc := cv, fs := E.fs.eraseIdx k } B m) := (Step.pre R2.out hs3); have HB3 : Hid (w3.heap[w.heap.size]? = some (.cells #[.int .i64 0, .int .i64 0, .int .i64 0, .int .i64 0, .slice none 0 0] 43 (0, 0))) := (hk3.obj HB2.out (fun e => by have := Hro.out _ e; omega)); have HF3 : Hid (w3.heap[w.heap.size + 1]? = some (.cells #[.int .i64 f.id, .int .i64 p, .int .i64 q, .int .i64 f.due, .slice f.a f.n f.c] 43 (0, 0))) := (hk3.obj HF2.out (fun e => by have := Hro.out _ e; omega)); obtain ⟨e0, e1, e2, e3, e4⟩ := fl_cells HB3.out; obtain ⟨g0, g1, g2, g3, g4⟩ := fl_frz HB3.out; obtain ⟨x0, x1, x2, x3, x4⟩ := fl_cells HF3.out; have HO3 : Hid (∀ j, ({ E with va := av, vc := cv, fs := E.fs.eraseIdx k } : En).own j → E.own j ∨ w2.heap.size ≤ j) := hs3.own; have HK3 : Hid (Kept w2 w3 (fun j => (Value.slice E.va E.fs.length E.vc).ownBlock = some j ∨ j = E.b)) := hk3; clear hs3 hk3)
    | fail)
  rw [put5_eq]
  obtain ⟨q0, q1, q2, q3, q4⟩ := fl_cells (put5_blk (.int .i64 f.id) (.int .i64 p) (.int .i64 q) (.int .i64 f.due) (.slice f.a f.n f.c) HB3.out)
  have hne : ¬ ({ E with va := av, vc := cv, fs := E.fs.eraseIdx k } : En).own w.heap.size := by
    intro ho
    rcases HO3.out _ ho with h1 | h1
    · have := HE.out.ltOwn h1; omega
    · have := lt_heap HB2.out; omega
  exact bodyPost_ret (v := .tuple #[.agg #[.int .i64 f.id, .int .i64 p, .int .i64 q, .int .i64 f.due, .slice f.a f.n f.c], .int .i64 0]) (by simp [results, Try.results19, go_sem, q0, q1, q2, q3, q4]) rfl ⟨rfl, ⟨av, cv, HS3.out.after (w2 := w2) (put5_kept _ _ _ _ _ _) hne⟩, (((Hfb.out.keep (Kept.ofBelow R2.out (fun _ => False)) (fun _ _ => id)).keep HK3.out (fun j hj => (Hfo.out j hj).2)).keep (put5_kept _ _ _ _ _ _) (fun j hj e => by have := (Hfo.out j hj).1; omega)).rd⟩
end
end Go.Proofs.Ytnhhjelplmdloaa.Et
