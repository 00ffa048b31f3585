import Derived.Test.YtnhhjelplmdloaaWa
import Derived.Deep.RegionLaw
import Derived.Lib.SliceRun
namespace Go.Proofs.Ytnhhjelplmdloaa.Et
open Go.RowKit Go.Maps
set_option linter.unusedVariables false
set_option linter.unusedSimpArgs false
set_option maxRecDepth 100000
section
variable {E E' : En} {w w' W : World} {B m : Nat}
theorem below_drewN {B : Nat} {a w : World} (h : Below B a w) (n : Nat) : Below B a (w.drewN n) := ⟨h.os, h.tape, h.output, h.size, h.block⟩
theorem far_cells {w2 w3 : World} (h : E.Ok W B m) (hb2 : Below W.heap.size W w2) (hgrow : w2.grownBy w3 (Value.slice E.va E.fs.length E.vc).ownBlock) :
    w3.cell? ⟨E.b, 6, none⟩ = some (.slice E.va E.fs.length E.vc) ∧ w3.frozen? ⟨E.b, 6, none⟩ = false ∧ ∀ k i v, E.b < k → (∀ j, E.own j → j < k) → W.cell? ⟨k, i, none⟩ = some v → w3.cell? ⟨k, i, none⟩ = some v := by
  have k3 : Kept W w3 (fun j => (Value.slice E.va E.fs.length E.vc).ownBlock = some j) := (Kept.ofBelow hb2 _).trans ((Kept.ofGrown hgrow).mono (fun j _ e => e.symm))
  have hblk3 : w3.heap[E.b]? = some (.cells E.cs 76 (0, 0)) := k3.obj h.blk (fun e => (h.row_ne e).1 rfl)
  refine ⟨(blk_cell hblk3 6).trans rfl, frozen_of_row w3 _ 6 _ _ hblk3, fun k i v _ hk hc => ?_⟩
  exact (World.cell?_of_block (w := W) (k3.block k (World.block_lt_of_cell? W _ hc) (fun e => by have := hk k (.inr (.inr (.inr (.inr (.inl e))))); omega))).trans hc
theorem Step.push {w2 w3 : World} (h : E.Ok W B m) (hB : B ≤ W.heap.size) (hb2 : Below W.heap.size W w2) (f : Fx) (hf : w2.ownsRow W.heap.size 5 1 f.v f.n (f.bs.map (Value.int .u8))) (hr : ∀ i, 0 ≤ f.bs.getD i 0 ∧ f.bs.getD i 0 ≤ 255)
    (hp : ∃ p q : Nat, f.src = p ∧ f.dst = q ∧ p < E.nn ∧ q < E.nn ∧ p ≠ q) (g cap : Nat) (hown : w3.ownsRow B 43 5 (.slice (some ⟨g, 0, none⟩) (E.fs.length + 1) cap) (E.fs.length + 1) (flCells E.fs ++ f.cs.toList))
    (hgrow : w2.grownBy w3 (Value.slice E.va E.fs.length E.vc).ownBlock) (hat : (Value.slice E.va E.fs.length E.vc).ownBlock = some g ∨ g = w2.heap.size) :
    Step W (w3.setCell ⟨E.b, 6, none⟩ (.slice (some ⟨g, 0, none⟩) (E.fs.length + 1) cap)) E { E with va := some ⟨g, 0, none⟩, vc := cap, fs := E.fs ++ [f] } B m := by
  have k3 : Kept W w3 (fun j => (Value.slice E.va E.fs.length E.vc).ownBlock = some j) := (Kept.ofBelow hb2 _).trans ((Kept.ofGrown hgrow).mono (fun j _ e => e.symm))
  have hblk3 : w3.heap[E.b]? = some (.cells E.cs 76 (0, 0)) := k3.obj h.blk (fun e => (h.row_ne e).1 rfl)
  have hgb : (Value.slice (some (⟨g, 0, none⟩ : Addr)) (E.fs.length + 1) cap).ownBlock ≠ some E.b := by
    intro e
    obtain ⟨cur, hc⟩ := row_ty hown e
    rw [hblk3] at hc
    simp at hc
  have ks : Kept w3 (w3.setCell ⟨E.b, 6, none⟩ (.slice (some ⟨g, 0, none⟩) (E.fs.length + 1) cap)) (fun j => j = E.b) := kset w3 E.b 6 _ rfl
  have k4 : Kept W (w3.setCell ⟨E.b, 6, none⟩ (.slice (some ⟨g, 0, none⟩) (E.fs.length + 1) cap)) (fun j => (Value.slice E.va E.fs.length E.vc).ownBlock = some j ∨ j = E.b) := (k3.mono (fun _ _ e => .inl e)).trans (ks.mono (fun _ _ e => .inr e))
  have hfb : ∀ j, f.v.ownBlock = some j → W.heap.size ≤ j := fun j hj => (World.ownsRow.lt hf j hj).1
  have kf : Kept w2 (w3.setCell ⟨E.b, 6, none⟩ (.slice (some ⟨g, 0, none⟩) (E.fs.length + 1) cap)) (fun j => (Value.slice E.va E.fs.length E.vc).ownBlock = some j ∨ j = E.b) :=
    (((Kept.ofGrown hgrow).mono (fun j _ e => e.symm)).mono (fun _ _ e => .inl e)).trans (ks.mono (fun _ _ e => .inr e))
  have hrow_lt : ∀ j, (Value.slice E.va E.fs.length E.vc).ownBlock = some j → j < W.heap.size := fun j hj => (World.ownsRow.lt h.fls.row j hj).2
  have hb_lt : E.b < W.heap.size := lt_heap h.blk
  refine ⟨⟨?_, ?_, ?_, ?_, ⟨?_, ?_, ?_⟩, h.ge, h.ne, h.n16, ?_, h.dly⟩, ?_, ?_⟩
  · have := blk_set (i := 6) (v := .slice (some ⟨g, 0, none⟩) (E.fs.length + 1) cap) hblk3 rfl
    rw [this]
    simp [En.cs]
  · exact h.nod.keep k4 (fun e => e.elim (fun e => (h.row_ne e).2.1 rfl) (fun e => h.b_bn e.symm))
  · exact h.cut.keep k4 (fun e => e.elim (fun e => (h.row_ne e).2.2.1 rfl) (fun e => h.b_bc e.symm))
  · exact h.del.keep k4 (fun e => e.elim (fun e => (h.row_ne e).2.2.2 rfl) (fun e => h.b_bd e.symm))
  · have := own_set (k := E.b) (i := 6) (u := .slice (some ⟨g, 0, none⟩) (E.fs.length + 1) cap) hown hgb
    simp only [List.length_append, List.length_cons, List.length_nil]
    rw [flCells_app]
    simpa [flCells] using this
  · intro x hx
    rcases List.mem_append.1 hx with hx | hx
    · exact (h.fls.byt x hx).keep k4 (fun j hj e => e.elim (fun e => (h.byt_ne hx hj).2.2.2.2 e) (fun e => (h.byt_ne hx hj).1 e))
    · obtain rfl := List.mem_singleton.1 hx
      exact ⟨own_lower (kf.owns hf (fun j hj e => by have := hfb j hj; rcases e with e | e; (have := hrow_lt j e; omega); (omega))) hB, hr⟩
  · refine List.pairwise_append.2 ⟨h.fls.apt, List.pairwise_singleton _ _, ?_⟩
    intro x hx y hy k hk e
    obtain rfl := List.mem_singleton.1 hy
    have h1 := (World.ownsRow.lt (h.fls.byt x hx).1 k hk).2
    have h2 := hfb k e
    omega
  · intro x hx
    rcases List.mem_append.1 hx with hx | hx
    · exact h.pth x hx
    · obtain rfl := List.mem_singleton.1 hx
      exact hp
  · exact k4.mono (fun j _ e => e.elim (fun e => .inr (.inr (.inr (.inr (.inl e))))) (fun e => .inl e))
  · intro j hj
    rcases hj with e | e | e | e | e | ⟨x, hx, e⟩
    · exact .inl (.inl e)
    · exact .inl (.inr (.inl e))
    · exact .inl (.inr (.inr (.inl e)))
    · exact .inl (.inr (.inr (.inr (.inl e))))
    · simp [Value.ownBlock] at e
      rcases hat with h1 | h1
      · exact .inl (.inr (.inr (.inr (.inr (.inl (by rw [h1, e]))))))
      · right; have := hb2.size; omega
    · rcases List.mem_append.1 hx with hx | hx
      · exact .inl (.inr (.inr (.inr (.inr (.inr ⟨x, hx, e⟩)))))
      · obtain rfl := List.mem_singleton.1 hx
        exact .inr (hfb j e)
set_option maxHeartbeats 1000000 in
theorem join_no (h : E.Ok w B m) (f : Fx) (hl : E.room ≤ E.fs.length) : Calls Try.prog 47 #[.pointer (some ⟨E.b, 0, none⟩), .agg f.cs] w fun e w' => e = .returned (.tuple #[.int .i64 0, .int .i64 31]) ∧ Below w.heap.size w w' := by
  unfold Fx.cs
  generalize hW : w.alloc (.cells #[.int .i64 f.id, .int .i64 f.src, .int .i64 f.dst, .int .i64 f.due, .slice f.a f.n f.c] 43) = W
  have b0 : Below w.heap.size w W := by rw [← hW]; exact balloc (Below.refl _ w)
  have h1 := h.still b0
  have c6 := h1.c6
  have c4 := h1.c4
  have Hb : Hid (Below w.heap.size w W) := b0
  clear h h1 b0
  go_enter Try.func47, Try.ntmps47
  go_wp2
  go_quiet (fail)
  go_wp2
  go_ret2
  exact ⟨rfl, below_drewN Hb.out _⟩
end
end Go.Proofs.Ytnhhjelplmdloaa.Et
namespace Go.Proofs.Ytnhhjelplmdloaa.Et
open Go.RowKit Go.Maps
set_option linter.unusedVariables false
set_option linter.unusedSimpArgs false
set_option maxRecDepth 100000
section
variable {E E' : En} {w w' W : World} {B m : Nat}
theorem info_fl : (Try.prog.info? 43).map (fun i => (i.zero, i.size, i.bytes)) = some (some (.agg #[.int .i64 0, .int .i64 0, .int .i64 0, .int .i64 0, .slice none 0 0]), 5, 56) := by kernel_rfl
theorem own_still {W W' : World} {B e s n : Nat} {v : Value} {l : List Value} (h : W.ownsRow B e s v n l) (hb : Below W.heap.size W W') : W'.ownsRow B e s v n l := (Kept.ofBelow hb (fun _ => False)).owns h (fun _ _ => id)
theorem En.Ok.not_u8 (h : E.Ok w B m) (i : Nat) (x : Int) : w.cell? ⟨E.b, i, none⟩ ≠ some (.int .u8 x) := by
  rw [blk_cell h.blk i]
  unfold En.cs
  rcases i with _ | _ | _ | _ | _ | _ | _ | i <;> simp
def wN (E : En) : Int := wrap64 (E.last + 1)
set_option maxHeartbeats 4000000 in
theorem join_ok (h : E.Ok w B m) (hB : B ≤ w.heap.size) (f : Fx) (hr : Rd w f.a f.n f.c f.bs) (hlen : f.n ≤ 140737488355328) (hp : ∃ p q : Nat, f.src = p ∧ f.dst = q ∧ p < E.nn ∧ q < E.nn ∧ p ≠ q) (hl : E.fs.length < E.room) (hR : E.room ≤ 20000) : Calls Try.prog 47 #[.pointer (some ⟨E.b, 0, none⟩), .agg f.cs] w fun e w' => e = .returned (.tuple #[.int .i64 (wN E), .int .i64 0]) ∧ ∃ g a c, Step w w' E { E with last := wN E, va := a, vc := c, fs := E.fs ++ [⟨wN E, f.src, f.dst, f.due, some ⟨g, 0, none⟩, f.n, f.n, f.bs⟩] } B m := by
  unfold Fx.cs
  generalize hL : wN E = L
  obtain ⟨i0, hi, hz0, hz1, hz2⟩ := info_parts info_fl
  generalize hW : w.alloc (.cells #[.int .i64 f.id, .int .i64 f.src, .int .i64 f.dst, .int .i64 f.due, .slice f.a f.n f.c] 43) = W
  have b0 : Below w.heap.size w W := by rw [← hW]; exact balloc (Below.refl _ w)
  have h1 := h.still b0
  have hr1 := hr.still b0
  have c6 := h1.c6
  have c4 := h1.c4
  have c5 := h1.c5
  have z5 := h1.fz 5
  have hblk : W.heap[w.heap.size]? = some (.cells #[.int .i64 f.id, .int .i64 f.src, .int .i64 f.dst, .int .i64 f.due, .slice f.a f.n f.c] 43 (0, 0)) := by rw [← hW]; exact heap_alloc_new w _
  have hbw : E.b < w.heap.size := lt_heap h.blk
  have hoo : ∀ j, E.own j → j < w.heap.size := fun j hj => h.ltOwn hj
  obtain ⟨y0, y1, y2, y3, y4⟩ := fl_frz hblk
  obtain ⟨e0, e1, e2, e3, e4⟩ := fl_cells hblk
  have hV : ∀ n, ∃ V, V = ((W.drewN n).setCell ⟨E.b, 5, none⟩ (.int .i64 (L))).setCell ⟨w.heap.size, 0, none⟩ (.int .i64 (L)) ∧ Step w V E { E with last := L } B m ∧ V.heap[w.heap.size]? = some (.cells #[.int .i64 (L), .int .i64 f.src, .int .i64 f.dst, .int .i64 f.due, .slice f.a f.n f.c] 43 (0, 0)) ∧ Rd V f.a f.n f.c f.bs ∧ w.heap.size < V.heap.size := by
    intro n
    have hbn := below_drewN b0 n
    have h2 := h.still hbn
    have s1 : Step (W.drewN n) ((W.drewN n).setCell ⟨E.b, 5, none⟩ (.int .i64 (L))) E { E with last := L } B m := ⟨h2.setB 5 _ rfl rfl, kset _ _ _ _ (.inl rfl), fun j hj => .inl hj⟩
    have s2 := Step.pre hbn s1
    have k1 : Kept w (((W.drewN n).setCell ⟨E.b, 5, none⟩ (.int .i64 (L))).setCell ⟨w.heap.size, 0, none⟩ (.int .i64 (L))) (fun j => j = E.b) := by
      have ka : Kept w ((W.drewN n).setCell ⟨E.b, 5, none⟩ (.int .i64 (L))) (fun j => j = E.b) := (Kept.ofBelow hbn _).trans (kset _ _ _ _ rfl)
      exact ka.step (kset (P := fun j => j = w.heap.size) _ _ 0 _ rfl) (fun j hj => .inr (by omega))
    refine ⟨_, rfl, ⟨?_, ?_, s2.own⟩, ?_, ?_, ?_⟩
    · exact s2.ok.keep (kset (P := fun j => j = w.heap.size) _ _ 0 _ rfl) (fun j hj e => by
        have : E.own j := hj
        have := h.ltOwn this
        omega)
    · exact k1.mono (fun j _ e => .inl e)
    · exact blk_set (blk_set_ne (w := W.drewN n) hblk (by omega)) rfl
    · obtain ⟨r1, r2, r3, r4⟩ := hr
      refine ⟨r1, r2, r3.elim (fun hh => .inl hh) (fun hh => .inr ?_), r4⟩
      obtain ⟨b, off, ha, hc⟩ := hh
      refine ⟨b, off, ha, fun i hi => ?_⟩
      have hlt := World.block_lt_of_cell? w _ (hc i hi)
      have hne : b ≠ E.b := fun e => by
        subst e
        exact h.not_u8 _ _ (hc i hi)
      exact (World.cell?_of_block (w := w) (k1.block b hlt hne)).trans (hc i hi)
    · have := lt_heap hblk
      simpa using this
  have HV : Hid (∀ n, ∃ V, V = ((W.drewN n).setCell ⟨E.b, 5, none⟩ (.int .i64 (L))).setCell ⟨w.heap.size, 0, none⟩ (.int .i64 (L)) ∧ Step w V E { E with last := L } B m ∧ V.heap[w.heap.size]? = some (.cells #[.int .i64 (L), .int .i64 f.src, .int .i64 f.dst, .int .i64 f.due, .slice f.a f.n f.c] 43 (0, 0)) ∧ Rd V f.a f.n f.c f.bs ∧ w.heap.size < V.heap.size) := hV
  have hrr := hr.2.2.2
  clear h h1 b0 hblk hV hr hr1
  go_enter Try.func47, Try.ntmps47
  go_wp2
  go_quiet (fail)
  go_wp2
  obtain ⟨V, hVe, sV, vblk, vrd, vlt⟩ := HV.out nq
  have hwN : wrap64 (E.last + 1) = L := hL
  rw [hwN, ← hVe]
  have hE1 := sV.ok
  have v6 : V.cell? ⟨E.b, 6, none⟩ = some (.slice E.va E.fs.length E.vc) := hE1.c6
  obtain ⟨u0, u1, u2, u3, u4⟩ := fl_cells vblk
  have vz : V.frozen? ⟨E.b, 6, none⟩ = false := hE1.fz 6
  have vsz : w.heap.size ≤ V.heap.size := Nat.le_of_lt vlt
  clear hVe HV c6 c4 c5 z5 y0 y1 y2 y3 y4 e0 e1 e2 e3 e4 hW
  have HC : Hid (∀ w', Below V.heap.size V w' → Calls Try.prog 36 #[.agg #[.int .i64 L, .int .i64 f.src, .int .i64 f.dst, .int .i64 f.due, .slice f.a f.n f.c]] w' fun e w2 => ∃ g, e = .returned (.agg #[.int .i64 L, .int .i64 f.src, .int .i64 f.dst, .int .i64 f.due, .slice (some ⟨g, 0, none⟩) f.n f.n]) ∧ w2.ownsRow V.heap.size 5 1 (.slice (some ⟨g, 0, none⟩) f.n f.n) f.n (f.bs.map (Value.int .u8)) ∧ Below V.heap.size V w2) := fun w' hb => (copyFlight_any L f.src f.dst f.due f.a f.n f.c f.bs (vrd.still hb) hlen).mono fun e w2 ⟨g, x1, x2, x3⟩ => ⟨g, x1, own_lower x2 hb.size, bstep hb x3⟩
  have HO : Hid (∀ j, E.own j → j < w.heap.size) := hoo
  have HE : Hid (En.Ok { E with last := L } V B m) := hE1
  have HS : Hid (Step w V E { E with last := L } B m) := sV
  clear hE1 sV vrd hoo
  have hrow := HE.out.fls.row
  have hvl : E.fs.length ≤ 20000 := by omega
  go_region_law (first
    | (refine step_append_lies _ (by rfl) _ _ 39 (by rfl) B 43 i0 (.agg #[.int .i64 0, .int .i64 0, .int .i64 0, .int .i64 0, .slice none 0 0]) 5 56 Try.underlying39 hi hz0 hz1 hz2 (by rfl) (by omega) (.slice E.va E.fs.length E.vc) E.fs.length (flCells E.fs) (by rfl) (own_still hrow (by repeat (first | exact Below.refl _ _ | assumption | apply Below.drew | apply balloc))) _ 1 1 _ (by rfl) (by rfl) (World.news_of_block (heap_alloc_new _ _)) (by simp [Value.oneCell']) (by omega) (by unfold maxLen; omega) (by omega) (by first | (simp; omega) | omega) _ (by rfl) ?_; intro g3 cap3 w3 hown3 hgrow3 hat3 hlt3; obtain ⟨t6, tz, tk⟩ := far_cells (E := { E with last := L }) HE.out (by repeat (first | exact Below.refl _ _ | assumption | apply Below.drew | apply balloc)) hgrow3; have t0 := tk w.heap.size 0 _ hbw HO.out u0; have P3 : Hid (Step V (w3.setCell ⟨E.b, 6, none⟩ (.slice (some ⟨g3, 0, none⟩) (E.fs.length + 1) cap3)) { E with last := L } { E with last := L, va := some ⟨g3, 0, none⟩, vc := cap3, fs := E.fs ++ [⟨L, f.src, f.dst, f.due, some ⟨g, 0, none⟩, f.n, f.n, f.bs⟩] } B m) := (Step.push (E := { E with last := L }) HE.out (by omega) (by repeat (first | exact Below.refl _ _ | assumption | apply Below.drew | apply balloc)) ⟨L, f.src, f.dst, f.due, some ⟨g, 0, none⟩, f.n, f.n, f.bs⟩ (own_still ho (by repeat (first | exact Below.refl _ _ | assumption | apply Below.drew | apply balloc))) hrr hp g3 cap3 hown3 hgrow3 hat3); clear hown3 hgrow3 hat3 tk)
    | (go_simp; go_at_call 36; refine (HC.out _ (by repeat (first | exact Below.refl _ _ | assumption | apply Below.drew | apply balloc))).mono ?_; rintro e w1 ⟨g, rfl, ho, hb1⟩; have hszv := hb1.size; have t16 : w1.cell? ⟨E.b, 6, none⟩ = some (.slice E.va E.fs.length E.vc) := ((hb1.cell (show E.b < V.heap.size by omega)).trans v6); have t17 : (∀ o, (w1.alloc o).cell? ⟨E.b, 6, none⟩ = some (.slice E.va E.fs.length E.vc)) := (fun o => (((Below.refl w1.heap.size w1).alloc (Nat.le_refl _) o).cell (World.block_lt_of_cell? w1 _ t16)).trans t16)))
  all_goals (go_wp2; go_ret2; exact ⟨rfl, g, _, _, HS.out.trans P3.out⟩)
end
end Go.Proofs.Ytnhhjelplmdloaa.Et
namespace Go.Proofs.Ytnhhjelplmdloaa.Et
open Go.RowKit Go.Maps
set_option linter.unusedVariables false
set_option linter.unusedSimpArgs false
set_option maxRecDepth 100000
section
variable {E E' : En} {w w' W : World} {B m : Nat}
set_option maxHeartbeats 400000 in
theorem canCarry_any (h : E.Ok w B m) (p q : Int) (ao : Option Addr) (n c : Nat) : Calls Try.prog 25 #[.pointer (some ⟨E.b, 0, none⟩), .agg #[.int .i64 p, .int .i64 q], .slice ao n c] w fun e w' => e = .returned (.bool (isP E p q && decide ((n : Int) ≤ 40000))) ∧ Below w.heap.size w w' := by
  generalize hc : isP E p q = c1
  have HP := isPath_is h hc
  have b0 : Below w.heap.size w (w.alloc (.cells #[.int .i64 p, .int .i64 q] 80)) := balloc (Below.refl _ w)
  clear h
  cases c1 with
  | false =>
    go_enter Try.func25, Try.ntmps25
    go_wp2_with (first | (go_at_call 45; refine (HP _ b0).mono ?_; rintro e w1 ⟨rfl, hb1⟩; have r1 := bstep b0 hb1; clear hb1) | fail)
    go_ret
    exact ⟨rfl, r1⟩
  | true =>
    go_enter Try.func25, Try.ntmps25
    go_wp2_with (first | (go_at_call 45; refine (HP _ b0).mono ?_; rintro e w1 ⟨rfl, hb1⟩; have r1 := bstep b0 hb1; clear hb1) | fail)
    all_goals (go_ret; exact ⟨by simp, r1⟩)
set_option maxHeartbeats 400000 in
theorem launch_cut (h : E.Ok w B m) (p q : Nat) (hp : p < 16) (hq : q < 16) (hc : E.cut p q = true) (v : Value) : Calls Try.prog 26 #[.pointer (some ⟨E.b, 0, none⟩), .agg #[.int .i64 p, .int .i64 q], v] w fun e w' => e = .returned (.tuple #[.int .i64 0, .int .i64 30]) ∧ Below w.heap.size w w' := by
  have HP := isCut_is h hp hq hc
  have b0 : Below w.heap.size w (w.alloc (.cells #[.int .i64 p, .int .i64 q] 80)) := balloc (Below.refl _ w)
  clear h
  go_enter Try.func26, Try.ntmps26
  go_wp2_with (first | (go_at_call 46; refine (HP _ b0).mono ?_; rintro e w1 ⟨rfl, hb1⟩; have r1 := bstep b0 hb1; clear hb1) | fail)
  go_ret2
  exact ⟨rfl, r1⟩
set_option maxHeartbeats 4000000 in
theorem launch_go (h : E.Ok w B m) (p q : Nat) (hp : p < 16) (hq : q < 16) (hc : E.cut p q = false) (ao : Option Addr) (n c : Nat) (R : Ending → World → Prop)
    (HJ : ∀ w', Below w.heap.size w w' → Calls Try.prog 47 #[.pointer (some ⟨E.b, 0, none⟩), .agg #[.int .i64 0, .int .i64 p, .int .i64 q, .int .i64 (IntKind.i64.wrap (E.clock + E.dl p q)), .slice ao n c]] w' fun e w2 => (∃ x y, e = .returned (.tuple #[.int .i64 x, .int .i64 y])) ∧ R e w2 ∧ (∀ k i v, w.heap.size ≤ k → w'.cell? ⟨k, i, none⟩ = some v → w2.cell? ⟨k, i, none⟩ = some v) ∧ w2.cell? ⟨E.b, 0, none⟩ = some (.int .i64 E.clock)) :
    Calls Try.prog 26 #[.pointer (some ⟨E.b, 0, none⟩), .agg #[.int .i64 p, .int .i64 q], .slice ao n c] w R := by
  have HP := isCut_is h hp hq hc
  have HD : Hid (∀ w', Below w.heap.size w w' → Calls Try.prog 48 #[.pointer (some ⟨E.b, 0, none⟩), .agg #[.int .i64 p, .int .i64 q]] w' fun e w2 => e = .returned (.int .i64 (E.dl p q)) ∧ Below w'.heap.size w' w2) := delay_is h hp hq
  have b0 : Below w.heap.size w (w.alloc (.cells #[.int .i64 p, .int .i64 q] 80)) := balloc (Below.refl _ w)
  have Hh : Hid (E.Ok w B m) := h
  have hbw : E.b < w.heap.size := lt_heap h.blk
  have HJ' : Hid (∀ w', Below w.heap.size w w' → Calls Try.prog 47 #[.pointer (some ⟨E.b, 0, none⟩), .agg #[.int .i64 0, .int .i64 p, .int .i64 q, .int .i64 (IntKind.i64.wrap (E.clock + E.dl p q)), .slice ao n c]] w' fun e w2 => (∃ x y, e = .returned (.tuple #[.int .i64 x, .int .i64 y])) ∧ R e w2 ∧ (∀ k i v, w.heap.size ≤ k → w'.cell? ⟨k, i, none⟩ = some v → w2.cell? ⟨k, i, none⟩ = some v) ∧ w2.cell? ⟨E.b, 0, none⟩ = some (.int .i64 E.clock)) := HJ
  clear h HJ
  go_enter Try.func26, Try.ntmps26
  go_wp2_with (first | (go_at_call 46; refine (HP _ b0).mono ?_; rintro e w1 ⟨rfl, hb1⟩; have q0 := new_cells hb1 0 (v := .int .i64 p) rfl; have q1 := new_cells hb1 1 (v := .int .i64 q) rfl; have r1 : Hid (Below w.heap.size w w1) := bstep b0 hb1; clear hb1) | fail)
  clear HP b0
  have c0 := (Hh.out.still r1.out).c0
  have hsz1 := r1.out.size
  have hlt1 : w.heap.size < w1.heap.size := World.block_lt_of_cell? w1 _ q0
  go_region_held3 (fun w' => w'.cell? ⟨w.heap.size, 0, none⟩ = some (.int .i64 p) ∧ w'.cell? ⟨w.heap.size, 1, none⟩ = some (.int .i64 q) ∧ w'.cell? ⟨E.b, 0, none⟩ = some (.int .i64 E.clock))
    (first | exact ⟨s0, s1, sc⟩ | exact ⟨p0, p1, pc⟩ | go_keep)
    (first
      | (go_at_call 48; refine (HD.out _ (by first | exact r1.out.drew | exact r1.out)).mono ?_; rintro e w2 ⟨rfl, hb2⟩; have r2 : Hid (Below w.heap.size w w2) := (bstep (by first | exact r1.out.drew | exact r1.out) hb2); have p0 : w2.cell? ⟨w.heap.size, 0, none⟩ = some (.int .i64 p) := ((hb2.cell hlt1).trans q0); have p1 : w2.cell? ⟨w.heap.size, 1, none⟩ = some (.int .i64 q) := ((hb2.cell hlt1).trans q1); have pc : w2.cell? ⟨E.b, 0, none⟩ = some (.int .i64 E.clock) := (Hh.out.still r2.out).c0; clear hb2)
      | (go_at_call 47; refine (HJ'.out _ (by first | exact r2.out | exact r2.out.drew)).mono ?_; rintro e w3 ⟨⟨x, y, rfl⟩, hR, hk, sc⟩; have s0 := hk w.heap.size 0 _ (Nat.le_refl _) (by first | exact p0 | exact p0); have s1 := hk w.heap.size 1 _ (Nat.le_refl _) (by first | exact p1 | exact p1); clear hk))
  all_goals (go_wp2; first | exact hR | (go_ret2; exact hR))
end
end Go.Proofs.Ytnhhjelplmdloaa.Et
namespace Go.Proofs.Ytnhhjelplmdloaa.Et
open Go.RowKit Go.Maps
set_option linter.unusedVariables false
set_option linter.unusedSimpArgs false
set_option maxRecDepth 100000
section
variable {E E' : En} {w w' W : World} {B m : Nat}
theorem below_at {k i : Nat} {v : Value} (hb : Below w.heap.size w w') (hc : w.cell? ⟨k, i, none⟩ = some v) : w'.cell? ⟨k, i, none⟩ = some v := (hb.cell (World.block_lt_of_cell? w _ hc)).trans hc
def nf (E : En) (p q : Nat) (n : Nat) (bs : List Int) (g : Nat) : Fx := ⟨wN E, p, q, IntKind.i64.wrap (E.clock + E.dl p q), some ⟨g, 0, none⟩, n, n, bs⟩
def added (E : En) (f : Fx) (a : Option Addr) (c : Nat) : En := { E with last := wN E, va := a, vc := c, fs := E.fs ++ [f] }
theorem launch_full (h : E.Ok w B m) (p q : Nat) (hp : p < 16) (hq : q < 16) (hc : E.cut p q = false) (ao : Option Addr) (n c : Nat) (hl : E.room ≤ E.fs.length) :
    Calls Try.prog 26 #[.pointer (some ⟨E.b, 0, none⟩), .agg #[.int .i64 p, .int .i64 q], .slice ao n c] w fun e w' => e = .returned (.tuple #[.int .i64 0, .int .i64 31]) ∧ Below w.heap.size w w' :=
  launch_go h p q hp hq hc ao n c _ fun w' hb => (join_no (h.still hb) ⟨0, p, q, IntKind.i64.wrap (E.clock + E.dl p q), ao, n, c, []⟩ hl).mono fun e w2 ⟨h1, h2⟩ => ⟨⟨0, 31, h1⟩, ⟨h1, bstep hb h2⟩, fun k i v _ hc => below_at h2 hc, ((h.still hb).still h2).c0⟩
theorem launch_ok (h : E.Ok w B m) (hB : B ≤ w.heap.size) (p q : Nat) (hp : p < E.nn) (hq : q < E.nn) (hpq : p ≠ q) (hc : E.cut p q = false) (ao : Option Addr) (n c : Nat) (bs : List Int) (hr : Rd w ao n c bs) (hlen : n ≤ 140737488355328) (hl : E.fs.length < E.room) (hR : E.room ≤ 20000) :
    Calls Try.prog 26 #[.pointer (some ⟨E.b, 0, none⟩), .agg #[.int .i64 p, .int .i64 q], .slice ao n c] w fun e w' => e = .returned (.tuple #[.int .i64 (wN E), .int .i64 0]) ∧ ∃ g a c, Step w w' E (added E (nf E p q n bs g) a c) B m :=
  launch_go h p q (by have := h.n16; omega) (by have := h.n16; omega) hc ao n c _ fun w' hb => (join_ok (h.still hb) (Nat.le_trans hB hb.size) ⟨0, p, q, IntKind.i64.wrap (E.clock + E.dl p q), ao, n, c, bs⟩ (hr.still hb) hlen ⟨p, q, rfl, rfl, hp, hq, hpq⟩ hl hR).mono fun e w2 ⟨h1, g, a, c', hs⟩ => ⟨⟨_, _, h1⟩, ⟨h1, g, a, c', Step.pre hb hs⟩, fun k i v hk hc => hs.cell (fun ho => by have := h.ltOwn ho; omega) hc, hs.ok.c0⟩
set_option maxHeartbeats 1000000 in
theorem post_arg (h : E.Ok w B m) (p q : Int) (ao : Option Addr) (n c : Nat) (hno : (isP E p q && decide ((n : Int) ≤ 40000)) = false) : Calls Try.prog 7 #[.pointer (some ⟨E.b, 0, none⟩), .int .i64 p, .int .i64 q, .slice ao n c] w fun e w' => e = .returned (.tuple #[.int .i64 0, .int .i64 1]) ∧ Below w.heap.size w w' := by
  have b0 : Below w.heap.size w (w.alloc (.cells #[.int .i64 p, .int .i64 q] 80)) := balloc (Below.refl _ w)
  have HC := canCarry_any (h.still b0) p q ao n c
  rw [hno] at HC
  clear h
  go_enter Try.func7, Try.ntmps7
  go_wp2_with (first | (go_at_call 25; refine HC.mono ?_; rintro e w1 ⟨rfl, hb1⟩; have r1 : Hid (Below w.heap.size w w1) := bstep b0 hb1; clear hb1) | fail)
  go_ret2
  exact ⟨rfl, r1.out⟩
set_option maxHeartbeats 1000000 in
theorem post_down (h : E.Ok w B m) (p : Nat) (q : Int) (ao : Option Addr) (n c : Nat) (hp : p < E.nn) (hno : (isP E p q && decide ((n : Int) ≤ 40000)) = true) (hu : E.up p = false) : Calls Try.prog 7 #[.pointer (some ⟨E.b, 0, none⟩), .int .i64 p, .int .i64 q, .slice ao n c] w fun e w' => e = .returned (.tuple #[.int .i64 0, .int .i64 32]) ∧ Below w.heap.size w w' := by
  have b0 : Below w.heap.size w (w.alloc (.cells #[.int .i64 p, .int .i64 q] 80)) := balloc (Below.refl _ w)
  have HC := canCarry_any (h.still b0) p q ao n c
  rw [hno] at HC
  have Hh : Hid (E.Ok w B m) := h
  have hn := h.n16
  clear h
  go_enter Try.func7, Try.ntmps7
  go_wp2_with (first | (go_at_call 25; refine HC.mono ?_; rintro e w1 ⟨rfl, hb1⟩; have r1 : Hid (Below w.heap.size w w1) := bstep b0 hb1; have c1 := (Hh.out.still r1.out).c1; have d0 := ((Hh.out.still r1.out).nodC hp).1; rw [hu] at d0; clear hb1) | fail)
  go_ret2
  exact ⟨rfl, r1.out⟩
set_option maxHeartbeats 1000000 in
theorem post_go (h : E.Ok w B m) (p : Nat) (q : Int) (ao : Option Addr) (n c : Nat) (hp : p < E.nn) (hno : (isP E p q && decide ((n : Int) ≤ 40000)) = true) (hu : E.up p = true) (R : Ending → World → Prop)
    (HL : ∀ w', Below w.heap.size w w' → Calls Try.prog 26 #[.pointer (some ⟨E.b, 0, none⟩), .agg #[.int .i64 p, .int .i64 q], .slice ao n c] w' fun e w2 => (∃ x y, e = .returned (.tuple #[.int .i64 x, .int .i64 y])) ∧ R e w2) :
    Calls Try.prog 7 #[.pointer (some ⟨E.b, 0, none⟩), .int .i64 p, .int .i64 q, .slice ao n c] w R := by
  have b0 : Below w.heap.size w (w.alloc (.cells #[.int .i64 p, .int .i64 q] 80)) := balloc (Below.refl _ w)
  have HC := canCarry_any (h.still b0) p q ao n c
  rw [hno] at HC
  have Hh : Hid (E.Ok w B m) := h
  have hn := h.n16
  clear h
  go_enter Try.func7, Try.ntmps7
  go_wp2_with (first | (go_at_call 25; refine HC.mono ?_; rintro e w1 ⟨rfl, hb1⟩; have q0 := new_cells hb1 0 (v := .int .i64 p) rfl; have q1 := new_cells hb1 1 (v := .int .i64 q) rfl; have r1 : Hid (Below w.heap.size w w1) := bstep b0 hb1; have c1 := (Hh.out.still r1.out).c1; have d0 := ((Hh.out.still r1.out).nodC hp).1; rw [hu] at d0; clear hb1) | (go_at_call 26; refine (HL _ r1.out).mono ?_; rintro e w2 ⟨⟨x, y, rfl⟩, hR⟩) | fail)
  all_goals first | exact hR | (go_ret2; exact hR)
set_option maxHeartbeats 1000000 in
theorem inject_arg (h : E.Ok w B m) (p q : Int) (ao : Option Addr) (n c : Nat) (hno : (isP E p q && decide ((n : Int) ≤ 40000)) = false) : Calls Try.prog 53 #[.pointer (some ⟨E.b, 0, none⟩), .agg #[.int .i64 p, .int .i64 q], .slice ao n c] w fun e w' => e = .returned (.int .i64 1) ∧ Below w.heap.size w w' := by
  have b0 : Below w.heap.size w (w.alloc (.cells #[.int .i64 p, .int .i64 q] 80)) := balloc (Below.refl _ w)
  have HC := canCarry_any (h.still b0) p q ao n c
  rw [hno] at HC
  clear h
  go_enter Try.func53, Try.ntmps53
  go_wp2_with (first | (go_at_call 25; refine HC.mono ?_; rintro e w1 ⟨rfl, hb1⟩; have r1 : Hid (Below w.heap.size w w1) := bstep b0 hb1; clear hb1) | fail)
  go_ret
  exact ⟨rfl, r1.out⟩
set_option maxHeartbeats 1000000 in
theorem inject_go (h : E.Ok w B m) (p q : Int) (ao : Option Addr) (n c : Nat) (hno : (isP E p q && decide ((n : Int) ≤ 40000)) = true) (R : Int → World → Prop)
    (HL : ∀ w', Below w.heap.size w w' → Calls Try.prog 26 #[.pointer (some ⟨E.b, 0, none⟩), .agg #[.int .i64 p, .int .i64 q], .slice ao n c] w' fun e w2 => ∃ x y, e = .returned (.tuple #[.int .i64 x, .int .i64 y]) ∧ R y w2) :
    Calls Try.prog 53 #[.pointer (some ⟨E.b, 0, none⟩), .agg #[.int .i64 p, .int .i64 q], .slice ao n c] w fun e w' => ∃ y, e = .returned (.int .i64 y) ∧ R y w' := by
  have b0 : Below w.heap.size w (w.alloc (.cells #[.int .i64 p, .int .i64 q] 80)) := balloc (Below.refl _ w)
  have HC := canCarry_any (h.still b0) p q ao n c
  rw [hno] at HC
  clear h
  go_enter Try.func53, Try.ntmps53
  go_wp2_with (first | (go_at_call 25; refine HC.mono ?_; rintro e w1 ⟨rfl, hb1⟩; have q0 := new_cells hb1 0 (v := .int .i64 p) rfl; have q1 := new_cells hb1 1 (v := .int .i64 q) rfl; have r1 : Hid (Below w.heap.size w w1) := bstep b0 hb1; clear hb1) | (go_at_call 26; refine (HL _ r1.out).mono ?_; rintro e w2 ⟨x, y, rfl, hR⟩) | fail)
  all_goals first | exact ⟨_, rfl, hR⟩ | (go_ret; exact ⟨_, rfl, hR⟩)
end
end Go.Proofs.Ytnhhjelplmdloaa.Et
namespace Go.Proofs.Ytnhhjelplmdloaa.Et
open Go.RowKit Go.Maps
set_option linter.unusedVariables false
set_option linter.unusedSimpArgs false
set_option maxRecDepth 100000
section
variable {E E' : En} {w w' W : World} {B m : Nat}
theorem two_cells {t : TypeId} {k : Nat} {v0 v1 : Value} (h : w.heap[k]? = some (.cells #[v0, v1] t (0, 0))) : w.cell? ⟨k, 0, none⟩ = some v0 ∧ w.cell? ⟨k, 1, none⟩ = some v1 := ⟨blk_cell h 0, blk_cell h 1⟩
set_option maxHeartbeats 1000000 in
theorem pathOf_any (f : Fx) : Calls Try.prog 49 #[.agg f.cs] w fun e w' => e = .returned (.agg #[.int .i64 f.src, .int .i64 f.dst]) ∧ Below w.heap.size w w' := by
  unfold Fx.cs
  generalize hW : (w.alloc (.cells #[.int .i64 f.id, .int .i64 f.src, .int .i64 f.dst, .int .i64 f.due, .slice f.a f.n f.c] 43)).alloc (.cells #[.int .i64 0, .int .i64 0] 80) = W
  have hb : Hid (Below w.heap.size w W) := by rw [← hW]; exact balloc (balloc (Below.refl _ w))
  have hblk : W.heap[w.heap.size]? = some (.cells #[.int .i64 f.id, .int .i64 f.src, .int .i64 f.dst, .int .i64 f.due, .slice f.a f.n f.c] 43 (0, 0)) := by rw [← hW]; exact blk_alloc (heap_alloc_new w _)
  have hblk2 : W.heap[w.heap.size + 1]? = some (.cells #[.int .i64 0, .int .i64 0] 80 (0, 0)) := by
    rw [← hW]
    have := heap_alloc_new (w.alloc (.cells #[.int .i64 f.id, .int .i64 f.src, .int .i64 f.dst, .int .i64 f.due, .slice f.a f.n f.c] 43)) (.cells #[.int .i64 0, .int .i64 0] 80)
    simpa using this
  obtain ⟨e0, e1, e2, e3, e4⟩ := fl_cells hblk
  obtain ⟨z0, z1⟩ := two_cells hblk2
  have g0 := frozen_of_row W _ 0 _ _ hblk2
  have g1 := frozen_of_row W _ 1 _ _ hblk2
  have b1 := blk_set (i := 0) (v := .int .i64 f.src) hblk2 rfl
  have b2 := blk_set (i := 1) (v := .int .i64 f.dst) b1 rfl
  have B2 : Hid ((((W.setCell ⟨w.heap.size + 1, 0, none⟩ (.int .i64 f.src)).setCell ⟨w.heap.size + 1, 1, none⟩ (.int .i64 f.dst))).heap[w.heap.size + 1]? = some (.cells #[.int .i64 f.src, .int .i64 f.dst] 80 (0, 0))) := b2
  clear hblk hblk2 b1 b2
  go_enter Try.func49, Try.ntmps49
  go_wp2
  obtain ⟨q0, q1⟩ := two_cells B2.out
  exact bodyPost_ret (v := .agg #[.int .i64 f.src, .int .i64 f.dst]) (by simp [results, Try.results49, go_sem, q0, q1]) rfl ⟨rfl, bset (bset hb.out (Nat.le_succ _) 0 _) (Nat.le_succ _) 1 _⟩
def barE (E : En) (p q : Nat) : Int := if E.cut p q then 30 else if E.up q then 0 else 32
set_option maxHeartbeats 1000000 in
theorem barrier_any (h : E.Ok w B m) (f : Fx) (p q : Nat) (h1 : f.src = p) (h2 : f.dst = q) (hp : p < E.nn) (hq : q < E.nn) : Calls Try.prog 27 #[.pointer (some ⟨E.b, 0, none⟩), .agg f.cs] w fun e w' => e = .returned (.int .i64 (barE E p q)) ∧ Below w.heap.size w w' := by
  have hn := h.n16
  have HPa := fun w => pathOf_any (w := w) f
  rw [h1, h2] at HPa
  unfold Fx.cs at HPa ⊢
  rw [h1, h2] at HPa ⊢
  generalize hW : w.alloc (.cells #[.int .i64 f.id, .int .i64 p, .int .i64 q, .int .i64 f.due, .slice f.a f.n f.c] 43) = W
  have hbW : Below w.heap.size w W := by rw [← hW]; exact balloc (Below.refl _ w)
  have hblk : W.heap[w.heap.size]? = some (.cells #[.int .i64 f.id, .int .i64 p, .int .i64 q, .int .i64 f.due, .slice f.a f.n f.c] 43 (0, 0)) := by rw [← hW]; exact heap_alloc_new w _
  obtain ⟨e0, e1, e2, e3, e4⟩ := fl_cells hblk
  have HPa : Hid (∀ w, Calls Try.prog 49 #[.agg #[.int .i64 f.id, .int .i64 p, .int .i64 q, .int .i64 f.due, .slice f.a f.n f.c]] w fun e w' => e = .returned (.agg #[.int .i64 p, .int .i64 q]) ∧ Below w.heap.size w w') := HPa
  generalize hc : E.cut p q = c
  have HC : Hid (∀ w', Below w.heap.size w w' → Calls Try.prog 46 #[.pointer (some ⟨E.b, 0, none⟩), .agg #[.int .i64 p, .int .i64 q]] w' fun e w2 => e = .returned (.bool c) ∧ Below w'.heap.size w' w2) := isCut_is h (by omega) (by omega) hc
  have Hh : Hid (E.Ok w B m) := h
  have Hb : Hid (Below w.heap.size w W) := hbW
  have i1 : (0 : Int) ≤ (q : Int) := Int.natCast_nonneg _
  have i2 : (q : Int) < (E.nn : Int) := by omega
  unfold barE
  rw [hc]
  generalize hu : E.up q = u
  clear h hbW hblk
  cases c <;> cases u <;>
  · go_enter Try.func27, Try.ntmps27
    go_wp2_with (first
      | (go_at_call 49; refine (HPa.out _).mono ?_; rintro e w1 ⟨rfl, hb1⟩; have r1 : Hid (Below w.heap.size w w1) := bstep Hb.out hb1; have k1 := below_at hb1 e1; have k2 := below_at hb1 e2; clear hb1)
      | (go_at_call 46; refine (HC.out _ r1.out).mono ?_; rintro e w2 ⟨rfl, hb2⟩; have r2 : Hid (Below w.heap.size w w2) := bstep r1.out hb2; have m2 := below_at hb2 k2; have c1 := (Hh.out.still r2.out).c1; have d0 := ((Hh.out.still r2.out).nodC hq).1; rw [hu] at d0; clear hb2)
      | fail)
    first
      | (go_ret; exact ⟨rfl, r2.out⟩)
      | (go_quiet (fail); go_wp2; go_ret; exact ⟨rfl, below_drewN r2.out _⟩)
set_option maxHeartbeats 400000 in
theorem isPlace_any (h : E.Ok w B m) (k : Int) : Calls Try.prog 42 #[.pointer (some ⟨E.b, 0, none⟩), .int .i64 k] w fun e w' => e = .returned (.bool (decide (0 ≤ k ∧ k < E.fs.length))) ∧ w = w' := by
  have c6 := h.c6
  clear h
  go_enter Try.func42, Try.ntmps42
  go_wp2
  all_goals (go_ret; exact ⟨by simp; first | assumption | omega | skip, rfl⟩)
end
end Go.Proofs.Ytnhhjelplmdloaa.Et
namespace Go.Proofs.Ytnhhjelplmdloaa.Et
open Go.RowKit Go.Maps
set_option linter.unusedVariables false
set_option linter.unusedSimpArgs false
set_option maxRecDepth 100000
section
variable {E E' : En} {w w' W : World} {B m : Nat}
theorem splice_cons {α : Type} (L : List α) (o : Nat) (v : α) (r : List α) (h : o < L.length) : splice (L.set o v) (o + 1) r = splice L o (v :: r) := by
  unfold splice
  have e1 : (L.set o v).take (o + 1) = L.take o ++ [v] := by
    rw [List.take_set, List.take_succ_eq_append_getElem h]
    rw [List.set_append_right _ _ (by simp; omega)]
    simp [show o - min o L.length = 0 by omega]
  rw [e1, List.drop_set_of_lt (by omega)]
  simp only [List.length_cons, List.append_assoc, List.cons_append, List.nil_append]
  rw [show o + 1 + r.length = o + (r.length + 1) by omega]
theorem heap_setCells {g : Nat} {t : TypeId} : ∀ (vs : List Value) (o : Nat) (w : World) (L : List Value), w.heap[g]? = some (.cells L.toArray t (0, 0)) → o + vs.length ≤ L.length → (w.setCells g o vs).heap[g]? = some (.cells (splice L o vs).toArray t (0, 0))
  | [], o, w, L, h, hl => by
    simp only [World.setCells]
    rw [h]
    simp [splice]
  | v :: r, o, w, L, h, hl => by
    simp only [World.setCells]
    simp only [List.length_cons] at hl
    have h1 := blk_set (i := o) (v := v) h (cs' := (L.set o v).toArray) (by simp)
    rw [heap_setCells r (o + 1) _ (L.set o v) h1 (by simp; omega), splice_cons L o v r (by omega)]
theorem kept_setCells {g : Nat} : ∀ (vs : List Value) (o : Nat) (w : World), Kept w (w.setCells g o vs) (fun j => j = g)
  | [], o, w => Kept.refl _ _
  | v :: r, o, w => (kset (P := fun j => j = g) w g o v rfl).trans (kept_setCells r (o + 1) _)
theorem splice_take {α : Type} (L : List α) (o : Nat) (vs : List α) (h : o ≤ L.length) : (splice L o vs).take o = L.take o := by
  unfold splice
  rw [List.take_append_of_le_length (by simp; omega), List.take_take, Nat.min_self]
theorem fl_take (fs : List Fx) (k : Nat) : (flCells fs).take (k * 5) = flCells (fs.take k) := by
  induction fs generalizing k with
  | nil => simp [flCells]
  | cons f fs ih =>
    cases k with
    | zero => simp [flCells]
    | succ k =>
      have hl : f.cs.toList.length = 5 := rfl
      have := ih k
      simp only [flCells, List.flatMap_cons, List.take_succ_cons] at this ⊢
      rw [List.take_append, hl, List.take_of_length_le (by rw [hl]; omega), show (k + 1) * 5 - 5 = k * 5 by omega, this]
theorem fl_drop (fs : List Fx) (k : Nat) : (flCells fs).drop (k * 5) = flCells (fs.drop k) := by
  induction fs generalizing k with
  | nil => simp [flCells]
  | cons f fs ih =>
    cases k with
    | zero => simp [flCells]
    | succ k =>
      have hl : f.cs.toList.length = 5 := rfl
      have := ih k
      simp only [flCells, List.flatMap_cons, List.drop_succ_cons] at this ⊢
      rw [List.drop_append, hl, List.drop_of_length_le (by rw [hl]; omega), show (k + 1) * 5 - 5 = k * 5 by omega, this]
      simp
theorem row_list {va : Option Addr} {n c : Nat} {l : List Value} (h : w.ownsRow B 43 5 (.slice va n c) n l) (hn : 0 < n) : ∃ (g : Nat) (L : List Value), va = some ⟨g, 0, none⟩ ∧ B ≤ g ∧ w.heap[g]? = some (.cells L.toArray 43 (0, 0)) ∧ L.length = c * 5 ∧ L.take (n * 5) = l ∧ n ≤ c ∧ c ≤ maxLen := by
  rcases h.2 with ⟨h1, h2⟩ | ⟨g, cap, cur, hv, hB, hg, hnc, hcm, hcs, htk⟩
  · omega
  · simp at hv
    obtain ⟨rfl, rfl⟩ := hv
    exact ⟨g, cur.toList, rfl, hB, by simpa using hg, by simpa using hcs, htk, hnc, hcm⟩
theorem list_row {g n c : Nat} {L l : List Value} (hB : B ≤ g) (hg : w.heap[g]? = some (.cells L.toArray 43 (0, 0))) (hl : L.length = c * 5) (ht : L.take (n * 5) = l) (hn : n ≤ c) (hc : c ≤ maxLen) : w.ownsRow B 43 5 (.slice (some ⟨g, 0, none⟩) n c) n l :=
  ⟨by rw [← ht, List.length_take]; omega, .inr ⟨g, c, L.toArray, rfl, hB, hg, hn, hc, by simpa using hl, by simpa using ht⟩⟩
theorem zeroF (w : World) : (zeroValue 43).run Try.prog w = .ok (.agg #[.int .i64 0, .int .i64 0, .int .i64 0, .int .i64 0, .slice none 0 0]) w := by kernel_rfl
theorem zc_len (n : Nat) : (Builtin.zeroCells (Value.agg #[.int .i64 0, .int .i64 0, .int .i64 0, .int .i64 0, .slice none 0 0]).cells n).toList.length = n * 5 := by
  simp [Builtin.zeroCells, Value.cells]
theorem zc_one (n : Nat) : ∀ u ∈ (Builtin.zeroCells (Value.agg #[.int .i64 0, .int .i64 0, .int .i64 0, .int .i64 0, .slice none 0 0]).cells n).toList, u.oneCell' = true := by
  intro u hu
  simp [Builtin.zeroCells, Value.cells] at hu
  obtain ⟨a, ha, rfl⟩ := hu
  have : a % 5 < 5 := Nat.mod_lt _ (by omega)
  generalize a % 5 = k at this
  rcases k with _ | _ | _ | _ | _ | k <;> first | rfl | omega
theorem run_clearF (w : World) (ty : TypeId) (b o n c : Nat) (hc : ∀ j, j < n * 5 → (w.cell? ⟨b, o + j, none⟩).isSome = true) (hf : ∀ j, j < n * 5 → w.frozen? ⟨b, o + j, none⟩ = false) :
    (Builtin.clear_ #[39] ty #[.slice (some ⟨b, o, none⟩) n c]).run Try.prog w = .ok (.tuple #[]) (w.setCells b o (Builtin.zeroCells (Value.agg #[.int .i64 0, .int .i64 0, .int .i64 0, .int .i64 0, .slice none 0 0]).cells n).toList) := by
  have hst := run_storeCells_cells (P := Try.prog) b o _ 0 w (by rw [zc_len n]; simpa using hc) (by rw [zc_len n]; simpa using hf) (zc_one n)
  simp only [Nat.add_zero] at hst
  cases n with
  | zero =>
    have e : (Builtin.zeroCells (Value.agg #[.int .i64 0, .int .i64 0, .int .i64 0, .int .i64 0, .slice none 0 0]).cells 0).toList = [] := List.eq_nil_of_length_eq_zero (by rw [zc_len])
    rw [e]
    simp [Builtin.clear_, run_underlying Try.underlying39, World.setCells]
  | succ n =>
    simp only [Builtin.clear_]
    simp [run_underlying Try.underlying39, zeroF, hst]
theorem er_cells (fs : List Fx) (k : Nat) (rest : List Value) (hk : k < fs.length) : (splice (flCells fs ++ rest) (k * 5) (flCells (fs.drop (k + 1)))).take ((fs.length - 1) * 5) = flCells (fs.eraseIdx k) := by
  unfold splice
  have e1 : (flCells fs ++ rest).take (k * 5) = flCells (fs.take k) := by
    rw [List.take_append_of_le_length (by rw [flCells_len]; omega), fl_take]
  rw [e1, ← List.append_assoc, ← flCells_app, ← List.eraseIdx_eq_take_drop_succ]
  have hl := List.length_eraseIdx_of_lt hk
  rw [List.take_append_of_le_length (by rw [flCells_len, hl]; omega), List.take_of_length_le (by rw [flCells_len, hl]; omega)]
set_option maxHeartbeats 4000000 in
theorem delete_any (g cap : Nat) (L : List Value) (fs : List Fx) (k : Nat) (hk : k < fs.length) (hg : w.heap[g]? = some (.cells L.toArray 43 (0, 0))) (hL : L.length = cap * 5) (ht : L.take (fs.length * 5) = flCells fs) (hn : fs.length ≤ cap) (hc : cap ≤ maxLen) :
    Calls Try.prog 57 #[.slice (some ⟨g, 0, none⟩) fs.length cap, .int .i64 k, .int .i64 (k + 1)] w fun e w' => e = .returned (.slice (some ⟨g, 0, none⟩) (fs.length - 1) cap) ∧ (∃ L' : List Value, w'.heap[g]? = some (.cells L'.toArray 43 (0, 0)) ∧ L'.length = cap * 5 ∧ L'.take ((fs.length - 1) * 5) = flCells (fs.eraseIdx k)) ∧ Kept w w' (fun j => j = g) := by
  obtain ⟨i0, hi, hz0, hz1, hz2⟩ := info_parts info_fl
  have i1 : (0 : Int) ≤ (k : Int) := Int.natCast_nonneg _
  have i2 : (k : Int) + 1 ≤ (fs.length : Int) := by omega
  have i3 : (fs.length : Int) ≤ (cap : Int) := by omega
  obtain ⟨news, hnews⟩ : ∃ news, news = flCells (fs.drop (k + 1)) := ⟨_, rfl⟩
  have hlen : news.length = (fs.length - (k + 1)) * 5 := by rw [hnews, flCells_len]; simp
  have hLs : L = flCells fs ++ L.drop (fs.length * 5) := by rw [← ht, List.take_append_drop]
  have hcell : ∀ j, w.cell? ⟨g, j, none⟩ = L[j]? := fun j => by rw [blk_cell hg j]; simp
  have hget : ∀ j u, news[j]? = some u → w.cell? ⟨g, (k + 1) * 5 + j, none⟩ = some u := by
    intro j u hu
    have hj : j < news.length := (List.getElem?_eq_some_iff.1 hu).1
    rw [hcell, hLs, List.getElem?_append_left (by rw [flCells_len]; omega), ← hu, hnews, ← fl_drop, List.getElem?_drop]
  have s1 : Hid (news.length = (fs.length - (k + 1)) * 5) := hlen
  have s2 : Hid (∀ u ∈ news, u.oneCell' = true) := by rw [hnews]; exact flCells_one _
  have s3 : Hid (∀ j, j < news.length → (w.drew.cell? ⟨g, 0 + k * 5 + j, none⟩).isSome = true ∧ w.drew.frozen? ⟨g, 0 + k * 5 + j, none⟩ = false) := by
    intro j hj
    refine ⟨?_, frozen_of_row w _ _ _ _ hg⟩
    show (w.cell? _).isSome = true
    rw [hcell, List.getElem?_eq_getElem (by omega)]
    rfl
  obtain ⟨W1, hW1⟩ : ∃ W1, W1 = w.drew.setCells g (0 + k * 5) news := ⟨_, rfl⟩
  have hb1 : W1.heap[g]? = some (.cells (splice L (0 + k * 5) news).toArray 43 (0, 0)) := by
    rw [hW1]
    exact heap_setCells news (0 + k * 5) w.drew L hg (by omega)
  have hl1 : (splice L (0 + k * 5) news).length = cap * 5 := by rw [length_splice _ _ _ (by omega), hL]
  have hcl : ∀ ty, (Builtin.clear_ #[39] ty #[.slice (some ⟨g, (k + (fs.length - (k + 1))) * 5, none⟩) (fs.length - (k + (fs.length - (k + 1)))) (cap - (k + (fs.length - (k + 1))))]).run Try.prog W1 = .ok (.tuple #[]) (W1.setCells g ((k + (fs.length - (k + 1))) * 5) (Builtin.zeroCells (Value.agg #[.int .i64 0, .int .i64 0, .int .i64 0, .int .i64 0, .slice none 0 0]).cells (fs.length - (k + (fs.length - (k + 1))))).toList) := fun ty =>
    run_clearF W1 ty g _ _ _ (fun j hj => by rw [blk_cell hb1 _]; simp only [List.getElem?_toArray]; rw [List.getElem?_eq_getElem (by omega)]; rfl) (fun j hj => frozen_of_row W1 _ _ _ _ hb1)
  have hres : Hid (∃ L' : List Value, (W1.setCells g ((k + (fs.length - (k + 1))) * 5) (Builtin.zeroCells (Value.agg #[.int .i64 0, .int .i64 0, .int .i64 0, .int .i64 0, .slice none 0 0]).cells (fs.length - (k + (fs.length - (k + 1))))).toList).heap[g]? = some (.cells L'.toArray 43 (0, 0)) ∧ L'.length = cap * 5 ∧ L'.take ((fs.length - 1) * 5) = flCells (fs.eraseIdx k)) := by
    refine ⟨_, heap_setCells _ _ W1 _ hb1 (by rw [zc_len, hl1]; omega), ?_, ?_⟩
    · rw [length_splice _ _ _ (by rw [zc_len, hl1]; omega), hl1]
    · rw [show (fs.length - 1) * 5 = (k + (fs.length - (k + 1))) * 5 by omega, splice_take _ _ _ (by rw [hl1]; omega), show (k + (fs.length - (k + 1))) * 5 = (fs.length - 1) * 5 by omega, Nat.zero_add, hLs, hnews]
      exact er_cells fs k _ hk
  have hkept : Hid (Kept w (W1.setCells g ((k + (fs.length - (k + 1))) * 5) (Builtin.zeroCells (Value.agg #[.int .i64 0, .int .i64 0, .int .i64 0, .int .i64 0, .slice none 0 0]).cells (fs.length - (k + (fs.length - (k + 1))))).toList) (fun j => j = g)) := by
    refine Kept.trans ?_ (kept_setCells _ _ _)
    rw [hW1]
    exact (Kept.ofBelow ((Below.refl _ w).drew) _).trans (kept_setCells _ _ _)
  have hW : Hid (W1 = w.drew.setCells g (0 + k * 5) news) := hW1
  have HG : Hid (∀ j u, news[j]? = some u → w.drew.cell? ⟨g, (k + 1) * 5 + j, none⟩ = some u) := hget
  have hne2 : ¬ cap = k + (fs.length - (k + 1)) := by omega
  have hns : Hid (0 < news.length → ¬ cap = k + 1) := fun h => by rw [hlen] at h; omega
  clear hg hL ht hLs hcell hget hnews hlen hW1 hb1 hl1
  have n1 : k ≤ cap := by omega
  have n2 : k + 1 ≤ fs.length := by omega
  have n3 : (k : Int) ≤ (k : Int) + 1 := by omega
  have n4 : k + 1 ≤ cap := by omega
  have n5 : (0 : Int) ≤ (k : Int) + 1 := by omega
  obtain ⟨A, hA, hsrc⟩ : ∃ A : Addr, (if cap = k + 1 then some (⟨g, 0, none⟩ : Addr) else some ⟨g, (k + 1) * 5, none⟩) = some A ∧ Hid (∀ t u, news[t]? = some u → w.drew.cell? (A.add t) = some u) := by
    by_cases hcap : cap = k + 1
    · exact ⟨⟨g, 0, none⟩, by simp [hcap], fun t u hu => absurd hcap (hns.out (by have := (List.getElem?_eq_some_iff.1 hu).1; omega))⟩
    · exact ⟨⟨g, (k + 1) * 5, none⟩, by simp [hcap], fun t u hu => by rw [Addr.add_lit]; exact HG.out t u hu⟩
  go_enter Try.func57, Try.ntmps57
  go_wp2
  go_region_law (refine step_append_room rfl (.tmp 22) (.tmp 25) 39 rfl 43 i0 5 Try.underlying39 hi hz1 g 0 k cap (by simp [Act.eval, Act.put]) A (fs.length - (k + 1)) (cap - (k + 1)) news (by simp [Act.eval, Act.put]) s1.out hsrc.out s2.out (by omega) s3.out ?_; rw [← hW.out])
  go_wp2
  go_ret
  exact ⟨by rw [show fs.length - 1 = k + (fs.length - (k + 1)) by omega]; rfl, hres.out, hkept.out⟩
end
end Go.Proofs.Ytnhhjelplmdloaa.Et
namespace Go.Proofs.Ytnhhjelplmdloaa.Et
open Go.RowKit Go.Maps
set_option linter.unusedVariables false
set_option linter.unusedSimpArgs false
set_option maxRecDepth 100000
section
variable {E E' : En} {w w' W w1 : World} {B m : Nat}
theorem Step.sub (h : E.Ok W B m) (g n cap : Nat) (fs' : List Fx) (hsub : fs'.Sublist E.fs) (hn : fs'.length = n) (hva : (Value.slice E.va E.fs.length E.vc).ownBlock = some g) (k1 : Kept W w1 (fun j => j = g)) (hrow : w1.ownsRow B 43 5 (.slice (some ⟨g, 0, none⟩) n cap) n (flCells fs')) :
    Step W (w1.setCell ⟨E.b, 6, none⟩ (.slice (some ⟨g, 0, none⟩) n cap)) E { E with va := some ⟨g, 0, none⟩, vc := cap, fs := fs' } B m := by
  subst hn
  have hgr := h.row_ne hva
  have hblk1 : w1.heap[E.b]? = some (.cells E.cs 76 (0, 0)) := k1.obj h.blk (fun e => hgr.1 e.symm)
  have ks : Kept w1 (w1.setCell ⟨E.b, 6, none⟩ (.slice (some ⟨g, 0, none⟩) fs'.length cap)) (fun j => j = E.b) := kset w1 E.b 6 _ rfl
  have k4 : Kept W (w1.setCell ⟨E.b, 6, none⟩ (.slice (some ⟨g, 0, none⟩) fs'.length cap)) (fun j => j = g ∨ j = E.b) := (k1.mono (fun _ _ e => .inl e)).trans (ks.mono (fun _ _ e => .inr e))
  refine ⟨⟨?_, ?_, ?_, ?_, ⟨?_, ?_, ?_⟩, h.ge, h.ne, h.n16, ?_, h.dly⟩, ?_, ?_⟩
  · have := blk_set (i := 6) (v := .slice (some ⟨g, 0, none⟩) fs'.length cap) hblk1 rfl
    rw [this]
    simp [En.cs]
  · exact h.nod.keep k4 (fun e => e.elim (fun e => hgr.2.1 e.symm) (fun e => h.b_bn e.symm))
  · exact h.cut.keep k4 (fun e => e.elim (fun e => hgr.2.2.1 e.symm) (fun e => h.b_bc e.symm))
  · exact h.del.keep k4 (fun e => e.elim (fun e => hgr.2.2.2 e.symm) (fun e => h.b_bd e.symm))
  · exact own_set hrow (by simp [Value.ownBlock]; exact hgr.1)
  · intro x hx
    exact (h.fls.byt x (hsub.subset hx)).keep k4 (fun j hj e => e.elim (fun e => (h.byt_ne (hsub.subset hx) hj).2.2.2.2 (by rw [e]; exact hva)) (fun e => (h.byt_ne (hsub.subset hx) hj).1 e))
  · exact h.fls.apt.sublist hsub
  · intro x hx
    exact h.pth x (hsub.subset hx)
  · exact k4.mono (fun j _ e => e.elim (fun e => .inr (.inr (.inr (.inr (.inl (by rw [e]; exact hva)))))) (fun e => .inl e))
  · intro j hj
    left
    rcases hj with e | e | e | e | e | ⟨x, hx, e⟩
    · exact .inl e
    · exact .inr (.inl e)
    · exact .inr (.inr (.inl e))
    · exact .inr (.inr (.inr (.inl e)))
    · simp [Value.ownBlock] at e
      exact .inr (.inr (.inr (.inr (.inl (by rw [hva, e])))))
    · exact .inr (.inr (.inr (.inr (.inr ⟨x, hsub.subset hx, e⟩))))
theorem En.Ok.shape (h : E.Ok w B m) (hpos : 0 < E.fs.length) : ∃ (g : Nat) (L : List Value), E.va = some ⟨g, 0, none⟩ ∧ B ≤ g ∧ w.heap[g]? = some (.cells L.toArray 43 (0, 0)) ∧ L.length = E.vc * 5 ∧ L.take (E.fs.length * 5) = flCells E.fs ∧ E.fs.length ≤ E.vc ∧ E.vc ≤ maxLen := row_list h.fls.row hpos
set_option maxHeartbeats 1000000 in
theorem drop_any (h : E.Ok w B m) (k : Nat) (hk : k < E.fs.length) (hlen : E.fs.length ≤ 20000) : Calls Try.prog 43 #[.pointer (some ⟨E.b, 0, none⟩), .int .i64 k] w fun e w' => e = .returned (.tuple #[]) ∧ (∃ a c, Step w w' E { E with va := a, vc := c, fs := E.fs.eraseIdx k } B m) ∧ Kept w w' (fun j => (Value.slice E.va E.fs.length E.vc).ownBlock = some j ∨ j = E.b) := by
  obtain ⟨g, L, hva, hBg, hg, hL, ht, hn, hc⟩ := h.shape (by omega)
  have c6 := h.c6
  rw [hva] at c6
  have HD := delete_any (w := w) g E.vc L E.fs k hk hg hL ht hn hc
  have HD1 := delete_any (w := w.drew) g E.vc L E.fs k hk hg hL ht hn hc
  have Hh : Hid (E.Ok w B m) := h
  have hvo : (Value.slice E.va E.fs.length E.vc).ownBlock = some g := by rw [hva]; rfl
  have hgr := h.row_ne hvo
  have hkk : (k : Int) + 1 ≤ 20000 := by omega
  have hres : Hid (∀ w1, Kept w w1 (fun j => j = g) → (∃ L' : List Value, w1.heap[g]? = some (.cells L'.toArray 43 (0, 0)) ∧ L'.length = E.vc * 5 ∧ L'.take ((E.fs.length - 1) * 5) = flCells (E.fs.eraseIdx k)) → Step w (w1.setCell ⟨E.b, 6, none⟩ (.slice (some ⟨g, 0, none⟩) (E.fs.length - 1) E.vc)) E { E with va := some ⟨g, 0, none⟩, vc := E.vc, fs := E.fs.eraseIdx k } B m) := by
    rintro w1 k1 ⟨L', hg', hL', ht'⟩
    exact Step.sub Hh.out g (E.fs.length - 1) E.vc (E.fs.eraseIdx k) (List.eraseIdx_sublist _ _) (List.length_eraseIdx_of_lt hk) hvo k1 (list_row hBg hg' hL' ht' (by omega) hc)
  have hcel : Hid (∀ w1, Kept w w1 (fun j => j = g) → w1.cell? ⟨E.b, 6, none⟩ = some (.slice (some ⟨g, 0, none⟩) E.fs.length E.vc) ∧ w1.frozen? ⟨E.b, 6, none⟩ = false) := by
    intro w1 k1
    have hblk1 : w1.heap[E.b]? = some (.cells E.cs 76 (0, 0)) := k1.obj Hh.out.blk (fun e => hgr.1 e.symm)
    exact ⟨(blk_cell hblk1 6).trans (by simp [En.cs, hva]), frozen_of_row w1 _ 6 _ _ hblk1⟩
  clear h hg hL ht
  go_enter Try.func43, Try.ntmps43
  go_wp2_with (first | (go_at_call 57; refine HD.mono ?_; rintro e w1 ⟨rfl, hx, k1⟩; obtain ⟨t6, tz⟩ := hcel.out w1 k1) | fail)
  go_end0
  exact ⟨rfl, ⟨_, _, hres.out w1 k1 hx⟩, (k1.mono (fun j _ e => .inl (by rw [hvo, e]))).trans (kset w1 E.b 6 _ (.inr rfl))⟩
theorem En.Ok.flC (h : E.Ok w B m) {k : Nat} (hk : k < E.fs.length) : ∃ g, E.va = some ⟨g, 0, none⟩ ∧ w.cell? ⟨g, k * 5, none⟩ = some (.int .i64 (E.fs.getD k f0).id) ∧ w.cell? ⟨g, k * 5 + 1, none⟩ = some (.int .i64 (E.fs.getD k f0).src) ∧ w.cell? ⟨g, k * 5 + 2, none⟩ = some (.int .i64 (E.fs.getD k f0).dst) ∧ w.cell? ⟨g, k * 5 + 3, none⟩ = some (.int .i64 (E.fs.getD k f0).due) ∧ w.cell? ⟨g, k * 5 + 4, none⟩ = some (.slice (E.fs.getD k f0).a (E.fs.getD k f0).n (E.fs.getD k f0).c) ∧ ∀ j, w.frozen? ⟨g, j, none⟩ = false := by
  obtain ⟨g, L, hva, hBg, hg, hL, ht, hn, hc⟩ := h.shape (by omega)
  have hx : ∀ j, j < 5 → w.cell? ⟨g, k * 5 + j, none⟩ = (E.fs.getD k f0).cs[j]? := by
    intro j hj
    rw [blk_cell hg _, ← flCells_get E.fs k hk j hj, ← ht]
    simp only [List.getElem?_toArray]
    rw [List.getElem?_take_of_lt (by omega)]
  exact ⟨g, hva, hx 0 (by omega), hx 1 (by omega), hx 2 (by omega), hx 3 (by omega), hx 4 (by omega), fun j => frozen_of_row w _ j _ _ hg⟩
theorem mem_getD {fs : List Fx} {k : Nat} (hk : k < fs.length) : fs.getD k f0 ∈ fs := by
  simp [List.getD, List.getElem?_eq_getElem hk]
end
end Go.Proofs.Ytnhhjelplmdloaa.Et
namespace Go.Proofs.Ytnhhjelplmdloaa.Et
open Go.RowKit Go.Maps
set_option linter.unusedVariables false
set_option linter.unusedSimpArgs false
set_option maxRecDepth 100000
section
variable {E E' : En} {w w' W w1 : World} {B m : Nat}
def put5 (W : World) (k : Nat) (v0 v1 v2 v3 v4 : Value) : World := ((((W.setCell ⟨k, 0, none⟩ v0).setCell ⟨k, 1, none⟩ v1).setCell ⟨k, 2, none⟩ v2).setCell ⟨k, 3, none⟩ v3).setCell ⟨k, 4, none⟩ v4
theorem put5_eq (W : World) (k : Nat) (v0 v1 v2 v3 v4 : Value) : ((((W.setCell ⟨k, 0, none⟩ v0).setCell ⟨k, 1, none⟩ v1).setCell ⟨k, 2, none⟩ v2).setCell ⟨k, 3, none⟩ v3).setCell ⟨k, 4, none⟩ v4 = put5 W k v0 v1 v2 v3 v4 := rfl
theorem put5_blk {k : Nat} {t : TypeId} {z0 z1 z2 z3 z4 : Value} (v0 v1 v2 v3 v4 : Value) (h : W.heap[k]? = some (.cells #[z0, z1, z2, z3, z4] t (0, 0))) : (put5 W k v0 v1 v2 v3 v4).heap[k]? = some (.cells #[v0, v1, v2, v3, v4] t (0, 0)) :=
  blk_set (blk_set (blk_set (blk_set (blk_set h rfl) rfl) rfl) rfl) rfl
theorem put5_kept (k : Nat) (v0 v1 v2 v3 v4 : Value) : Kept W (put5 W k v0 v1 v2 v3 v4) (fun j => j = k) :=
  ((((kset (P := fun j => j = k) W k 0 v0 rfl).trans (kset _ k 1 v1 rfl)).trans (kset _ k 2 v2 rfl)).trans (kset _ k 3 v3 rfl)).trans (kset _ k 4 v4 rfl)
theorem put5_below {k : Nat} (v0 v1 v2 v3 v4 : Value) (h : Below w.heap.size w W) (hk : w.heap.size ≤ k) : Below w.heap.size w (put5 W k v0 v1 v2 v3 v4) :=
  h.trans ((put5_kept k v0 v1 v2 v3 v4).below h.size (fun j hj e => by omega))
set_option maxHeartbeats 1000000 in
theorem take_none (h : E.Ok w B m) (k : Int) (hk : ¬ (0 ≤ k ∧ k < E.fs.length)) : Calls Try.prog 19 #[.pointer (some ⟨E.b, 0, none⟩), .int .i64 k] w fun e w' => e = .returned (.tuple #[.agg f0.cs, .int .i64 34]) ∧ Below w.heap.size w w' := by
  generalize hW : w.alloc (.cells #[.int .i64 0, .int .i64 0, .int .i64 0, .int .i64 0, .slice none 0 0] 43) = W
  have hbW : Below w.heap.size w W := by rw [← hW]; exact balloc (Below.refl _ w)
  have hblk : W.heap[w.heap.size]? = some (.cells #[.int .i64 0, .int .i64 0, .int .i64 0, .int .i64 0, .slice none 0 0] 43 (0, 0)) := by rw [← hW]; exact heap_alloc_new w _
  have HP := isPlace_any (h.still hbW) k
  rw [decide_eq_false hk] at HP
  obtain ⟨e0, e1, e2, e3, e4⟩ := fl_cells hblk
  obtain ⟨g0, g1, g2, g3, g4⟩ := fl_frz hblk
  have Hb : Hid (Below w.heap.size w W) := hbW
  have HB : Hid (W.heap[w.heap.size]? = some (.cells #[.int .i64 0, .int .i64 0, .int .i64 0, .int .i64 0, .slice none 0 0] 43 (0, 0))) := hblk
  clear h hbW hblk
  go_enter Try.func19, Try.ntmps19
  go_wp2_with (first | (go_at_call 42; refine HP.mono ?_; rintro e w1 ⟨rfl, rfl⟩) | fail)
  rw [put5_eq]
  obtain ⟨q0, q1, q2, q3, q4⟩ := fl_cells (put5_blk (.int .i64 0) (.int .i64 0) (.int .i64 0) (.int .i64 0) (.slice none 0 0) HB.out)
  exact bodyPost_ret (v := .tuple #[.agg f0.cs, .int .i64 34]) (by simp [results, Try.results19, go_sem, q0, q1, q2, q3, q4, Fx.cs, f0]) rfl ⟨rfl, put5_below _ _ _ _ _ Hb.out (Nat.le_refl _)⟩
set_option maxHeartbeats 400000 in
theorem take_bar (h : E.Ok w B m) (k : Nat) (hk : k < E.fs.length) (p q : Nat) (hs : (E.fs.getD k f0).src = p) (hd : (E.fs.getD k f0).dst = q) (hp : p < E.nn) (hq : q < E.nn) (hb : barE E p q ≠ 0) : Calls Try.prog 19 #[.pointer (some ⟨E.b, 0, none⟩), .int .i64 k] w fun e w' => e = .returned (.tuple #[.agg f0.cs, .int .i64 (barE E p q)]) ∧ Below w.heap.size w w' := by
  generalize hf : E.fs.getD k f0 = f at hs hd
  generalize hW : w.alloc (.cells #[.int .i64 0, .int .i64 0, .int .i64 0, .int .i64 0, .slice none 0 0] 43) = W
  have hbW : Below w.heap.size w W := by rw [← hW]; exact balloc (Below.refl _ w)
  have hblk : W.heap[w.heap.size]? = some (.cells #[.int .i64 0, .int .i64 0, .int .i64 0, .int .i64 0, .slice none 0 0] 43 (0, 0)) := by rw [← hW]; exact heap_alloc_new w _
  have hWs : W.heap.size = w.heap.size + 1 := by rw [← hW]; simp
  have HP := isPlace_any (h.still hbW) k
  rw [decide_eq_true (by omega)] at HP
  obtain ⟨g, hva, u0, u1, u2, u3, u4, uz⟩ := (h.still hbW).flC hk
  have c6 := (h.still hbW).c6
  rw [hva] at c6
  rw [hf] at u0 u1 u2 u3 u4
  have HBa : Hid (∀ w', Below w.heap.size w w' → Calls Try.prog 27 #[.pointer (some ⟨E.b, 0, none⟩), .agg f.cs] w' fun e w2 => e = .returned (.int .i64 (barE E p q)) ∧ Below w'.heap.size w' w2) := fun w' hb' => barrier_any (h.still hb') f p q hs hd hp hq
  generalize barE E p q = bE at HBa hb ⊢
  have Hb : Hid (Below w.heap.size w W) := hbW
  have HB : Hid (W.heap[w.heap.size]? = some (.cells #[.int .i64 0, .int .i64 0, .int .i64 0, .int .i64 0, .slice none 0 0] 43 (0, 0))) := hblk
  have i1 : (0 : Int) ≤ (k : Int) := Int.natCast_nonneg _
  have i2 : (k : Int) < (E.fs.length : Int) := by omega
  clear h hbW hblk uz
  unfold Fx.cs at HBa
  rw [hs, hd] at HBa
  rw [hs] at u1
  rw [hd] at u2
  go_enter Try.func19, Try.ntmps19
  go_wp2_with (first
    | (go_at_call 42; refine HP.mono ?_; rintro e w1 ⟨rfl, rfl⟩)
    | (go_at_call 27; refine (HBa.out _ (by repeat (first | exact Below.refl _ _ | assumption | exact Hb.out | apply Below.drew | apply balloc))).mono ?_; rintro e w2 ⟨rfl, hb2⟩; have HB2 : Hid (w2.heap[w.heap.size]? = some (.cells #[.int .i64 0, .int .i64 0, .int .i64 0, .int .i64 0, .slice none 0 0] 43 (0, 0))) := ((hb2.block _ (by simp; omega)).trans (by first | exact blk_alloc HB.out | exact HB.out)); obtain ⟨e0, e1, e2, e3, e4⟩ := fl_cells HB2.out; obtain ⟨g0, g1, g2, g3, g4⟩ := fl_frz HB2.out)
    | fail)
  rw [put5_eq]
  obtain ⟨q0, q1, q2, q3, q4⟩ := fl_cells (put5_blk (.int .i64 0) (.int .i64 0) (.int .i64 0) (.int .i64 0) (.slice none 0 0) HB2.out)
  exact bodyPost_ret (v := .tuple #[.agg f0.cs, .int .i64 bE]) (by simp [results, Try.results19, go_sem, q0, q1, q2, q3, q4, Fx.cs, f0]) rfl ⟨rfl, put5_below _ _ _ _ _ (bstep (balloc Hb.out) hb2) (Nat.le_refl _)⟩
theorem Step.after {w2 w3 w4 : World} (s : Step w w3 E E' B m) (k : Kept w3 w4 (fun j => j = w.heap.size)) (hne : ¬ E'.own w.heap.size) : Step w w4 E E' B m :=
  ⟨s.ok.keep k (fun j hj e => hne (e ▸ hj)), s.kept.step k (fun j hj => .inr (by omega)), s.own⟩
set_option maxHeartbeats 400000 in
theorem take_ok (h : E.Ok w B m) (k : Nat) (hk : k < E.fs.length) (hlen : E.fs.length ≤ 20000) (p q : Nat) (hs : (E.fs.getD k f0).src = p) (hd : (E.fs.getD k f0).dst = q) (hp : p < E.nn) (hq : q < E.nn) (hb : barE E p q = 0) : Calls Try.prog 19 #[.pointer (some ⟨E.b, 0, none⟩), .int .i64 k] w fun e w' => e = .returned (.tuple #[.agg (E.fs.getD k f0).cs, .int .i64 0]) ∧ (∃ a c, Step w w' E { E with va := a, vc := c, fs := E.fs.eraseIdx k } B m) ∧ Rd w' (E.fs.getD k f0).a (E.fs.getD k f0).n (E.fs.getD k f0).c (E.fs.getD k f0).bs := by
  have hmem := mem_getD hk
  generalize hf : E.fs.getD k f0 = f at hs hd hmem ⊢
  have hfb := h.fls.byt f hmem
  have hfo : ∀ j, f.v.ownBlock = some j → j < w.heap.size ∧ ¬ ((Value.slice E.va E.fs.length E.vc).ownBlock = some j ∨ j = E.b) := fun j hj => ⟨(World.ownsRow.lt hfb.1 j hj).2, fun e => e.elim (h.byt_ne hmem hj).2.2.2.2 (h.byt_ne hmem hj).1⟩
  have hro : ∀ j, ((Value.slice E.va E.fs.length E.vc).ownBlock = some j ∨ j = E.b) → j < w.heap.size := fun j hj => hj.elim (fun e => h.ltOwn (.inr (.inr (.inr (.inr (.inl e)))))) (fun e => h.ltOwn (.inl e))
  generalize hW : w.alloc (.cells #[.int .i64 0, .int .i64 0, .int .i64 0, .int .i64 0, .slice none 0 0] 43) = W
  have hbW : Below w.heap.size w W := by rw [← hW]; exact balloc (Below.refl _ w)
  have hblk : W.heap[w.heap.size]? = some (.cells #[.int .i64 0, .int .i64 0, .int .i64 0, .int .i64 0, .slice none 0 0] 43 (0, 0)) := by rw [← hW]; exact heap_alloc_new w _
  have hWs : W.heap.size = w.heap.size + 1 := by rw [← hW]; simp
  have HP := isPlace_any (h.still hbW) k
  rw [decide_eq_true (by omega)] at HP
  obtain ⟨g, hva, u0, u1, u2, u3, u4, uz⟩ := (h.still hbW).flC hk
  have c6 := (h.still hbW).c6
  rw [hva] at c6
  rw [hf] at u0 u1 u2 u3 u4
  have HBa : Hid (∀ w', Below w.heap.size w w' → Calls Try.prog 27 #[.pointer (some ⟨E.b, 0, none⟩), .agg f.cs] w' fun e w2 => e = .returned (.int .i64 (barE E p q)) ∧ Below w'.heap.size w' w2) := fun w' hb' => barrier_any (h.still hb') f p q hs hd hp hq
  have HDr : Hid (∀ w', Below w.heap.size w w' → Calls Try.prog 43 #[.pointer (some ⟨E.b, 0, none⟩), .int .i64 k] w' fun e w2 => e = .returned (.tuple #[]) ∧ (∃ a c, Step w' w2 E { E with va := a, vc := c, fs := E.fs.eraseIdx k } B m) ∧ Kept w' w2 (fun j => (Value.slice E.va E.fs.length E.vc).ownBlock = some j ∨ j = E.b)) := fun w' hb' => drop_any (h.still hb') k hk hlen
  rw [hb] at HBa
  have Hb : Hid (Below w.heap.size w W) := hbW
  have HB : Hid (W.heap[w.heap.size]? = some (.cells #[.int .i64 0, .int .i64 0, .int .i64 0, .int .i64 0, .slice none 0 0] 43 (0, 0))) := hblk
  have i1 : (0 : Int) ≤ (k : Int) := Int.natCast_nonneg _
  have i2 : (k : Int) < (E.fs.length : Int) := by omega
  have HE : Hid (E.Ok w B m) := h
  have Hfo : Hid (∀ j, f.v.ownBlock = some j → j < w.heap.size ∧ ¬ ((Value.slice E.va E.fs.length E.vc).ownBlock = some j ∨ j = E.b)) := hfo
  have Hro : Hid (∀ j, ((Value.slice E.va E.fs.length E.vc).ownBlock = some j ∨ j = E.b) → j < w.heap.size) := hro
  have Hfb : Hid (f.byt w B) := hfb
  clear h hbW hblk uz hfo hro hfb hb
  unfold Fx.cs at HBa ⊢
  rw [hs, hd] at HBa ⊢
  rw [hs] at u1
  rw [hd] at u2
  go_enter Try.func19, Try.ntmps19
  go_wp2_with (first
    | (go_at_call 42; refine HP.mono ?_; rintro e w1 ⟨rfl, rfl⟩)
    | (go_at_call 27; refine (HBa.out _ (by repeat (first | exact Below.refl _ _ | assumption | exact Hb.out | apply Below.drew | apply balloc))).mono ?_; rintro e w2 ⟨rfl, hb2⟩; have R2 : Hid (Below w.heap.size w w2) := (bstep (balloc Hb.out) hb2); have HB2 : Hid (w2.heap[w.heap.size]? = some (.cells #[.int .i64 0, .int .i64 0, .int .i64 0, .int .i64 0, .slice none 0 0] 43 (0, 0))) := ((hb2.block _ (by simp; omega)).trans (by first | exact blk_alloc HB.out | exact HB.out)); have HF2 : Hid (w2.heap[w.heap.size + 1]? = some (.cells #[.int .i64 f.id, .int .i64 p, .int .i64 q, .int .i64 f.due, .slice f.a f.n f.c] 43 (0, 0))) := ((hb2.block _ (by simp; omega)).trans (by rw [← hWs]; exact heap_alloc_new W _)); clear hb2)
    | (go_at_call 43; refine (HDr.out _ R2.out).mono ?_; rintro e w3 ⟨rfl, ⟨av, cv, hs3⟩, hk3⟩; have HS3 : Hid (Step w w3 E { E with va := av, vc := cv, fs := E.fs.eraseIdx k } B m) := (Step.pre R2.out hs3); have HB3 : Hid (w3.heap[w.heap.size]? = some (.cells #[.int .i64 0, .int .i64 0, .int .i64 0, .int .i64 0, .slice none 0 0] 43 (0, 0))) := (hk3.obj HB2.out (fun e => by have := Hro.out _ e; omega)); have HF3 : Hid (w3.heap[w.heap.size + 1]? = some (.cells #[.int .i64 f.id, .int .i64 p, .int .i64 q, .int .i64 f.due, .slice f.a f.n f.c] 43 (0, 0))) := (hk3.obj HF2.out (fun e => by have := Hro.out _ e; omega)); obtain ⟨e0, e1, e2, e3, e4⟩ := fl_cells HB3.out; obtain ⟨g0, g1, g2, g3, g4⟩ := fl_frz HB3.out; obtain ⟨x0, x1, x2, x3, x4⟩ := fl_cells HF3.out; have HO3 : Hid (∀ j, ({ E with va := av, vc := cv, fs := E.fs.eraseIdx k } : En).own j → E.own j ∨ w2.heap.size ≤ j) := hs3.own; have HK3 : Hid (Kept w2 w3 (fun j => (Value.slice E.va E.fs.length E.vc).ownBlock = some j ∨ j = E.b)) := hk3; clear hs3 hk3)
    | fail)
  rw [put5_eq]
  obtain ⟨q0, q1, q2, q3, q4⟩ := fl_cells (put5_blk (.int .i64 f.id) (.int .i64 p) (.int .i64 q) (.int .i64 f.due) (.slice f.a f.n f.c) HB3.out)
  have hne : ¬ ({ E with va := av, vc := cv, fs := E.fs.eraseIdx k } : En).own w.heap.size := by
    intro ho
    rcases HO3.out _ ho with h1 | h1
    · have := HE.out.ltOwn h1; omega
    · have := lt_heap HB2.out; omega
  exact bodyPost_ret (v := .tuple #[.agg #[.int .i64 f.id, .int .i64 p, .int .i64 q, .int .i64 f.due, .slice f.a f.n f.c], .int .i64 0]) (by simp [results, Try.results19, go_sem, q0, q1, q2, q3, q4]) rfl ⟨rfl, ⟨av, cv, HS3.out.after (w2 := w2) (put5_kept _ _ _ _ _ _) hne⟩, (((Hfb.out.keep (Kept.ofBelow R2.out (fun _ => False)) (fun _ _ => id)).keep HK3.out (fun j hj => (Hfo.out j hj).2)).keep (put5_kept _ _ _ _ _ _) (fun j hj e => by have := (Hfo.out j hj).1; omega)).rd⟩
end
end Go.Proofs.Ytnhhjelplmdloaa.Et
namespace Go.Proofs.Ytnhhjelplmdloaa.Et
open Go.RowKit Go.Maps
set_option linter.unusedVariables false
set_option linter.unusedSimpArgs false
set_option maxRecDepth 100000
section
variable {E E' : En} {w w' W w1 : World} {B m : Nat}
def apV (u v : Value) : Prop := ∀ k, u.ownBlock = some k → v.ownBlock ≠ some k
theorem apt_map (fs : List Fx) : fs.Pairwise Fx.apart ↔ (fs.map Fx.v).Pairwise apV := by rw [List.pairwise_map]; rfl
theorem apt_same {fs fs' : List Fx} (h : fs'.map Fx.v = fs.map Fx.v) (ha : fs.Pairwise Fx.apart) : fs'.Pairwise Fx.apart := by
  rw [apt_map] at ha ⊢
  rw [h]
  exact ha
theorem set_map {fs : List Fx} {k : Nat} (hk : k < fs.length) {f' : Fx} (h : f'.v = (fs.getD k f0).v) : (fs.set k f').map Fx.v = fs.map Fx.v := by
  rw [List.map_set, h]
  apply List.ext_getElem
  · simp
  · intro i h1 h2
    rw [List.getElem_set]
    split
    · rename_i e; subst e; simp [List.getD, List.getElem?_eq_getElem hk]
    · rfl
theorem own_map {fs fs' : List Fx} (h : fs'.map Fx.v = fs.map Fx.v) {j : Nat} (hj : ∃ f ∈ fs', f.v.ownBlock = some j) : ∃ f ∈ fs, f.v.ownBlock = some j := by
  obtain ⟨f, hf, e⟩ := hj
  have : f.v ∈ fs.map Fx.v := by rw [← h]; exact List.mem_map_of_mem hf
  obtain ⟨f2, hf2, e2⟩ := List.mem_map.1 this
  exact ⟨f2, hf2, by rw [e2]; exact e⟩
theorem flCells_set (fs : List Fx) (k : Nat) (hk : k < fs.length) (f' : Fx) (j : Nat) (hj : j < 5) (v : Value) (h : f'.cs.toList = (fs.getD k f0).cs.toList.set j v) : flCells (fs.set k f') = (flCells fs).set (k * 5 + j) v := by
  induction fs generalizing k with
  | nil => simp at hk
  | cons f fs ih =>
    have hl : f.cs.toList.length = 5 := rfl
    cases k with
    | zero =>
      simp only [List.set_cons_zero, flCells, List.flatMap_cons, Nat.zero_mul, Nat.zero_add]
      rw [List.set_append_left _ _ (by rw [hl]; exact hj)]
      simp at h
      simp [h]
    | succ k =>
      have := ih k (by simpa using hk) (by simpa using h)
      simp only [flCells, List.set_cons_succ, List.flatMap_cons] at this ⊢
      rw [this, List.set_append_right _ _ (by rw [hl]; omega), hl, show (k + 1) * 5 + j - 5 = k * 5 + j by omega]
theorem mem_set {fs : List Fx} {k : Nat} {f' f : Fx} (h : f ∈ fs.set k f') : f = f' ∨ f ∈ fs := by
  rcases List.mem_or_eq_of_mem_set h with h | h
  · exact .inr h
  · exact .inl h
theorem Step.due (h : E.Ok w B m) (k : Nat) (hk : k < E.fs.length) (g : Nat) (hva : E.va = some ⟨g, 0, none⟩) (x : Int) : Step w (w.setCell ⟨g, k * 5 + 3, none⟩ (.int .i64 x)) E { E with fs := E.fs.set k { (E.fs.getD k f0) with due := x } } B m := by
  have hvo : (Value.slice E.va E.fs.length E.vc).ownBlock = some g := by rw [hva]; rfl
  have hgr := h.row_ne hvo
  have k1 : Kept w (w.setCell ⟨g, k * 5 + 3, none⟩ (.int .i64 x)) (fun j => j = g) := kset w g _ _ rfl
  have hmp : (E.fs.set k { (E.fs.getD k f0) with due := x }).map Fx.v = E.fs.map Fx.v := set_map hk rfl
  have hrow := h.fls.row
  rw [hva] at hrow
  have hst := (World.ownsRow.stored hrow (k * 5 + 3) (.int .i64 x)).1
  rw [← flCells_set E.fs k hk { (E.fs.getD k f0) with due := x } 3 (by omega) (.int .i64 x) rfl] at hst
  refine ⟨⟨?_, ?_, ?_, ?_, ⟨?_, ?_, ?_⟩, h.ge, h.ne, h.n16, ?_, h.dly⟩, ?_, ?_⟩
  · have := k1.obj h.blk (fun e => hgr.1 e.symm)
    rw [this]
    simp [En.cs]
  · exact h.nod.keep k1 (fun e => hgr.2.1 e.symm)
  · exact h.cut.keep k1 (fun e => hgr.2.2.1 e.symm)
  · exact h.del.keep k1 (fun e => hgr.2.2.2 e.symm)
  · simp only [List.length_set, hva]
    exact hst
  · intro f hf
    rcases mem_set hf with rfl | hf
    · exact Fx.byt.keep (f := E.fs.getD k f0) (h.fls.byt _ (mem_getD hk)) k1 (fun j hj e => (h.byt_ne (mem_getD hk) hj).2.2.2.2 (by rw [e]; exact hvo))
    · exact (h.fls.byt f hf).keep k1 (fun j hj e => (h.byt_ne hf hj).2.2.2.2 (by rw [e]; exact hvo))
  · exact apt_same hmp h.fls.apt
  · intro f hf
    rcases mem_set hf with rfl | hf
    · exact h.pth (E.fs.getD k f0) (mem_getD hk)
    · exact h.pth f hf
  · exact k1.mono (fun j _ e => .inr (.inr (.inr (.inr (.inl (by rw [e]; exact hvo))))))
  · intro j hj
    left
    rcases hj with e | e | e | e | e | e
    · exact .inl e
    · exact .inr (.inl e)
    · exact .inr (.inr (.inl e))
    · exact .inr (.inr (.inr (.inl e)))
    · exact .inr (.inr (.inr (.inr (.inl (by simpa using e)))))
    · exact .inr (.inr (.inr (.inr (.inr (own_map hmp e)))))
theorem Step.bit (h : E.Ok w B m) (k : Nat) (hk : k < E.fs.length) (g : Nat) (hg : (E.fs.getD k f0).a = some ⟨g, 0, none⟩) (i : Nat) (x : Int) (hx : 0 ≤ x ∧ x ≤ 255) : Step w (w.setCell ⟨g, i, none⟩ (.int .u8 x)) E { E with fs := E.fs.set k { (E.fs.getD k f0) with bs := (E.fs.getD k f0).bs.set i x } } B m := by
  have hm := mem_getD hk
  have hgo : (E.fs.getD k f0).v.ownBlock = some g := by unfold Fx.v; rw [hg]; rfl
  have hgr := h.byt_ne hm hgo
  have k1 : Kept w (w.setCell ⟨g, i, none⟩ (.int .u8 x)) (fun j => j = g) := kset w g _ _ rfl
  have hmp : (E.fs.set k { (E.fs.getD k f0) with bs := (E.fs.getD k f0).bs.set i x }).map Fx.v = E.fs.map Fx.v := set_map hk rfl
  have hrow : w.ownsRow B 5 1 (.slice (some ⟨g, 0, none⟩) (E.fs.getD k f0).n (E.fs.getD k f0).c) (E.fs.getD k f0).n ((E.fs.getD k f0).bs.map (Value.int .u8)) := by
    have := (h.fls.byt _ hm).1
    unfold Fx.v at this
    rw [hg] at this
    exact this
  have hst := (World.ownsRow.stored hrow i (.int .u8 x)).1
  rw [← List.map_set] at hst
  have hfl : flCells (E.fs.set k { (E.fs.getD k f0) with bs := (E.fs.getD k f0).bs.set i x }) = flCells E.fs := by
    rw [flCells_set E.fs k hk { (E.fs.getD k f0) with bs := (E.fs.getD k f0).bs.set i x } 4 (by omega) (E.fs.getD k f0).v rfl]
    apply List.ext_getElem?
    intro j
    rw [List.getElem?_set]
    split
    · rename_i e
      subst e
      rw [flCells_get E.fs k hk 4 (by omega)]
      simp [Fx.cs, Fx.v, flCells_len]
      omega
    · rfl
  refine ⟨⟨?_, ?_, ?_, ?_, ⟨?_, ?_, ?_⟩, h.ge, h.ne, h.n16, ?_, h.dly⟩, ?_, ?_⟩
  · have := k1.obj h.blk (fun e => hgr.1 e.symm)
    rw [this]
    simp [En.cs]
  · exact h.nod.keep k1 (fun e => hgr.2.1 e.symm)
  · exact h.cut.keep k1 (fun e => hgr.2.2.1 e.symm)
  · exact h.del.keep k1 (fun e => hgr.2.2.2.1 e.symm)
  · simp only [List.length_set]
    rw [hfl]
    exact k1.owns h.fls.row (fun j hj e => hgr.2.2.2.2 (by rw [← e]; exact hj))
  · intro f hf
    obtain ⟨j, hj, rfl⟩ := List.getElem_of_mem hf
    rw [List.length_set] at hj
    rw [List.getElem_set]
    split
    · refine ⟨?_, ?_⟩
      · unfold Fx.v
        rw [hg]
        exact hst
      · intro i'
        simp only [List.getD, List.getElem?_set]
        split
        · split
          · exact hx
          · simp
        · exact (h.fls.byt _ hm).2 i'
    · rename_i hne
      refine (h.fls.byt _ (List.getElem_mem hj)).keep k1 (fun q hq e => ?_)
      subst e
      have hap := List.pairwise_iff_getElem.1 h.fls.apt
      have hgk : (E.fs[k]).v.ownBlock = some q := by simpa [List.getD, List.getElem?_eq_getElem hk] using hgo
      rcases Nat.lt_or_gt_of_ne hne with hlt | hlt
      · exact hap k j hk hj hlt q hgk hq
      · exact hap j k hj hk hlt q hq hgk
  · exact apt_same hmp h.fls.apt
  · intro f hf
    rcases mem_set hf with rfl | hf
    · exact h.pth (E.fs.getD k f0) hm
    · exact h.pth f hf
  · exact k1.mono (fun j _ e => .inr (.inr (.inr (.inr (.inr ⟨_, hm, by rw [e]; exact hgo⟩)))))
  · intro j hj
    left
    rcases hj with e | e | e | e | e | e
    · exact .inl e
    · exact .inr (.inl e)
    · exact .inr (.inr (.inl e))
    · exact .inr (.inr (.inr (.inl e)))
    · exact .inr (.inr (.inr (.inr (.inl (by simpa using e)))))
    · exact .inr (.inr (.inr (.inr (.inr (own_map hmp e)))))
set_option maxHeartbeats 400000 in
theorem hold_no (g o : Nat) (x : Int) (hx : x < 1 ∨ 16 < x) : Calls Try.prog 60 #[.pointer (some ⟨g, o, none⟩), .int .i64 x] w fun e w' => e = .returned (.int .i64 1) ∧ w = w' := by
  go_enter Try.func60, Try.ntmps60
  go_wp2
  all_goals first | (exfalso; omega) | (go_ret; exact ⟨rfl, rfl⟩)
set_option maxHeartbeats 400000 in
theorem hold_ok (g o : Nat) (x d : Int) (h1 : 1 ≤ x) (h2 : x ≤ 16) (hc : w.cell? ⟨g, o + 3, none⟩ = some (.int .i64 d)) (hf : w.frozen? ⟨g, o + 3, none⟩ = false) : Calls Try.prog 60 #[.pointer (some ⟨g, o, none⟩), .int .i64 x] w fun e w' => e = .returned (.int .i64 0) ∧ w' = w.setCell ⟨g, o + 3, none⟩ (.int .i64 (wrap64 (d + x))) := by
  go_enter Try.func60, Try.ntmps60
  go_wp2
  all_goals first | (exfalso; omega) | (go_ret; exact ⟨rfl, rfl⟩)
theorem wrap_id {a : Int} (h0 : -9223372036854775808 ≤ a) (h1 : a ≤ 9223372036854775807) : IntKind.i64.wrap a = a := by
  simp only [IntKind.wrap, IntKind.bits, IntKind.signed]
  simp
  omega
def flipB (x : Int) (b : Nat) : Int := bits .xor .u8 x (IntKind.u8.wrap (2 ^ b))
set_option maxHeartbeats 400000 in
theorem flip_neg (g o : Nat) (x : Int) (hx : x < 0) : Calls Try.prog 61 #[.pointer (some ⟨g, o, none⟩), .int .i64 x] w fun e w' => e = .returned (.int .i64 1) ∧ w = w' := by
  go_enter Try.func61, Try.ntmps61
  go_wp2
  all_goals first | (exfalso; omega) | (go_ret; exact ⟨rfl, rfl⟩)
set_option maxHeartbeats 400000 in
theorem flip_far (g o : Nat) (a : Option Addr) (n c : Nat) (x : Nat) (hc : w.cell? ⟨g, o + 4, none⟩ = some (.slice a n c)) (hx : n ≤ x / 8) (h63 : (x : Int) ≤ 9223372036854775807) : Calls Try.prog 61 #[.pointer (some ⟨g, o, none⟩), .int .i64 x] w fun e w' => e = .returned (.int .i64 1) ∧ w = w' := by
  have b0 : (0 : Int) ≤ (x : Int) / 8 := by omega
  have b1 : (x : Int) / 8 ≤ 9223372036854775807 := by omega
  have b2 : (n : Int) ≤ (x : Int) / 8 := by omega
  go_enter Try.func61, Try.ntmps61
  go_wp2
  all_goals first | (exfalso; omega) | (go_ret; exact ⟨rfl, rfl⟩)
set_option maxHeartbeats 400000 in
theorem flip_ok (g o : Nat) (gb : Nat) (n c : Nat) (x : Nat) (y : Int) (hc : w.cell? ⟨g, o + 4, none⟩ = some (.slice (some ⟨gb, 0, none⟩) n c)) (hx : x / 8 < n) (hy : w.cell? ⟨gb, x / 8, none⟩ = some (.int .u8 y)) (hf : w.frozen? ⟨gb, x / 8, none⟩ = false) (h63 : (x : Int) ≤ 9223372036854775807) : Calls Try.prog 61 #[.pointer (some ⟨g, o, none⟩), .int .i64 x] w fun e w' => e = .returned (.int .i64 0) ∧ w' = (w.setCell ⟨gb, x / 8, none⟩ (.int .u8 (flipB y (x % 8)))).drew := by
  have b0 : (0 : Int) ≤ (x : Int) / 8 := by omega
  have b1 : (x : Int) / 8 ≤ 9223372036854775807 := by omega
  have b2 : (x : Int) / 8 < (n : Int) := by omega
  have b3 : ((x : Int) / 8).toNat = x / 8 := by omega
  have b4 : (x : Int).tmod 8 = ((x % 8 : Nat) : Int) := by rw [Int.tmod_eq_emod_of_nonneg (by omega)]; omega
  have b6 : IntKind.i64.wrap ((x : Int) / 8) = (x : Int) / 8 := wrap_id (by omega) (by omega)
  have b7 : x % 8 < 8 := Nat.mod_lt _ (by omega)
  go_enter Try.func61, Try.ntmps61
  go_wp2
  go_region_law (fail)
  all_goals (go_wp2; go_ret; exact ⟨rfl, by rw [show ((x : Int) % 8).toNat = x % 8 by omega]; rfl⟩)
end
end Go.Proofs.Ytnhhjelplmdloaa.Et
namespace Go.Proofs.Ytnhhjelplmdloaa.Et
open Go.RowKit Go.Maps
set_option linter.unusedVariables false
set_option linter.unusedSimpArgs false
set_option maxRecDepth 100000
structure Ev where
  k : Int
  a : Int
  b : Int
  n : Int
  ba : Option Addr
  bn : Nat
  bc : Nat
  sa : Option Addr
  sn : Nat
  sc : Nat
def Ev.cs (v : Ev) : Array Value := #[.int .i64 v.k, .int .i64 v.a, .int .i64 v.b, .int .i64 v.n, .slice v.ba v.bn v.bc, .int .i64 0, .int .i64 0, .int .i64 0, .int .i64 0, .string ByteArray.empty, .string ByteArray.empty, .string ByteArray.empty, .slice v.sa v.sn v.sc]
theorem ev_cells {w : World} {t : TypeId} {k : Nat} {v : Ev} (h : w.heap[k]? = some (.cells v.cs t (0, 0))) : w.cell? ⟨k, 0, none⟩ = some (.int .i64 v.k) ∧ w.cell? ⟨k, 1, none⟩ = some (.int .i64 v.a) ∧ w.cell? ⟨k, 2, none⟩ = some (.int .i64 v.b) ∧ w.cell? ⟨k, 3, none⟩ = some (.int .i64 v.n) ∧ w.cell? ⟨k, 4, none⟩ = some (.slice v.ba v.bn v.bc) ∧ w.cell? ⟨k, 12, none⟩ = some (.slice v.sa v.sn v.sc) :=
  ⟨blk_cell h 0, blk_cell h 1, blk_cell h 2, blk_cell h 3, blk_cell h 4, blk_cell h 12⟩
theorem ev_rest {w : World} {t : TypeId} {k : Nat} {v : Ev} (h : w.heap[k]? = some (.cells v.cs t (0, 0))) : w.cell? ⟨k, 5, none⟩ = some (.int .i64 0) ∧ w.cell? ⟨k, 6, none⟩ = some (.int .i64 0) ∧ w.cell? ⟨k, 7, none⟩ = some (.int .i64 0) ∧ w.cell? ⟨k, 8, none⟩ = some (.int .i64 0) ∧ w.cell? ⟨k, 9, none⟩ = some (.string ByteArray.empty) ∧ w.cell? ⟨k, 10, none⟩ = some (.string ByteArray.empty) ∧ w.cell? ⟨k, 11, none⟩ = some (.string ByteArray.empty) :=
  ⟨blk_cell h 5, blk_cell h 6, blk_cell h 7, blk_cell h 8, blk_cell h 9, blk_cell h 10, blk_cell h 11⟩
section
variable {E E' : En} {w w' W w1 : World} {B m : Nat}
theorem new_old {k i : Nat} {v : Value} {o : Obj} (hc : W.cell? ⟨k, i, none⟩ = some v) : (W.alloc o).cell? ⟨k, i, none⟩ = some v := below_at ((Below.refl _ W).alloc (Nat.le_refl _) o) hc
set_option maxHeartbeats 400000 in
theorem doPath_no (h : E.Ok w B m) (v : Ev) (hp : isP E v.a v.b = false) : Calls Try.prog 50 #[.pointer (some ⟨E.b, 0, none⟩), .agg v.cs] w fun e w' => e = .returned (.int .i64 1) ∧ Below w.heap.size w w' := by
  generalize hW : w.alloc (.cells v.cs 90) = W
  have hbW : Below w.heap.size w W := by rw [← hW]; exact balloc (Below.refl _ w)
  have hblk : W.heap[w.heap.size]? = some (.cells v.cs 90 (0, 0)) := by rw [← hW]; exact heap_alloc_new w _
  obtain ⟨e0, e1, e2, e3, e4, e5⟩ := ev_cells hblk
  have HP : Hid (∀ w', Below w.heap.size w w' → Calls Try.prog 45 #[.pointer (some ⟨E.b, 0, none⟩), .agg #[.int .i64 v.a, .int .i64 v.b]] w' fun e w2 => e = .returned (.bool false) ∧ Below w'.heap.size w' w2) := isPath_is h hp
  have Hb : Hid (Below w.heap.size w W) := hbW
  unfold Ev.cs at hW ⊢
  clear h hbW hblk
  go_enter Try.func50, Try.ntmps50
  go_wp2_with (first | (go_at_call 45; refine (HP.out _ (by repeat (first | exact Hb.out | apply Below.drew | apply balloc))).mono ?_; rintro e w1 ⟨rfl, hb1⟩) | fail)
  go_ret
  exact ⟨rfl, bstep (balloc Hb.out) hb1⟩
theorem path_pre (h : E.Ok w B m) {a b : Nat} (ha : a < E.nn) (hb : b < E.nn) (hne : a ≠ b) : ∀ w', Below w.heap.size w w' → Calls Try.prog 45 #[.pointer (some ⟨E.b, 0, none⟩), .agg #[.int .i64 a, .int .i64 b]] w' fun e w2 => e = .returned (.bool true) ∧ Below w'.heap.size w' w2 := isPath_is h (isP_nat ha hb hne)
set_option maxHeartbeats 400000 in
theorem doPath_open (h : E.Ok w B m) (v : Ev) (a b : Nat) (hva : v.a = a) (hvb : v.b = b) (ha : a < E.nn) (hb : b < E.nn) (hne : a ≠ b) (hk : v.k ≠ 10) (hm : m < maxLen) : Calls Try.prog 50 #[.pointer (some ⟨E.b, 0, none⟩), .agg v.cs] w fun e w' => e = .returned (.int .i64 0) ∧ Step w w' E { E with cut := upd2 E.cut a b (!(v.k == 9)) } B (m + 1) := by
  have hn := h.n16
  generalize hW : w.alloc (.cells v.cs 90) = W
  have hbW : Below w.heap.size w W := by rw [← hW]; exact balloc (Below.refl _ w)
  have hblk : W.heap[w.heap.size]? = some (.cells v.cs 90 (0, 0)) := by rw [← hW]; exact heap_alloc_new w _
  obtain ⟨e0, e1, e2, e3, e4, e5⟩ := ev_cells hblk
  rw [hva] at e1
  rw [hvb] at e2
  have HP : Hid (∀ w', Below w.heap.size w w' → Calls Try.prog 45 #[.pointer (some ⟨E.b, 0, none⟩), .agg #[.int .i64 a, .int .i64 b]] w' fun e w2 => e = .returned (.bool true) ∧ Below w'.heap.size w' w2) := path_pre h ha hb hne
  have HO : Hid (∀ w' o, Below w.heap.size w w' → Calls Try.prog 59 #[.pointer (some ⟨E.b, 0, none⟩), .agg #[.int .i64 a, .int .i64 b], .bool o] w' fun e w2 => e = .returned (.tuple #[]) ∧ Step w' w2 E { E with cut := upd2 E.cut a b (!o) } B (m + 1)) := fun w' o hb' => setOpen_any (h.still hb') a b (by omega) (by omega) o hm
  have Hb : Hid (Below w.heap.size w W) := hbW
  unfold Ev.cs at hW ⊢
  rw [hva, hvb] at hW ⊢
  clear h hbW hblk
  go_enter Try.func50, Try.ntmps50
  go_wp2_with (first
    | (go_at_call 45; refine (HP.out _ (by repeat (first | exact Hb.out | apply Below.drew | apply balloc))).mono ?_; rintro e w1 ⟨rfl, hb1⟩; have R1 : Hid (Below w.heap.size w w1) := (bstep (balloc Hb.out) hb1); have f0 := below_at hb1 (new_old e0); have q0 := new_cells hb1 0 (v := .int .i64 a) rfl; have q1 := new_cells hb1 1 (v := .int .i64 b) rfl; clear hb1)
    | (go_at_call 59; refine (HO.out _ _ R1.out).mono ?_; rintro e w2 ⟨rfl, hs2⟩)
    | fail)
  go_ret
  exact ⟨rfl, Step.pre R1.out hs2⟩
set_option maxHeartbeats 400000 in
theorem doPath_dno (h : E.Ok w B m) (v : Ev) (a b : Nat) (hva : v.a = a) (hvb : v.b = b) (ha : a < E.nn) (hb : b < E.nn) (hne : a ≠ b) (hk : v.k = 10) (hx : v.n < 1 ∨ 16 < v.n) : Calls Try.prog 50 #[.pointer (some ⟨E.b, 0, none⟩), .agg v.cs] w fun e w' => e = .returned (.int .i64 1) ∧ Below w.heap.size w w' := by
  have hn := h.n16
  generalize hW : w.alloc (.cells v.cs 90) = W
  have hbW : Below w.heap.size w W := by rw [← hW]; exact balloc (Below.refl _ w)
  have hblk : W.heap[w.heap.size]? = some (.cells v.cs 90 (0, 0)) := by rw [← hW]; exact heap_alloc_new w _
  obtain ⟨e0, e1, e2, e3, e4, e5⟩ := ev_cells hblk
  rw [hva] at e1
  rw [hvb] at e2
  rw [hk] at e0
  have HP : Hid (∀ w', Below w.heap.size w w' → Calls Try.prog 45 #[.pointer (some ⟨E.b, 0, none⟩), .agg #[.int .i64 a, .int .i64 b]] w' fun e w2 => e = .returned (.bool true) ∧ Below w'.heap.size w' w2) := path_pre h ha hb hne
  have HO : Hid (∀ w', Below w.heap.size w w' → Calls Try.prog 58 #[.pointer (some ⟨E.b, 0, none⟩), .agg #[.int .i64 a, .int .i64 b], .int .i64 v.n] w' fun e w2 => e = .returned (.int .i64 1) ∧ Below w'.heap.size w' w2) := fun w' hb' => setDelay_no (h.still hb') a b v.n hx
  have Hb : Hid (Below w.heap.size w W) := hbW
  unfold Ev.cs at hW ⊢
  rw [hva, hvb, hk] at hW ⊢
  clear h hbW hblk hx
  go_enter Try.func50, Try.ntmps50
  go_wp2_with (first
    | (go_at_call 45; refine (HP.out _ (by repeat (first | exact Hb.out | apply Below.drew | apply balloc))).mono ?_; rintro e w1 ⟨rfl, hb1⟩; have R1 : Hid (Below w.heap.size w w1) := (bstep (balloc Hb.out) hb1); have f0 := below_at hb1 (new_old e0); have f3 := below_at hb1 (new_old e3); have q0 := new_cells hb1 0 (v := .int .i64 a) rfl; have q1 := new_cells hb1 1 (v := .int .i64 b) rfl; clear hb1)
    | (go_at_call 58; refine (HO.out _ R1.out).mono ?_; rintro e w2 ⟨rfl, hs2⟩)
    | fail)
  all_goals first | (go_ret; exact ⟨rfl, bstep R1.out hs2⟩) | exact ⟨rfl, bstep R1.out hs2⟩
set_option maxHeartbeats 400000 in
theorem doPath_dly (h : E.Ok w B m) (v : Ev) (a b : Nat) (hva : v.a = a) (hvb : v.b = b) (ha : a < E.nn) (hb : b < E.nn) (hne : a ≠ b) (hk : v.k = 10) (h1 : 1 ≤ v.n) (h2 : v.n ≤ 16) (hm : m < maxLen) : Calls Try.prog 50 #[.pointer (some ⟨E.b, 0, none⟩), .agg v.cs] w fun e w' => e = .returned (.int .i64 0) ∧ Step w w' E { E with dl := upd2 E.dl a b v.n } B (m + 1) := by
  have hn := h.n16
  generalize hW : w.alloc (.cells v.cs 90) = W
  have hbW : Below w.heap.size w W := by rw [← hW]; exact balloc (Below.refl _ w)
  have hblk : W.heap[w.heap.size]? = some (.cells v.cs 90 (0, 0)) := by rw [← hW]; exact heap_alloc_new w _
  obtain ⟨e0, e1, e2, e3, e4, e5⟩ := ev_cells hblk
  rw [hva] at e1
  rw [hvb] at e2
  rw [hk] at e0
  have HP : Hid (∀ w', Below w.heap.size w w' → Calls Try.prog 45 #[.pointer (some ⟨E.b, 0, none⟩), .agg #[.int .i64 a, .int .i64 b]] w' fun e w2 => e = .returned (.bool true) ∧ Below w'.heap.size w' w2) := path_pre h ha hb hne
  have HO : Hid (∀ w', Below w.heap.size w w' → Calls Try.prog 58 #[.pointer (some ⟨E.b, 0, none⟩), .agg #[.int .i64 a, .int .i64 b], .int .i64 v.n] w' fun e w2 => e = .returned (.int .i64 0) ∧ Step w' w2 E { E with dl := upd2 E.dl a b v.n } B (m + 1)) := fun w' hb' => setDelay_ok (h.still hb') a b (by omega) (by omega) v.n h1 h2 hm
  have Hb : Hid (Below w.heap.size w W) := hbW
  unfold Ev.cs at hW ⊢
  rw [hva, hvb, hk] at hW ⊢
  clear h hbW hblk h1 h2
  go_enter Try.func50, Try.ntmps50
  go_wp2_with (first
    | (go_at_call 45; refine (HP.out _ (by repeat (first | exact Hb.out | apply Below.drew | apply balloc))).mono ?_; rintro e w1 ⟨rfl, hb1⟩; have R1 : Hid (Below w.heap.size w w1) := (bstep (balloc Hb.out) hb1); have f0 := below_at hb1 (new_old e0); have f3 := below_at hb1 (new_old e3); have q0 := new_cells hb1 0 (v := .int .i64 a) rfl; have q1 := new_cells hb1 1 (v := .int .i64 b) rfl; clear hb1)
    | (go_at_call 58; refine (HO.out _ R1.out).mono ?_; rintro e w2 ⟨rfl, hs2⟩)
    | fail)
  all_goals first | (go_ret; exact ⟨rfl, Step.pre R1.out hs2⟩) | exact ⟨rfl, Step.pre R1.out hs2⟩
end
end Go.Proofs.Ytnhhjelplmdloaa.Et
