import Derived.Test.YtnhhjelplmdloaaV01
import Derived.Laws.CopyOwn
import Derived.Deep.RegionLaw
namespace Go.Proofs.Ytnhhjelplmdloaa.Et
open Go.RowKit Go.Maps
set_option linter.unusedVariables false
set_option linter.unusedSimpArgs false
set_option maxRecDepth 100000
section
variable {E E' : En} {w w' W : World} {B m : Nat}
def Rd (w : World) (ao : Option Addr) (len cap : Nat) (bs : List Int) : Prop :=
  bs.length = len ∧ (ao = none → len = 0 ∧ cap = 0) ∧ (len = 0 ∨ ∃ b off, ao = some ⟨b, off, none⟩ ∧ ∀ i, i < len → w.cell? ⟨b, off + i, none⟩ = some (.int .u8 (bs.getD i 0))) ∧ ∀ i, 0 ≤ bs.getD i 0 ∧ bs.getD i 0 ≤ 255
theorem info_u8 : (Try.prog.info? 5).map (fun i => (i.zero, i.size, i.bytes)) = some (some (.int .u8 0), 1, 1) := by kernel_rfl
theorem size_u8 : (Try.prog.info? 5).map (·.size) = some 1 := by kernel_rfl
theorem bytes_one (bs : List Int) : ∀ u ∈ bs.map (Value.int .u8), u.oneCell' = true := by
  intro u hu
  obtain ⟨_, _, rfl⟩ := List.mem_map.1 hu
  rfl
theorem Rd.still {ao : Option Addr} {len cap : Nat} {bs : List Int} (h : Rd w ao len cap bs) (hb : Below w.heap.size w w') : Rd w' ao len cap bs := by
  obtain ⟨h1, h2, h3, h4⟩ := h
  refine ⟨h1, h2, h3.elim (fun hh => .inl hh) (fun hh => .inr ?_), h4⟩
  obtain ⟨b, off, rfl, hc⟩ := hh
  exact ⟨b, off, rfl, fun i hi => (hb.cell (World.block_lt_of_cell? w _ (hc i hi))).trans (hc i hi)⟩
theorem Rd.cells {ao : Option Addr} {len cap : Nat} {bs : List Int} (h : Rd w ao len cap bs) (a : Addr) (ha : ao = some a) : ∀ j v, (bs.map (Value.int .u8))[j]? = some v → w.cell? (a.add j) = some v := by
  intro j v hv
  obtain ⟨hl, _, hc, _⟩ := h
  have hj : j < len := by have := (List.getElem?_eq_some_iff.1 hv).1; simpa [hl] using this
  rcases hc with h | ⟨b, off, hao, hc⟩
  · omega
  · rw [ha] at hao
    obtain rfl := Option.some.inj hao
    rw [Addr.add_lit, hc j hj]
    have e : (bs.map (Value.int .u8))[j]? = some (.int .u8 (bs.getD j 0)) := by simp [List.getD, show j < bs.length by omega]
    rw [e] at hv
    exact hv
theorem row_rd {ao : Option Addr} {n c : Nat} {bs : List Int} (h : w.ownsRow B 5 1 (.slice ao n c) n (bs.map (Value.int .u8))) (hr : ∀ i, 0 ≤ bs.getD i 0 ∧ bs.getD i 0 ≤ 255) : Rd w ao n c bs := by
  have hl : bs.length = n := by simpa using h.1
  refine ⟨hl, fun e => ?_, ?_, hr⟩
  · rcases h.2 with ⟨h1, h2⟩ | ⟨g, cap, cur, hv, _⟩
    · simp at h1; omega
    · subst e; simp at hv
  · by_cases h0 : n = 0
    · exact .inl h0
    · rcases h.2 with ⟨h1, h2⟩ | ⟨g, cap, cur, hv, hB, hg, hnc, hcm, hcs, htk⟩
      · omega
      · simp at hv
        refine .inr ⟨g, 0, hv.1, fun i hi => ?_⟩
        rw [Nat.zero_add, blk_cell hg i]
        have e1 : (cur.toList.take (n * 1))[i]? = (bs.map (Value.int .u8))[i]? := by rw [htk]
        rw [List.getElem?_take_of_lt (by omega)] at e1
        rw [← Array.getElem?_toList, e1]
        simp [List.getD, show i < bs.length by omega]
theorem Fx.byt.rd {f : Fx} (h : f.byt w B) : Rd w f.a f.n f.c f.bs := row_rd h.1 h.2
theorem cur_of_full {g n : Nat} {L : List Value} {cap' : Nat} (h : w.ownsRow B 5 1 (.slice (some ⟨g, 0, none⟩) n n) n L) : w.heap[g]? = some (.cells L.toArray 5 (0, 0)) := by
  rcases h.2 with ⟨h1, h2⟩ | ⟨g', cap, cur, hv, hB, hg, hnc, hcm, hcs, htk⟩
  · simp at h1
  · simp at hv
    obtain ⟨rfl, rfl⟩ := hv
    rw [List.take_of_length_le (by simp; omega)] at htk
    rw [hg, ← htk]
theorem full_of_cur {g : Nat} {bs : List Int} {n : Nat} (hn : bs.length = n) (hg : w.heap[g]? = some (.cells (bs.map (Value.int .u8)).toArray 5 (0, 0))) (hB : B ≤ g) (hm : n ≤ maxLen) : w.ownsRow B 5 1 (.slice (some ⟨g, 0, none⟩) n n) n (bs.map (Value.int .u8)) :=
  ⟨by simp [hn], .inr ⟨g, n, _, rfl, hB, hg, Nat.le_refl _, hm, by simp [hn], by rw [List.take_of_length_le (by simp [hn])]⟩⟩
set_option maxHeartbeats 1000000 in
theorem copyBytes_any (ao : Option Addr) (n c : Nat) (bs : List Int) (hr : Rd w ao n c bs) (hlen : n ≤ 140737488355328) : Calls Try.prog 55 #[.slice ao n c] w fun e w' => e = .returned (.slice (some ⟨w.heap.size, 0, none⟩) n n) ∧ w'.ownsRow w.heap.size 5 1 (.slice (some ⟨w.heap.size, 0, none⟩) n n) n (bs.map (Value.int .u8)) ∧ Below w.heap.size w w' := by
  obtain ⟨i0, hi, hz0, hz1, hz2⟩ := info_parts info_u8
  have hlb := hr.1
  have Hr : Hid (Rd w ao n c bs) := hr
  clear hr
  go_enter Try.func55, Try.ntmps55
  go_wp2_with (first
    | (at_make; refine wpList_make_full _ rfl _ _ 35 rfl w.heap.size 5 i0 (.int .u8 0) 1 Try.underlying35 hi hz0 hz1 .i64 .i64 _ _ n rfl rfl rfl rfl ?b2 ?b3 (Nat.le_refl _) ?_)
    | fail)
  case b2 => rw [hz2]; omega
  case b3 => unfold maxLen; omega
  intro w1 hown hgrow
  have hb1 : Hid (Below w.heap.size w w1) := (Below.refl _ w).grown hgrow (Nat.le_refl _) (fun k hk => by cases hk)
  obtain ⟨L, hown⟩ : ∃ L, w1.ownsRow w.heap.size 5 1 (.slice (some ⟨w.heap.size, 0, none⟩) n n) n L := ⟨_, hown⟩
  have hcur := cur_of_full (cap' := 0) hown
  have hLl : L.length = n := by simpa using hown.1
  have HR1 := Hr.out.still hb1.out
  clear hown hgrow Hr
  obtain ⟨X, hX⟩ : ∃ X, X = bs.map (Value.int .u8) := ⟨_, rfl⟩
  have hXl : X.length = n := by rw [hX]; simp [hlb]
  have Hsrc : Hid (0 < X.length → (some (⟨w.heap.size, 0, none⟩ : Addr)) = some ⟨w.heap.size, 0, none⟩ ∧ ∃ ad, ao = some ad ∧ ∀ j v, X[j]? = some v → w1.cell? (ad.add j) = some v) := by
    intro hp
    refine ⟨rfl, ?_⟩
    cases ao with
    | none => have := (HR1.2.1 rfl).1; omega
    | some ad => exact ⟨ad, rfl, by rw [hX]; exact HR1.cells ad rfl⟩
  have H1 : Hid (∀ v ∈ X, v.oneCell' = true) := by rw [hX]; exact bytes_one bs
  have HX : Hid (X = bs.map (Value.int .u8)) := hX
  clear HR1 hX
  go_wp2_with (first
    | (refine wpList_copy_splice rfl _ _ 35 35 rfl 5 Try.underlying35 size_u8 _ _ n n n c rfl rfl w.heap.size 0 L 5 hcur X (by rw [hXl]; exact (Nat.min_self n).symm) Hsrc.out (by omega) H1.out w.heap.size w hb1.out (Nat.le_refl _) ?_; intro w2 hg2 hb2)
    | fail)
  go_ret
  refine ⟨rfl, ?_, hb2⟩
  have hg2 := hg2.out
  have e : splice L 0 X = bs.map (Value.int .u8) := by
    rw [← HX.out]
    simp [splice]
    omega
  rw [e] at hg2
  exact full_of_cur hlb hg2 (Nat.le_refl _) (by unfold maxLen; omega)
end
end Go.Proofs.Ytnhhjelplmdloaa.Et
namespace Go.Proofs.Ytnhhjelplmdloaa.Et
open Go.RowKit Go.Maps
set_option linter.unusedVariables false
set_option linter.unusedSimpArgs false
set_option maxRecDepth 100000
section
variable {E E' : En} {w w' W : World} {B m : Nat}
theorem blk_set {t : TypeId} {k i : Nat} {cs cs' : Array Value} {v : Value} (h : w.heap[k]? = some (.cells cs t (0, 0))) (e : cs.setIfInBounds i v = cs') : (w.setCell ⟨k, i, none⟩ v).heap[k]? = some (.cells cs' t (0, 0)) := e ▸ heap_setCell_same w k i cs t v h
theorem blk_set_ne {t : TypeId} {k k' i : Nat} {cs : Array Value} {v : Value} (h : w.heap[k]? = some (.cells cs t (0, 0))) (e : k ≠ k') : (w.setCell ⟨k', i, none⟩ v).heap[k]? = some (.cells cs t (0, 0)) := (Below.heap_setCell w ⟨k', i, none⟩ v k e).trans h
theorem own_set {t s n : Nat} {v u : Value} {l : List Value} {k i : Nat} (h : w.ownsRow B t s v n l) (hk : v.ownBlock ≠ some k) : (w.setCell ⟨k, i, none⟩ u).ownsRow B t s v n l :=
  (kset (P := fun j => j = k) w k i u rfl).owns h (fun q hq e => hk (by rw [hq, e]))
theorem own_lower {B' t s n : Nat} {v : Value} {l : List Value} (h : w.ownsRow B t s v n l) (hB : B' ≤ B) : w.ownsRow B' t s v n l :=
  ⟨h.1, h.2.elim (fun hh => .inl hh) (fun ⟨g, cap, cur, e1, e2, e3⟩ => .inr ⟨g, cap, cur, e1, by omega, e3⟩)⟩
theorem fl_cells {t : TypeId} {k : Nat} {v0 v1 v2 v3 v4 : Value} (h : w.heap[k]? = some (.cells #[v0, v1, v2, v3, v4] t (0, 0))) : w.cell? ⟨k, 0, none⟩ = some v0 ∧ w.cell? ⟨k, 1, none⟩ = some v1 ∧ w.cell? ⟨k, 2, none⟩ = some v2 ∧ w.cell? ⟨k, 3, none⟩ = some v3 ∧ w.cell? ⟨k, 4, none⟩ = some v4 :=
  ⟨blk_cell h 0, blk_cell h 1, blk_cell h 2, blk_cell h 3, blk_cell h 4⟩
theorem fl_frz {t : TypeId} {k : Nat} {cs : Array Value} (h : w.heap[k]? = some (.cells cs t (0, 0))) : w.frozen? ⟨k, 0, none⟩ = false ∧ w.frozen? ⟨k, 1, none⟩ = false ∧ w.frozen? ⟨k, 2, none⟩ = false ∧ w.frozen? ⟨k, 3, none⟩ = false ∧ w.frozen? ⟨k, 4, none⟩ = false :=
  ⟨frozen_of_row w _ 0 _ _ h, frozen_of_row w _ 1 _ _ h, frozen_of_row w _ 2 _ _ h, frozen_of_row w _ 3 _ _ h, frozen_of_row w _ 4 _ _ h⟩
set_option maxHeartbeats 1000000 in
theorem copyFlight_any (id src dst due : Int) (ao : Option Addr) (n c : Nat) (bs : List Int) (hr : Rd w ao n c bs) (hlen : n ≤ 140737488355328) : Calls Try.prog 36 #[.agg #[.int .i64 id, .int .i64 src, .int .i64 dst, .int .i64 due, .slice ao n c]] w fun e w' => ∃ g, e = .returned (.agg #[.int .i64 id, .int .i64 src, .int .i64 dst, .int .i64 due, .slice (some ⟨g, 0, none⟩) n n]) ∧ w'.ownsRow w.heap.size 5 1 (.slice (some ⟨g, 0, none⟩) n n) n (bs.map (Value.int .u8)) ∧ Below w.heap.size w w' := by
  generalize hW : (w.alloc (.cells #[.int .i64 id, .int .i64 src, .int .i64 dst, .int .i64 due, .slice ao n c] 43)).alloc (.cells #[.int .i64 0, .int .i64 0, .int .i64 0, .int .i64 0, .slice none 0 0] 43) = W
  have hbW : Below w.heap.size w W := by rw [← hW]; exact balloc (balloc (Below.refl _ w))
  have hWs : W.heap.size = w.heap.size + 1 + 1 := by rw [← hW]; simp
  have hblk : W.heap[w.heap.size]? = some (.cells #[.int .i64 id, .int .i64 src, .int .i64 dst, .int .i64 due, .slice ao n c] 43 (0, 0)) := by rw [← hW]; exact blk_alloc (heap_alloc_new w _)
  have hblk2 : W.heap[w.heap.size + 1]? = some (.cells #[.int .i64 0, .int .i64 0, .int .i64 0, .int .i64 0, .slice none 0 0] 43 (0, 0)) := by
    rw [← hW]
    have := heap_alloc_new (w.alloc (.cells #[.int .i64 id, .int .i64 src, .int .i64 dst, .int .i64 due, .slice ao n c] 43)) (.cells #[.int .i64 0, .int .i64 0, .int .i64 0, .int .i64 0, .slice none 0 0] 43)
    simpa using this
  have HC := copyBytes_any (w := W) ao n c bs (hr.still hbW) hlen
  have d4 := blk_cell hblk 4
  simp at d4
  have Hb : Hid (Below w.heap.size w W) := hbW
  have HB : Hid (W.heap[w.heap.size]? = some (.cells #[.int .i64 id, .int .i64 src, .int .i64 dst, .int .i64 due, .slice ao n c] 43 (0, 0))) := hblk
  have HB2 : Hid (W.heap[w.heap.size + 1]? = some (.cells #[.int .i64 0, .int .i64 0, .int .i64 0, .int .i64 0, .slice none 0 0] 43 (0, 0))) := hblk2
  clear hr hbW hblk hblk2
  go_enter Try.func36, Try.ntmps36
  go_wp2_with (first | (go_at_call 55; refine HC.mono ?_; rintro e w1 ⟨rfl, ho, hb1⟩; have Ho : Hid (w1.ownsRow W.heap.size 5 1 (.slice (some ⟨W.heap.size, 0, none⟩) n n) n (bs.map (Value.int .u8))) := ho; have hB1 : Hid (w1.heap[w.heap.size]? = some (.cells #[.int .i64 id, .int .i64 src, .int .i64 dst, .int .i64 due, .slice ao n c] 43 (0, 0))) := (hb1.block _ (by omega)).trans HB.out; have hB2 : Hid (w1.heap[w.heap.size + 1]? = some (.cells #[.int .i64 0, .int .i64 0, .int .i64 0, .int .i64 0, .slice none 0 0] 43 (0, 0))) := (hb1.block _ (by omega)).trans HB2.out; obtain ⟨e0, e1, e2, e3, e4⟩ := fl_cells hB1.out; obtain ⟨g0, g1, g2, g3, g4⟩ := fl_frz hB1.out; obtain ⟨i0, i1, i2, i3, i4⟩ := fl_frz hB2.out; obtain ⟨z0, z1, z2, z3, z4⟩ := fl_cells hB2.out; have Hb1 : Hid (Below w.heap.size w w1) := bstep Hb.out hb1; clear ho hb1) | fail)
  have b1 := blk_set_ne (k' := w.heap.size) (i := 4) (v := .slice (some ⟨w.heap.size + 1 + 1, 0, none⟩) n n) hB2.out (by omega)
  have b2 := blk_set (i := 0) (v := .int .i64 id) b1 rfl
  have b3 := blk_set (i := 1) (v := .int .i64 src) b2 rfl
  have b4 := blk_set (i := 2) (v := .int .i64 dst) b3 rfl
  have b5 := blk_set (i := 3) (v := .int .i64 due) b4 rfl
  have b6 := blk_set (i := 4) (v := .slice (some ⟨w.heap.size + 1 + 1, 0, none⟩) n n) b5 rfl
  have hbF := bset (bset (bset (bset (bset (bset Hb1.out (Nat.le_refl w.heap.size) 4 (.slice (some ⟨w.heap.size + 1 + 1, 0, none⟩) n n)) (Nat.le_succ w.heap.size) 0 (.int .i64 id)) (Nat.le_succ w.heap.size) 1 (.int .i64 src)) (Nat.le_succ w.heap.size) 2 (.int .i64 dst)) (Nat.le_succ w.heap.size) 3 (.int .i64 due)) (Nat.le_succ w.heap.size) 4 (.slice (some ⟨w.heap.size + 1 + 1, 0, none⟩) n n)
  have ho1 := own_lower (B' := w.heap.size) Ho.out (by omega)
  rw [hWs] at ho1
  have hne : (Value.slice (some (⟨w.heap.size + 1 + 1, 0, none⟩ : Addr)) n n).ownBlock ≠ some w.heap.size := by simp [Value.ownBlock]; omega
  have hne2 : (Value.slice (some (⟨w.heap.size + 1 + 1, 0, none⟩ : Addr)) n n).ownBlock ≠ some (w.heap.size + 1) := by simp [Value.ownBlock]
  have hoF := own_set (i := 4) (u := .slice (some ⟨w.heap.size + 1 + 1, 0, none⟩) n n) (own_set (i := 3) (u := .int .i64 due) (own_set (i := 2) (u := .int .i64 dst) (own_set (i := 1) (u := .int .i64 src) (own_set (i := 0) (u := .int .i64 id) (own_set (i := 4) (u := .slice (some ⟨w.heap.size + 1 + 1, 0, none⟩) n n) ho1 hne) hne2) hne2) hne2) hne2) hne2
  clear b1 b2 b3 b4 b5 ho1
  revert b6 hbF hoF
  generalize (World.setCell _ _ _) = WF
  intro b6 hbF hoF
  obtain ⟨q0, q1, q2, q3, q4⟩ := fl_cells b6
  exact bodyPost_ret (v := .agg #[.int .i64 id, .int .i64 src, .int .i64 dst, .int .i64 due, .slice (some ⟨w.heap.size + 1 + 1, 0, none⟩) n n]) (by simp [results, Try.results36, go_sem, q0, q1, q2, q3, q4]) rfl ⟨_, rfl, hoF, hbF⟩
end
end Go.Proofs.Ytnhhjelplmdloaa.Et
namespace Go.Proofs.Ytnhhjelplmdloaa.Et
open Go.RowKit Go.Maps
set_option linter.unusedVariables false
set_option linter.unusedSimpArgs false
set_option maxRecDepth 100000
section
variable {E E' : En} {w w' W : World} {B m : Nat}
theorem below_drewN {B : Nat} {a w : World} (h : Below B a w) (n : Nat) : Below B a (w.drewN n) := ⟨h.os, h.tape, h.output, h.size, h.block⟩
theorem far_cells {w2 w3 : World} (h : E.Ok W B m) (hb2 : Below W.heap.size W w2) (hgrow : w2.grownBy w3 (Value.slice E.va E.fs.length E.vc).ownBlock) :
    w3.cell? ⟨E.b, 6, none⟩ = some (.slice E.va E.fs.length E.vc) ∧ w3.frozen? ⟨E.b, 6, none⟩ = false ∧ ∀ k i v, E.b < k → (∀ j, E.own j → j < k) → W.cell? ⟨k, i, none⟩ = some v → w3.cell? ⟨k, i, none⟩ = some v := by
  have k3 : Kept W w3 (fun j => (Value.slice E.va E.fs.length E.vc).ownBlock = some j) := (Kept.ofBelow hb2 _).trans ((Kept.ofGrown hgrow).mono (fun j _ e => e.symm))
  have hblk3 : w3.heap[E.b]? = some (.cells E.cs 76 (0, 0)) := k3.obj h.blk (fun e => (h.row_ne e).1 rfl)
  refine ⟨(blk_cell hblk3 6).trans rfl, frozen_of_row w3 _ 6 _ _ hblk3, fun k i v _ hk hc => ?_⟩
  exact (World.cell?_of_block (w := W) (k3.block k (World.block_lt_of_cell? W _ hc) (fun e => by have := hk k (.inr (.inr (.inr (.inr (.inl e))))); omega))).trans hc
theorem Step.push {w2 w3 : World} (h : E.Ok W B m) (hB : B ≤ W.heap.size) (hb2 : Below W.heap.size W w2) (f : Fx) (hf : w2.ownsRow W.heap.size 5 1 f.v f.n (f.bs.map (Value.int .u8))) (hr : ∀ i, 0 ≤ f.bs.getD i 0 ∧ f.bs.getD i 0 ≤ 255)
    (hp : ∃ p q : Nat, f.src = p ∧ f.dst = q ∧ p < E.nn ∧ q < E.nn ∧ p ≠ q) (g cap : Nat) (hown : w3.ownsRow B 43 5 (.slice (some ⟨g, 0, none⟩) (E.fs.length + 1) cap) (E.fs.length + 1) (flCells E.fs ++ f.cs.toList))
    (hgrow : w2.grownBy w3 (Value.slice E.va E.fs.length E.vc).ownBlock) (hat : (Value.slice E.va E.fs.length E.vc).ownBlock = some g ∨ g = w2.heap.size) :
    Step W (w3.setCell ⟨E.b, 6, none⟩ (.slice (some ⟨g, 0, none⟩) (E.fs.length + 1) cap)) E { E with va := some ⟨g, 0, none⟩, vc := cap, fs := E.fs ++ [f] } B m := by
  have k3 : Kept W w3 (fun j => (Value.slice E.va E.fs.length E.vc).ownBlock = some j) := (Kept.ofBelow hb2 _).trans ((Kept.ofGrown hgrow).mono (fun j _ e => e.symm))
  have hblk3 : w3.heap[E.b]? = some (.cells E.cs 76 (0, 0)) := k3.obj h.blk (fun e => (h.row_ne e).1 rfl)
  have hgb : (Value.slice (some (⟨g, 0, none⟩ : Addr)) (E.fs.length + 1) cap).ownBlock ≠ some E.b := by
    intro e
    obtain ⟨cur, hc⟩ := row_ty hown e
    rw [hblk3] at hc
    simp at hc
  have ks : Kept w3 (w3.setCell ⟨E.b, 6, none⟩ (.slice (some ⟨g, 0, none⟩) (E.fs.length + 1) cap)) (fun j => j = E.b) := kset w3 E.b 6 _ rfl
  have k4 : Kept W (w3.setCell ⟨E.b, 6, none⟩ (.slice (some ⟨g, 0, none⟩) (E.fs.length + 1) cap)) (fun j => (Value.slice E.va E.fs.length E.vc).ownBlock = some j ∨ j = E.b) := (k3.mono (fun _ _ e => .inl e)).trans (ks.mono (fun _ _ e => .inr e))
  have hfb : ∀ j, f.v.ownBlock = some j → W.heap.size ≤ j := fun j hj => (World.ownsRow.lt hf j hj).1
  have kf : Kept w2 (w3.setCell ⟨E.b, 6, none⟩ (.slice (some ⟨g, 0, none⟩) (E.fs.length + 1) cap)) (fun j => (Value.slice E.va E.fs.length E.vc).ownBlock = some j ∨ j = E.b) :=
    (((Kept.ofGrown hgrow).mono (fun j _ e => e.symm)).mono (fun _ _ e => .inl e)).trans (ks.mono (fun _ _ e => .inr e))
  have hrow_lt : ∀ j, (Value.slice E.va E.fs.length E.vc).ownBlock = some j → j < W.heap.size := fun j hj => (World.ownsRow.lt h.fls.row j hj).2
  have hb_lt : E.b < W.heap.size := lt_heap h.blk
  refine ⟨⟨?_, ?_, ?_, ?_, ⟨?_, ?_, ?_⟩, h.ge, h.ne, h.n16, ?_, h.dly⟩, ?_, ?_⟩
  · have := blk_set (i := 6) (v := .slice (some ⟨g, 0, none⟩) (E.fs.length + 1) cap) hblk3 rfl
    rw [this]
    simp [En.cs]
  · exact h.nod.keep k4 (fun e => e.elim (fun e => (h.row_ne e).2.1 rfl) (fun e => h.b_bn e.symm))
  · exact h.cut.keep k4 (fun e => e.elim (fun e => (h.row_ne e).2.2.1 rfl) (fun e => h.b_bc e.symm))
  · exact h.del.keep k4 (fun e => e.elim (fun e => (h.row_ne e).2.2.2 rfl) (fun e => h.b_bd e.symm))
  · have := own_set (k := E.b) (i := 6) (u := .slice (some ⟨g, 0, none⟩) (E.fs.length + 1) cap) hown hgb
    simp only [List.length_append, List.length_cons, List.length_nil]
    rw [flCells_app]
    simpa [flCells] using this
  · intro x hx
    rcases List.mem_append.1 hx with hx | hx
    · exact (h.fls.byt x hx).keep k4 (fun j hj e => e.elim (fun e => (h.byt_ne hx hj).2.2.2.2 e) (fun e => (h.byt_ne hx hj).1 e))
    · obtain rfl := List.mem_singleton.1 hx
      exact ⟨own_lower (kf.owns hf (fun j hj e => by have := hfb j hj; rcases e with e | e; (have := hrow_lt j e; omega); (omega))) hB, hr⟩
  · refine List.pairwise_append.2 ⟨h.fls.apt, List.pairwise_singleton _ _, ?_⟩
    intro x hx y hy k hk e
    obtain rfl := List.mem_singleton.1 hy
    have h1 := (World.ownsRow.lt (h.fls.byt x hx).1 k hk).2
    have h2 := hfb k e
    omega
  · intro x hx
    rcases List.mem_append.1 hx with hx | hx
    · exact h.pth x hx
    · obtain rfl := List.mem_singleton.1 hx
      exact hp
  · exact k4.mono (fun j _ e => e.elim (fun e => .inr (.inr (.inr (.inr (.inl e))))) (fun e => .inl e))
  · intro j hj
    rcases hj with e | e | e | e | e | ⟨x, hx, e⟩
    · exact .inl (.inl e)
    · exact .inl (.inr (.inl e))
    · exact .inl (.inr (.inr (.inl e)))
    · exact .inl (.inr (.inr (.inr (.inl e))))
    · simp [Value.ownBlock] at e
      rcases hat with h1 | h1
      · exact .inl (.inr (.inr (.inr (.inr (.inl (by rw [h1, e]))))))
      · right; have := hb2.size; omega
    · rcases List.mem_append.1 hx with hx | hx
      · exact .inl (.inr (.inr (.inr (.inr (.inr ⟨x, hx, e⟩)))))
      · obtain rfl := List.mem_singleton.1 hx
        exact .inr (hfb j e)
set_option maxHeartbeats 1000000 in
theorem join_no (h : E.Ok w B m) (f : Fx) (hl : E.room ≤ E.fs.length) : Calls Try.prog 47 #[.pointer (some ⟨E.b, 0, none⟩), .agg f.cs] w fun e w' => e = .returned (.tuple #[.int .i64 0, .int .i64 31]) ∧ Below w.heap.size w w' := by
  unfold Fx.cs
  generalize hW : w.alloc (.cells #[.int .i64 f.id, .int .i64 f.src, .int .i64 f.dst, .int .i64 f.due, .slice f.a f.n f.c] 43) = W
  have b0 : Below w.heap.size w W := by rw [← hW]; exact balloc (Below.refl _ w)
  have h1 := h.still b0
  have c6 := h1.c6
  have c4 := h1.c4
  have Hb : Hid (Below w.heap.size w W) := b0
  clear h h1 b0
  go_enter Try.func47, Try.ntmps47
  go_wp2
  go_quiet (fail)
  go_wp2
  go_ret2
  exact ⟨rfl, below_drewN Hb.out _⟩
end
end Go.Proofs.Ytnhhjelplmdloaa.Et
namespace Go.Proofs.Ytnhhjelplmdloaa.Et
open Go.RowKit Go.Maps
set_option linter.unusedVariables false
set_option linter.unusedSimpArgs false
set_option maxRecDepth 100000
section
variable {E E' : En} {w w' W : World} {B m : Nat}
theorem info_fl : (Try.prog.info? 43).map (fun i => (i.zero, i.size, i.bytes)) = some (some (.agg #[.int .i64 0, .int .i64 0, .int .i64 0, .int .i64 0, .slice none 0 0]), 5, 56) := by kernel_rfl
theorem own_still {W W' : World} {B e s n : Nat} {v : Value} {l : List Value} (h : W.ownsRow B e s v n l) (hb : Below W.heap.size W W') : W'.ownsRow B e s v n l := (Kept.ofBelow hb (fun _ => False)).owns h (fun _ _ => id)
theorem En.Ok.not_u8 (h : E.Ok w B m) (i : Nat) (x : Int) : w.cell? ⟨E.b, i, none⟩ ≠ some (.int .u8 x) := by
  rw [blk_cell h.blk i]
  unfold En.cs
  rcases i with _ | _ | _ | _ | _ | _ | _ | i <;> simp
def wN (E : En) : Int := wrap64 (E.last + 1)
set_option maxHeartbeats 4000000 in
theorem join_ok (h : E.Ok w B m) (hB : B ≤ w.heap.size) (f : Fx) (hr : Rd w f.a f.n f.c f.bs) (hlen : f.n ≤ 140737488355328) (hp : ∃ p q : Nat, f.src = p ∧ f.dst = q ∧ p < E.nn ∧ q < E.nn ∧ p ≠ q) (hl : E.fs.length < E.room) (hR : E.room ≤ 20000) : Calls Try.prog 47 #[.pointer (some ⟨E.b, 0, none⟩), .agg f.cs] w fun e w' => e = .returned (.tuple #[.int .i64 (wN E), .int .i64 0]) ∧ ∃ g a c, Step w w' E { E with last := wN E, va := a, vc := c, fs := E.fs ++ [⟨wN E, f.src, f.dst, f.due, some ⟨g, 0, none⟩, f.n, f.n, f.bs⟩] } B m := by
  unfold Fx.cs
  generalize hL : wN E = L
  obtain ⟨i0, hi, hz0, hz1, hz2⟩ := info_parts info_fl
  generalize hW : w.alloc (.cells #[.int .i64 f.id, .int .i64 f.src, .int .i64 f.dst, .int .i64 f.due, .slice f.a f.n f.c] 43) = W
  have b0 : Below w.heap.size w W := by rw [← hW]; exact balloc (Below.refl _ w)
  have h1 := h.still b0
  have hr1 := hr.still b0
  have c6 := h1.c6
  have c4 := h1.c4
  have c5 := h1.c5
  have z5 := h1.fz 5
  have hblk : W.heap[w.heap.size]? = some (.cells #[.int .i64 f.id, .int .i64 f.src, .int .i64 f.dst, .int .i64 f.due, .slice f.a f.n f.c] 43 (0, 0)) := by rw [← hW]; exact heap_alloc_new w _
  have hbw : E.b < w.heap.size := lt_heap h.blk
  have hoo : ∀ j, E.own j → j < w.heap.size := fun j hj => h.ltOwn hj
  obtain ⟨y0, y1, y2, y3, y4⟩ := fl_frz hblk
  obtain ⟨e0, e1, e2, e3, e4⟩ := fl_cells hblk
  have hV : ∀ n, ∃ V, V = ((W.drewN n).setCell ⟨E.b, 5, none⟩ (.int .i64 (L))).setCell ⟨w.heap.size, 0, none⟩ (.int .i64 (L)) ∧ Step w V E { E with last := L } B m ∧ V.heap[w.heap.size]? = some (.cells #[.int .i64 (L), .int .i64 f.src, .int .i64 f.dst, .int .i64 f.due, .slice f.a f.n f.c] 43 (0, 0)) ∧ Rd V f.a f.n f.c f.bs ∧ w.heap.size < V.heap.size := by
    intro n
    have hbn := below_drewN b0 n
    have h2 := h.still hbn
    have s1 : Step (W.drewN n) ((W.drewN n).setCell ⟨E.b, 5, none⟩ (.int .i64 (L))) E { E with last := L } B m := ⟨h2.setB 5 _ rfl rfl, kset _ _ _ _ (.inl rfl), fun j hj => .inl hj⟩
    have s2 := Step.pre hbn s1
    have k1 : Kept w (((W.drewN n).setCell ⟨E.b, 5, none⟩ (.int .i64 (L))).setCell ⟨w.heap.size, 0, none⟩ (.int .i64 (L))) (fun j => j = E.b) := by
      have ka : Kept w ((W.drewN n).setCell ⟨E.b, 5, none⟩ (.int .i64 (L))) (fun j => j = E.b) := (Kept.ofBelow hbn _).trans (kset _ _ _ _ rfl)
      exact ka.step (kset (P := fun j => j = w.heap.size) _ _ 0 _ rfl) (fun j hj => .inr (by omega))
    refine ⟨_, rfl, ⟨?_, ?_, s2.own⟩, ?_, ?_, ?_⟩
    · exact s2.ok.keep (kset (P := fun j => j = w.heap.size) _ _ 0 _ rfl) (fun j hj e => by
        have : E.own j := hj
        have := h.ltOwn this
        omega)
    · exact k1.mono (fun j _ e => .inl e)
    · exact blk_set (blk_set_ne (w := W.drewN n) hblk (by omega)) rfl
    · obtain ⟨r1, r2, r3, r4⟩ := hr
      refine ⟨r1, r2, r3.elim (fun hh => .inl hh) (fun hh => .inr ?_), r4⟩
      obtain ⟨b, off, ha, hc⟩ := hh
      refine ⟨b, off, ha, fun i hi => ?_⟩
      have hlt := World.block_lt_of_cell? w _ (hc i hi)
      have hne : b ≠ E.b := fun e => by
        subst e
        exact h.not_u8 _ _ (hc i hi)
      exact (World.cell?_of_block (w := w) (k1.block b hlt hne)).trans (hc i hi)
    · have := lt_heap hblk
      simpa using this
  have HV : Hid (∀ n, ∃ V, V = ((W.drewN n).setCell ⟨E.b, 5, none⟩ (.int .i64 (L))).setCell ⟨w.heap.size, 0, none⟩ (.int .i64 (L)) ∧ Step w V E { E with last := L } B m ∧ V.heap[w.heap.size]? = some (.cells #[.int .i64 (L), .int .i64 f.src, .int .i64 f.dst, .int .i64 f.due, .slice f.a f.n f.c] 43 (0, 0)) ∧ Rd V f.a f.n f.c f.bs ∧ w.heap.size < V.heap.size) := hV
  have hrr := hr.2.2.2
  clear h h1 b0 hblk hV hr hr1
  go_enter Try.func47, Try.ntmps47
  go_wp2
  go_quiet (fail)
  go_wp2
  obtain ⟨V, hVe, sV, vblk, vrd, vlt⟩ := HV.out nq
  have hwN : wrap64 (E.last + 1) = L := hL
  rw [hwN, ← hVe]
  have hE1 := sV.ok
  have v6 : V.cell? ⟨E.b, 6, none⟩ = some (.slice E.va E.fs.length E.vc) := hE1.c6
  obtain ⟨u0, u1, u2, u3, u4⟩ := fl_cells vblk
  have vz : V.frozen? ⟨E.b, 6, none⟩ = false := hE1.fz 6
  have vsz : w.heap.size ≤ V.heap.size := Nat.le_of_lt vlt
  clear hVe HV c6 c4 c5 z5 y0 y1 y2 y3 y4 e0 e1 e2 e3 e4 hW
  have HC : Hid (∀ w', Below V.heap.size V w' → Calls Try.prog 36 #[.agg #[.int .i64 L, .int .i64 f.src, .int .i64 f.dst, .int .i64 f.due, .slice f.a f.n f.c]] w' fun e w2 => ∃ g, e = .returned (.agg #[.int .i64 L, .int .i64 f.src, .int .i64 f.dst, .int .i64 f.due, .slice (some ⟨g, 0, none⟩) f.n f.n]) ∧ w2.ownsRow V.heap.size 5 1 (.slice (some ⟨g, 0, none⟩) f.n f.n) f.n (f.bs.map (Value.int .u8)) ∧ Below V.heap.size V w2) := fun w' hb => (copyFlight_any L f.src f.dst f.due f.a f.n f.c f.bs (vrd.still hb) hlen).mono fun e w2 ⟨g, x1, x2, x3⟩ => ⟨g, x1, own_lower x2 hb.size, bstep hb x3⟩
  have HO : Hid (∀ j, E.own j → j < w.heap.size) := hoo
  have HE : Hid (En.Ok { E with last := L } V B m) := hE1
  have HS : Hid (Step w V E { E with last := L } B m) := sV
  clear hE1 sV vrd hoo
  have hrow := HE.out.fls.row
  have hvl : E.fs.length ≤ 20000 := by omega
  go_region_law (first
    | (refine step_append_lies _ (by rfl) _ _ 39 (by rfl) B 43 i0 (.agg #[.int .i64 0, .int .i64 0, .int .i64 0, .int .i64 0, .slice none 0 0]) 5 56 Try.underlying39 hi hz0 hz1 hz2 (by rfl) (by omega) (.slice E.va E.fs.length E.vc) E.fs.length (flCells E.fs) (by rfl) (own_still hrow (by repeat (first | exact Below.refl _ _ | assumption | apply Below.drew | apply balloc))) _ 1 1 _ (by rfl) (by rfl) (World.news_of_block (heap_alloc_new _ _)) (by simp [Value.oneCell']) (by omega) (by unfold maxLen; omega) (by omega) (by first | (simp; omega) | omega) _ (by rfl) ?_; intro g3 cap3 w3 hown3 hgrow3 hat3 hlt3; obtain ⟨t6, tz, tk⟩ := far_cells (E := { E with last := L }) HE.out (by repeat (first | exact Below.refl _ _ | assumption | apply Below.drew | apply balloc)) hgrow3; have t0 := tk w.heap.size 0 _ hbw HO.out u0; have P3 : Hid (Step V (w3.setCell ⟨E.b, 6, none⟩ (.slice (some ⟨g3, 0, none⟩) (E.fs.length + 1) cap3)) { E with last := L } { E with last := L, va := some ⟨g3, 0, none⟩, vc := cap3, fs := E.fs ++ [⟨L, f.src, f.dst, f.due, some ⟨g, 0, none⟩, f.n, f.n, f.bs⟩] } B m) := (Step.push (E := { E with last := L }) HE.out (by omega) (by repeat (first | exact Below.refl _ _ | assumption | apply Below.drew | apply balloc)) ⟨L, f.src, f.dst, f.due, some ⟨g, 0, none⟩, f.n, f.n, f.bs⟩ (own_still ho (by repeat (first | exact Below.refl _ _ | assumption | apply Below.drew | apply balloc))) hrr hp g3 cap3 hown3 hgrow3 hat3); clear hown3 hgrow3 hat3 tk)
    | (go_simp; go_at_call 36; refine (HC.out _ (by repeat (first | exact Below.refl _ _ | assumption | apply Below.drew | apply balloc))).mono ?_; rintro e w1 ⟨g, rfl, ho, hb1⟩; have hszv := hb1.size; have t16 : w1.cell? ⟨E.b, 6, none⟩ = some (.slice E.va E.fs.length E.vc) := ((hb1.cell (show E.b < V.heap.size by omega)).trans v6); have t17 : (∀ o, (w1.alloc o).cell? ⟨E.b, 6, none⟩ = some (.slice E.va E.fs.length E.vc)) := (fun o => (((Below.refl w1.heap.size w1).alloc (Nat.le_refl _) o).cell (World.block_lt_of_cell? w1 _ t16)).trans t16)))
  all_goals (go_wp2; go_ret2; exact ⟨rfl, g, _, _, HS.out.trans P3.out⟩)
end
end Go.Proofs.Ytnhhjelplmdloaa.Et
