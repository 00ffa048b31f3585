import Derived.Test.YtfbollifegngjaaXn
import Derived.Test.YtfbollifegngjaaVo
import Derived.Deep.DeepCutAuto
namespace Go.Proofs.Ytfbollifegngjaa.Dt
open Go.RowKit
set_option linter.unusedVariables false
set_option maxRecDepth 100000
set_option linter.unusedSimpArgs false
structure Bx where
  g : Nat
  b : Bt
def Bx.cs (x : Bx) : List Value := [.int .i64 x.b.t, .slice (some ⟨x.g, 0, none⟩) 2 2]
def bc (l : List Bx) : List Value := l.flatMap Bx.cs
def bx0 : Bx := ⟨0, ⟨0, []⟩⟩
theorem bcs_len (x : Bx) : x.cs.length = 2 := rfl
theorem bc_len : ∀ l : List Bx, (bc l).length = l.length * 2
  | [] => rfl
  | x :: l => by
    have := bc_len l
    unfold bc at this ⊢
    rw [List.flatMap_cons, List.length_append, bcs_len, this, List.length_cons]; omega
theorem bc_at : ∀ (l : List Bx) (j t : Nat), j < l.length → t < 2 → (bc l)[j * 2 + t]? = (l.getD j bx0).cs[t]?
  | [], j, t, hj, _ => by simp at hj
  | x :: l, 0, t, _, ht => by
    unfold bc
    rw [List.flatMap_cons, List.getElem?_append_left (by rw [bcs_len]; omega)]
    simp [List.getD]
  | x :: l, j + 1, t, hj, ht => by
    have := bc_at l j t (by simpa using hj) ht
    unfold bc at this ⊢
    rw [List.flatMap_cons, List.getElem?_append_right (by rw [bcs_len]; omega), bcs_len, show (j + 1) * 2 + t - 2 = j * 2 + t by omega, this]
    simp [List.getD]
theorem bc_one (l : List Bx) : ∀ u ∈ bc l, u.oneCell' = true := by
  intro u hu
  unfold bc at hu
  rw [List.mem_flatMap] at hu
  obtain ⟨h, _, hh⟩ := hu
  simp [Bx.cs] at hh
  rcases hh with rfl | rfl <;> rfl
theorem bc_app (l m : List Bx) : bc (l ++ m) = bc l ++ bc m := by simp [bc]
theorem info_bt : (Try.prog.info? 38).map (fun i => (i.zero, i.size, i.bytes)) = some (some (.agg #[.int .i64 0, .slice none 0 0]), 2, 32) := by kernel_rfl
section
variable {D D' : De} {w w' W V w0 wr : World} {B m k pt ps : Nat} {b : Nat → Nat} {A : Nat → De} {T : Nat → List Bx} {S : Nat → Bool} {v : Nat → Value}
theorem own_type {t s n : Nat} {v : Value} {l : List Value} {g : Nat} (h : w.ownsRow B t s v n l) (hg : v.ownBlock = some g) : ∃ cur, w.heap[g]? = some (.cells cur t (0, 0)) := by
  rcases h.2 with ⟨h1, h2⟩ | ⟨g', cap, cur, hv, hB, hh, _⟩
  · rw [h1] at hg; cases hg
  · rw [hv] at hg
    simp only [Value.ownBlock, Option.some.injEq] at hg
    exact ⟨cur, hg ▸ hh⟩
structure Ms (w0 wr : World) (B k pt ps : Nat) (b : Nat → Nat) (A : Nat → De) (T : Nat → List Bx) (S : Nat → Bool) (v : Nat → Value) : Prop where
  ok : ∀ i, i < 2 → (A i).Ok wr B k
  bb : ∀ i, i < 2 → (A i).b = b i
  lt : ∀ i, i < 2 → ∀ g, (A i).own g → g + 1 < pt
  ap : ∀ g, (A 0).own g → ¬ (A 1).own g
  tl : wr.heap[pt]? = some (.cells #[v 0, v 1] 40 (0, 0))
  sd : wr.heap[ps]? = some (.cells #[.bool (S 0), .bool (S 1)] 4 (0, 0))
  hp : B ≤ pt ∧ pt < ps ∧ ps < w0.heap.size
  row : ∀ i, i < 2 → wr.ownsRow w0.heap.size 38 2 (v i) (T i).length (bc (T i))
  vap : ∀ g, (v 0).ownBlock = some g → (v 1).ownBlock ≠ some g
  el : ∀ i, i < 2 → ∀ x ∈ T i, x.b.xs.length = 2 ∧ BlkI wr x.g x.b.xs ∧ w0.heap.size ≤ x.g
  len : ∀ i, i < 2 → (T i).length ≤ k
  kept : Kept w0 wr (fun g => g = pt ∨ g = ps ∨ (A 0).own g ∨ (A 1).own g)
theorem two_cases {i : Nat} (h : i < 2) : i = 0 ∨ i = 1 := by omega
theorem Ms.still (h : Ms w0 wr B k pt ps b A T S v) (hb : Below wr.heap.size wr w') : Ms w0 w' B k pt ps b A T S v :=
  ⟨fun i hi => (h.ok i hi).still hb, h.bb, h.lt, h.ap, (hb.block _ (lt_heap h.tl)).trans h.tl, (hb.block _ (lt_heap h.sd)).trans h.sd, h.hp, fun i hi => own_still (h.row i hi) hb, h.vap, fun i hi x hx => ⟨(h.el i hi x hx).1, (h.el i hi x hx).2.1.still hb, (h.el i hi x hx).2.2⟩, h.len, h.kept.trans (Kept.ofBelow hb _)⟩
theorem Ms.up (h : Ms w0 wr B k pt ps b A T S v) (hk : k + 1 ≤ 1000) : Ms w0 wr B (k + 1) pt ps b A T S v :=
  ⟨fun i hi => (h.ok i hi).mono (Nat.le_succ _) (by omega), h.bb, h.lt, h.ap, h.tl, h.sd, h.hp, h.row, h.vap, h.el, fun i hi => Nat.le_succ_of_le (h.len i hi), h.kept⟩
theorem Ms.dt (h : Ms w0 wr B k pt ps b A T S v) {me k' : Nat} (hm : me < 2) (t : Dtep wr w' (A me) D' B k') (hk : k ≤ k') (hk2 : k' ≤ 1000) (hb : D'.b = (A me).b) : Ms w0 w' B k' pt ps b (upd A me D') T S v := by
  have hown : ∀ i, i < 2 → ∀ g, (upd A me D' i).own g ↔ (A i).own g := fun i hi g => by
    by_cases e : i = me
    · subst e; rw [upd_same]; exact t.own g
    · rw [upd_ne _ _ e]
  have hno : ∀ g, pt ≤ g → ¬ (A me).own g := fun g hg e => by have := h.lt me hm g e; omega
  have hp := h.hp
  refine ⟨fun i hi => ?_, fun i hi => ?_, fun i hi g hg => h.lt i hi g ((hown i hi g).1 hg), fun g h0 h1 => h.ap g ((hown 0 (by omega) g).1 h0) ((hown 1 (by omega) g).1 h1), t.kept.obj h.tl (hno _ (Nat.le_refl _)), t.kept.obj h.sd (hno _ (by omega)), h.hp, fun i hi => t.kept.owns (h.row i hi) (fun g hg => hno g (by have := (World.ownsRow.lt (h.row i hi) g hg).1; omega)), h.vap, fun i hi x hx => ⟨(h.el i hi x hx).1, t.kept.obj (h.el i hi x hx).2.1 (hno _ (by have := (h.el i hi x hx).2.2; omega)), (h.el i hi x hx).2.2⟩, fun i hi => Nat.le_trans (h.len i hi) hk, ?_⟩
  · by_cases e : i = me
    · subst e; rw [upd_same]; exact t.ok
    · rw [upd_ne _ _ e]
      refine ((h.ok i hi).mono hk (by omega)).keep t.kept (fun g hg hg2 => ?_)
      rcases two_cases hi with rfl | rfl <;> rcases two_cases hm with rfl | rfl
      · exact e rfl
      · exact h.ap g hg hg2
      · exact h.ap g hg2 hg
      · exact e rfl
  · by_cases e : i = me
    · subst e; rw [upd_same, hb]; exact h.bb i hi
    · rw [upd_ne _ _ e]; exact h.bb i hi
  · have k1 := h.kept.step t.kept (fun j hj => .inl ((two_cases hm).elim (fun e => .inr (.inr (.inl (e ▸ hj)))) (fun e => .inr (.inr (.inr (e ▸ hj))))))
    refine k1.mono (fun g _ hg => ?_)
    rcases hg with e | e | e | e
    · exact .inl e
    · exact .inr (.inl e)
    · exact .inr (.inr (.inl ((hown 0 (by omega) g).2 e)))
    · exact .inr (.inr (.inr ((hown 1 (by omega) g).2 e)))
theorem Ms.at0 (h : Ms w0 wr B k pt ps b A T S v) {g : Nat} {o : Obj} (ho : w0.heap[g]? = some o) (hg : g < B ∨ g + 1 = pt ∨ ps < g) : wr.heap[g]? = some o := by
  have hp := h.hp
  refine h.kept.obj ho (fun e => ?_)
  rcases e with e | e | e | e
  · omega
  · omega
  · have := h.lt 0 (by omega) g e
    have := (h.ok 0 (by omega)).geOwn e
    omega
  · have := h.lt 1 (by omega) g e
    have := (h.ok 1 (by omega)).geOwn e
    omega
theorem Ms.low (h : Ms w0 wr B k pt ps b A T S v) : Below B w0 wr := by
  have hp := h.hp
  refine h.kept.below (by omega) (fun g hg e => ?_)
  rcases e with e | e | e | e
  · omega
  · omega
  · have := (h.ok 0 (by omega)).geOwn e
    omega
  · have := (h.ok 1 (by omega)).geOwn e
    omega
theorem Ms.cellT (h : Ms w0 wr B k pt ps b A T S v) {i : Nat} (hi : i < 2) : wr.cell? ⟨pt, i, none⟩ = some (v i) := by
  rw [blk_cell h.tl]
  rcases two_cases hi with rfl | rfl <;> rfl
theorem Ms.cellS (h : Ms w0 wr B k pt ps b A T S v) {i : Nat} (hi : i < 2) : wr.cell? ⟨ps, i, none⟩ = some (.bool (S i)) := by
  rw [blk_cell h.sd]
  rcases two_cases hi with rfl | rfl <;> rfl
theorem Ms.fzT (h : Ms w0 wr B k pt ps b A T S v) (i : Nat) : wr.frozen? ⟨pt, i, none⟩ = false := frozen_of_row wr _ i _ _ h.tl
theorem Ms.fzS (h : Ms w0 wr B k pt ps b A T S v) (i : Nat) : wr.frozen? ⟨ps, i, none⟩ = false := frozen_of_row wr _ i _ _ h.sd
theorem own_slice' {v : Value} {t e n : Nat} {xs : List Value} (h : w.ownsRow B t e v n xs) : ∃ a c, v = .slice a n c := by
  rcases h.2 with ⟨h1, h2⟩ | ⟨g, cap, cur, hv, _⟩
  · exact ⟨none, 0, by rw [h1, h2]⟩
  · exact ⟨_, _, hv⟩
theorem Ms.slice (h : Ms w0 wr B k pt ps b A T S v) {i : Nat} (hi : i < 2) : ∃ a c, v i = .slice a (T i).length c := own_slice' (h.row i hi)
theorem Ms.read (h : Ms w0 wr B k pt ps b A T S v) {i j : Nat} (hi : i < 2) (hj : j < (T i).length) : ∃ g c, v i = .slice (some ⟨g, 0, none⟩) (T i).length c ∧ wr.cell? ⟨g, j * 2, none⟩ = some (.int .i64 ((T i).getD j bx0).b.t) ∧ wr.cell? ⟨g, j * 2 + 1, none⟩ = some (.slice (some ⟨((T i).getD j bx0).g, 0, none⟩) 2 2) := by
  rcases (h.row i hi).2 with ⟨h1, h2⟩ | ⟨g, cap, cur, hv, hB, hg, hnc, hcm, hcs, htk⟩
  · omega
  · have key : ∀ t, t < 2 → wr.cell? ⟨g, j * 2 + t, none⟩ = ((T i).getD j bx0).cs[t]? := fun t ht => by
      rw [blk_cell hg, ← bc_at (T i) j t hj ht, ← htk, List.getElem?_take_of_lt (by omega), ← Array.getElem?_toList]
    exact ⟨g, cap, hv, key 0 (by omega), key 1 (by omega)⟩
theorem Ms.say (h : Ms w0 wr B k pt ps b A T S v) {me : Nat} (hm : me < 2) (c : Bool) : Ms w0 (wr.setCell ⟨ps, me, none⟩ (.bool c)) B k pt ps b A T (upd S me c) v := by
  have hp := h.hp
  have kk : Kept wr (wr.setCell ⟨ps, me, none⟩ (.bool c)) (fun g => g = ps) := kset _ _ _ _ rfl
  refine ⟨fun i hi => (h.ok i hi).keep kk (fun g hg e => by have := h.lt i hi g hg; omega), h.bb, h.lt, h.ap, kk.obj h.tl (by omega), ?_, h.hp, fun i hi => kk.owns (h.row i hi) (fun g hg => by have := (World.ownsRow.lt (h.row i hi) g hg).1; omega), h.vap, fun i hi x hx => ⟨(h.el i hi x hx).1, kk.obj (h.el i hi x hx).2.1 (by have := (h.el i hi x hx).2.2; omega), (h.el i hi x hx).2.2⟩, h.len, h.kept.step kk (fun j hj => .inl (.inr (.inl hj)))⟩
  refine blk_set h.sd ?_
  rcases two_cases hm with rfl | rfl <;> rfl
theorem Ms.push (h : Ms w0 wr B k pt ps b A T S v) {me : Nat} (hm : me < 2) {w1 w3 : World} (hb : Below wr.heap.size wr w1) {x : Bx} (hx : x.b.xs.length = 2 ∧ BlkI w1 x.g x.b.xs ∧ w0.heap.size ≤ x.g) (hl : (T me).length + 1 ≤ k) {v' : Value}
    (hrow : w3.ownsRow w0.heap.size 38 2 v' ((T me).length + 1) (bc (T me) ++ x.cs)) (hk : Kept w1 w3 (fun q => some q = (v me).ownBlock)) (hv : v'.ownBlock = (v me).ownBlock ∨ ∃ g, v'.ownBlock = some g ∧ w1.heap.size ≤ g) :
    Ms w0 (w3.setCell ⟨pt, me, none⟩ v') B k pt ps b A (upd T me (T me ++ [x])) S (upd v me v') := by
  have h1 := h.still hb
  have hp := h.hp
  have hno : ∀ g, some g = (v me).ownBlock → w0.heap.size ≤ g ∧ ∃ cur, w1.heap[g]? = some (.cells cur 38 (0, 0)) := fun g e => ⟨(World.ownsRow.lt (h1.row me hm) g e.symm).1, own_type (h1.row me hm) e.symm⟩
  have kk : Kept w3 (w3.setCell ⟨pt, me, none⟩ v') (fun g => g = pt) := kset _ _ _ _ rfl
  have k2 : Kept w1 (w3.setCell ⟨pt, me, none⟩ v') (fun g => some g = (v me).ownBlock ∨ g = pt) := (hk.mono (fun g _ e => .inl e)).step kk (fun j hj => .inl (.inr hj))
  have hnp : ∀ g, g ≠ pt → g < w0.heap.size → ¬ (some g = (v me).ownBlock ∨ g = pt) := fun g hg hg2 e => e.elim (fun e => by have := (hno g e).1; omega) hg
  have hsz := h1.kept.size
  have hbl : ∀ y : Bx, BlkI w1 y.g y.b.xs → w0.heap.size ≤ y.g → BlkI (w3.setCell ⟨pt, me, none⟩ v') y.g y.b.xs := fun y hy hy2 => k2.obj hy (fun e => e.elim (fun e => by obtain ⟨cur, hc⟩ := (hno _ e).2; exact ty_ne hy hc (by decide) rfl) (fun e => by omega))
  refine ⟨fun i hi => (h1.ok i hi).keep k2 (fun g hg => hnp g (by have := h.lt i hi g hg; omega) (by have := h.lt i hi g hg; omega)), h.bb, h.lt, h.ap, ?_, k2.obj h1.sd (hnp _ (by omega) (by omega)), h.hp, fun i hi => ?_, ?_, fun i hi y hy => ?_, fun i hi => ?_, ?_⟩
  · have e3 : w3.heap[pt]? = some (.cells #[v 0, v 1] 40 (0, 0)) := hk.obj h1.tl (fun e => by have := (hno _ e).1; omega)
    refine blk_set e3 ?_
    rcases two_cases hm with rfl | rfl
    · show #[v', v 1] = #[upd v 0 v' 0, upd v 0 v' 1]; rw [upd_same, upd_ne _ _ (by omega)]
    · show #[v 0, v'] = #[upd v 1 v' 0, upd v 1 v' 1]; rw [upd_same, upd_ne _ _ (by omega)]
  · by_cases e : i = me
    · subst e
      rw [upd_same, upd_same, bc_app, List.length_append]
      have := kk.owns hrow (fun g hg => by have := (World.ownsRow.lt hrow g hg).1; omega)
      simpa [bc] using this
    · rw [upd_ne _ _ e, upd_ne _ _ e]
      refine k2.owns (h1.row i hi) (fun g hg e2 => e2.elim (fun e3 => ?_) (fun e3 => by have := (World.ownsRow.lt (h1.row i hi) g hg).1; omega))
      rcases two_cases hi with rfl | rfl <;> rcases two_cases hm with rfl | rfl
      · exact e rfl
      · exact h.vap g hg e3.symm
      · exact h.vap g e3.symm hg
      · exact e rfl
  · have hlt : ∀ i, i < 2 → ∀ g, (v i).ownBlock = some g → g < w1.heap.size := fun i hi g hg => (World.ownsRow.lt (h1.row i hi) g hg).2
    intro g h0 h2
    rcases two_cases hm with rfl | rfl
    · rw [upd_same] at h0
      rw [upd_ne _ _ (by omega)] at h2
      rcases hv with e | ⟨g', e, e2⟩
      · rw [e] at h0; exact h.vap g h0 h2
      · rw [e] at h0; cases h0; have := hlt 1 (by omega) g h2; omega
    · rw [upd_same] at h2
      rw [upd_ne _ _ (by omega)] at h0
      rcases hv with e | ⟨g', e, e2⟩
      · rw [e] at h2; exact h.vap g h0 h2
      · rw [e] at h2; cases h2; have := hlt 0 (by omega) g h0; omega
  · by_cases e : i = me
    · subst e
      rw [upd_same] at hy
      rcases List.mem_append.1 hy with e2 | e2
      · exact ⟨(h1.el i hi y e2).1, hbl y (h1.el i hi y e2).2.1 (h1.el i hi y e2).2.2, (h1.el i hi y e2).2.2⟩
      · simp only [List.mem_singleton] at e2
        subst e2
        exact ⟨hx.1, hbl y hx.2.1 hx.2.2, hx.2.2⟩
    · rw [upd_ne _ _ e] at hy
      exact ⟨(h1.el i hi y hy).1, hbl y (h1.el i hi y hy).2.1 (h1.el i hi y hy).2.2, (h1.el i hi y hy).2.2⟩
  · by_cases e : i = me
    · subst e; rw [upd_same, List.length_append]; simpa using hl
    · rw [upd_ne _ _ e]; exact h.len i hi
  · exact h1.kept.step k2 (fun j hj => hj.elim (fun e => .inr (hno _ e).1) (fun e => .inl (.inl e)))
theorem wp_app_bt {o : Oper} {a : Act} {K : Act → World → Prop} {Q : Exit → Act → World → Prop} (s x : Operand)
    (ho : o.op = .call { callee := .builtin .append, args := #[s, x], argTypes := #[40, 40] })
    (b0 : Nat) (v : Value) (l : List Bx) (hs : a.eval s = v) (hown : w.ownsRow b0 38 2 v l.length (bc l)) (y : Bx) (hx : a.eval x = .slice (some ⟨w.heap.size, 0, none⟩) 1 1) (hn : l.length ≤ 1000) (hb : b0 ≤ w.heap.size)
    (hw : W = w.alloc (.cells #[.int .i64 y.b.t, .slice (some ⟨y.g, 0, none⟩) 2 2] 38))
    (hK : ∀ g c w1, w1.ownsRow b0 38 2 (.slice (some ⟨g, 0, none⟩) (l.length + 1) c) (l.length + 1) (bc l ++ y.cs) → Kept w w1 (fun q => some q = v.ownBlock) → ((Value.slice (some ⟨g, 0, none⟩) (l.length + 1) c).ownBlock = v.ownBlock ∨ ∃ g', (Value.slice (some ⟨g, 0, none⟩) (l.length + 1) c).ownBlock = some g' ∧ w.heap.size ≤ g') → K (a.put o.dst (.slice (some ⟨g, 0, none⟩) (l.length + 1) c)) w1) : o.wp Try.prog a W K Q := by
  obtain ⟨i0, hi, hz0, hz1, hz2⟩ := info_parts info_bt
  subst hw
  have hbA : Below w.heap.size w (w.alloc (.cells #[.int .i64 y.b.t, .slice (some ⟨y.g, 0, none⟩) 2 2] 38)) := balloc (Below.refl _ w)
  have hsz := hbA.size
  have hnew : (w.alloc (.cells #[.int .i64 y.b.t, .slice (some ⟨y.g, 0, none⟩) 2 2] 38)).heap[w.heap.size]? = some (.cells #[.int .i64 y.b.t, .slice (some ⟨y.g, 0, none⟩) 2 2] 38 (0, 0)) := heap_alloc_new w _
  refine wp_append_lies _ s x 40 ho b0 38 i0 _ 2 32 Try.underlying40 hi hz0 hz1 hz2 rfl (by decide) v l.length (bc l) hs (World.ownsRow.alloc hown _) ⟨w.heap.size, 0, none⟩ 1 1 y.cs hx rfl (fun j u hu => ?_) (fun u hu => bc_one [y] u (by simpa [bc] using hu)) (by decide) (by unfold maxLen; omega) (by omega) (by omega) _ rfl (fun g c w1 h1 h2 h3 h4 => hK g c w1 h1 ?_ ?_)
  · have hj : j < 2 := (List.getElem?_eq_some_iff.1 hu).1
    rw [Addr.add_lit, Nat.zero_add, blk_cell hnew j, ← hu]
    simp [Bx.cs]
  · exact (Kept.ofBelow hbA _).step (Kept.ofGrown h2) (fun j hj => .inl hj)
  · rcases h3 with e | e
    · exact .inl (by rw [e]; rfl)
    · exact .inr ⟨g, rfl, by omega⟩
end
end Go.Proofs.Ytfbollifegngjaa.Dt
