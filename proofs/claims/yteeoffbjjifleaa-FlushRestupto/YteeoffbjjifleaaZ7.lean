import Derived.Test.YteeoffbjjifleaaZ3
namespace Go.Proofs.Yteeoffbjjifleaa.Fm
open Go.RowKit Go.Maps Mb
set_option linter.unusedVariables false
set_option maxRecDepth 100000
set_option linter.unusedSimpArgs false
section
variable {w w' W : World} {B : Nat}
theorem blk_same {a b : World} {P : Nat → Prop} {k : Nat} {o : Obj} (h : Kept a b P) (ho : a.heap[k]? = some o) (hp : ¬ P k) : b.heap[k]? = some o := h.obj ho hp
theorem rdB_keep {P : Nat → Prop} {g : Nat} {bs : List Int} (h : RdB w (some ⟨g, 0, none⟩) bs) (k : Kept w w' P) (hp : ¬ P g) (hg : g < w.heap.size) : RdB w' (some ⟨g, 0, none⟩) bs := by
  rcases h with h | ⟨b, off, e, hc⟩
  · exact .inl h
  · simp only [Option.some.injEq, Addr.mk.injEq, and_true] at e
    obtain ⟨rfl, rfl⟩ := e
    refine .inr ⟨g, 0, rfl, fun i hi => ?_⟩
    have h1 := hc i hi
    unfold World.cell? at h1 ⊢
    rw [k.block g hg hp]
    exact h1
theorem own_setB {g n c j : Nat} {bb : List Int} (h : w.ownsRow B 5 1 (.slice (some ⟨g, 0, none⟩) n c) n (byts bb)) (hl : bb.length = n) (hj : j < n) (z : Int) : (∃ C, w.heap[g]? = some (.cells C 5 (0, 0)) ∧ w.cell? ⟨g, j, none⟩ = some (.int .u8 (bb.getD j 0))) ∧ (w.setCell ⟨g, j, none⟩ (.int .u8 z)).ownsRow B 5 1 (.slice (some ⟨g, 0, none⟩) n c) n (byts (bb.set j z)) := by
  rcases h.2 with ⟨h1, h2⟩ | ⟨g', cap, cur, hv, hB, hg, hnc, hcm, hcs, htk⟩
  · cases h1
  · simp only [Value.slice.injEq, Option.some.injEq, Addr.mk.injEq] at hv
    obtain ⟨⟨rfl, -, -⟩, -, rfl⟩ := hv
    refine ⟨⟨cur, hg, ?_⟩, ⟨by rw [byts_len, List.length_set, hl, Nat.mul_one], .inr ⟨g, c, _, rfl, hB, blk_set hg rfl, hnc, hcm, by simpa using hcs, ?_⟩⟩⟩
    · rw [blk_cell hg]
      have e1 : (cur.toList.take (n * 1))[j]? = (byts bb)[j]? := by rw [htk]
      rw [List.getElem?_take_of_lt (by omega), byts_at _ _ (by omega)] at e1
      simpa using e1
    · apply List.ext_getElem?
      intro t
      by_cases ht : t < n
      · rw [List.getElem?_take_of_lt (by omega), byts_at _ _ (by rw [List.length_set]; omega)]
        have e1 : (cur.toList.take (n * 1))[t]? = (byts bb)[t]? := by rw [htk]
        rw [List.getElem?_take_of_lt (by omega), byts_at _ _ (by omega)] at e1
        have e1' : cur[t]? = some (.int .u8 (bb.getD t 0)) := by simpa using e1
        simp only [Array.getElem?_toList, Array.getElem?_setIfInBounds]
        by_cases e : j = t
        · subst e
          rw [if_pos rfl, if_pos (by omega)]
          simp [List.getD, show j < bb.length by omega]
        · rw [if_neg e, e1']
          simp [List.getD, List.getElem?_set, e]
      · rw [List.getElem?_take_eq_none (by omega), List.getElem?_eq_none (by rw [byts_len, List.length_set]; omega)]
theorem app_body {ops : Array Oper} {rest : List Oper} {o : Oper} {a : Act} {Q : Exit → Act → World → Prop} (hgd : o.guard = none) (s x : Operand)
    (ho : o.op = .call { callee := .builtin .append, args := #[s, x], argTypes := #[62, 62] }) {ba : Option Addr} {n c nb : Nat} {bb : List Int} {z : Int} (hs : a.eval s = .slice ba n c) (hl : bb.length = n) (hn : n ≤ 1048576) (hown : w.ownsRow B 5 1 (.slice ba n c) n (byts bb))
    (hx : a.eval x = .slice (some ⟨nb, 0, none⟩) 1 1) (hnb : w.heap[nb]? = some (.cells #[.int .u8 z] 5 (0, 0)))
    (h : ∀ mg mc w', Hid (RdB w' (some ⟨mg, 0, none⟩) (bb ++ [z])) → Hid (w'.ownsRow B 5 1 (.slice ba n c) n (byts bb)) → Hid (Kept w w' (fun k => (Value.slice ba n c).ownBlock = some k)) → Hid ((Value.slice ba n c).ownBlock = some mg ∨ w.heap.size ≤ mg) → Hid (∃ C, w'.heap[mg]? = some (.cells C 5 (0, 0))) → wpList Try.prog ops Q rest (a.put o.dst (.slice (some ⟨mg, 0, none⟩) (n + 1) mc)) w') : wpList Try.prog ops Q (o :: rest) a w := by
  obtain ⟨ui, uhi, uhz0, uhz1, uhz2⟩ := byte_info
  have hnews : ∀ j u, [Value.int .u8 z][j]? = some u → w.cell? ((⟨nb, 0, none⟩ : Addr).add j) = some u := fun j u hu => by
    rw [Addr.add_lit, Nat.zero_add, blk_cell hnb]
    simpa using hu
  have hone : ∀ u ∈ [Value.int .u8 z], u.oneCell' = true := by intro u hu; simp at hu; subst hu; rfl
  have fin : ∀ v' w', w'.ownsRow w.heap.size 5 1 v' (n + 1) (byts bb ++ [.int .u8 z]) → w.grownBy w' none → ∃ mg mc, v' = .slice (some ⟨mg, 0, none⟩) (n + 1) mc ∧ RdB w' (some ⟨mg, 0, none⟩) (bb ++ [z]) ∧ w'.ownsRow B 5 1 (.slice ba n c) n (byts bb) ∧ Kept w w' (fun k => (Value.slice ba n c).ownBlock = some k) ∧ w.heap.size ≤ mg ∧ ∃ C, w'.heap[mg]? = some (.cells C 5 (0, 0)) := fun v' w' h2 h3 => by
    have hb : Below w.heap.size w w' := ⟨h3.os, h3.tape, h3.output, h3.size, fun k hk => h3.block k hk (by simp)⟩
    rcases own_two h2 with ⟨_, h4⟩ | ⟨g, cc, rfl, hg⟩
    · omega
    · have e : byts bb ++ [.int .u8 z] = byts (bb ++ [z]) := by simp [byts]
      rw [e] at h2
      refine ⟨g, cc, rfl, own_rdB h2 (by simp [hl]), own_still hown hb, Kept.ofBelow hb _, hg, ?_⟩
      exact (row_cells h2 rfl).2
  rcases own_two hown with ⟨e, hn0⟩ | ⟨g, cc, e, hg⟩
  · simp only [Value.slice.injEq] at e
    obtain ⟨rfl, -, rfl⟩ := e
    subst hn0
    obtain rfl : bb = [] := List.eq_nil_of_length_eq_zero hl
    refine wpList_append_grows w hgd s x 62 ho 5 ui (.int .u8 0) 1 1 Try.underlying62 uhi uhz0 uhz1 uhz2 rfl (by omega) none 0 0 [] hs (fun _ => ⟨rfl, rfl⟩) rfl (fun ad he => by cases he) ⟨nb, 0, none⟩ 1 1 [.int .u8 z] hx rfl hnews hone (by omega) (by unfold maxLen; omega) (by omega) ?_
    intro v' w' h2 h3
    obtain ⟨mg, mc, rfl, r1, r2, r3, r4, r5⟩ := fin v' w' (by simpa [byts] using h2) h3
    exact h mg mc w' r1 r2 r3 (.inr r4) r5
  · simp only [Value.slice.injEq] at e
    obtain ⟨rfl, -, rfl⟩ := e
    rcases hown.2 with ⟨h1, h2⟩ | ⟨g', cap, cur, hv, hB, hgc, hnc, hcm, hcs, htk⟩
    · cases h1
    simp only [Value.slice.injEq, Option.some.injEq, Addr.mk.injEq] at hv
    obtain ⟨⟨rfl, -, -⟩, -, rfl⟩ := hv
    have hcell : ∀ j u, (byts bb)[j]? = some u → w.cell? ⟨g, 0 + j, none⟩ = some u := fun j u hu => by
      rw [Nat.zero_add, blk_cell hgc]
      have hj : j < n := by have := (List.getElem?_eq_some_iff.1 hu).1; rw [byts_len] at this; omega
      have e1 : (cur.toList.take (n * 1))[j]? = (byts bb)[j]? := by rw [htk]
      rw [List.getElem?_take_of_lt (by omega), hu] at e1
      simpa using e1
    refine wpList_append_arg w hgd s x 62 ho 5 ui (.int .u8 0) 1 1 Try.underlying62 uhi uhz0 uhz1 uhz2 rfl (by omega) g 0 n c (byts bb) hs (by rw [byts_len, hl, Nat.mul_one]) hcell ⟨nb, 0, none⟩ 1 1 [.int .u8 z] hx rfl hnews hone (fun hr j hj => ⟨by rw [blk_cell hgc]; simp; simp at hj; omega, frozen_of_row w _ _ _ _ hgc⟩) (by unfold maxLen; omega) (by omega) (fun hr => ?_) (fun _ v' w' h2 h3 => ?_)
    · have hset : w.setCells g (0 + n * 1) [.int .u8 z] = w.setCell ⟨g, n, none⟩ (.int .u8 z) := by simp [World.setCells]
      rw [hset]
      have hk := kset (P := fun k => (Value.slice (some ⟨g, 0, none⟩) n c).ownBlock = some k) w g n (.int .u8 z) rfl
      have hh : (w.setCell ⟨g, n, none⟩ (.int .u8 z)).heap[g]? = some (.cells (cur.setIfInBounds n (.int .u8 z)) 5 (0, 0)) := blk_set hgc rfl
      have hold : ∀ t, t < n → cur[t]? = some (.int .u8 (bb.getD t 0)) := fun t ht => by
        have e1 : (cur.toList.take (n * 1))[t]? = (byts bb)[t]? := by rw [htk]
        rw [List.getElem?_take_of_lt (by omega), byts_at _ _ (by omega)] at e1
        simpa using e1
      refine h g c _ ?_ ?_ hk (.inl rfl) ⟨_, hh⟩
      · refine .inr ⟨g, 0, rfl, fun t ht => ?_⟩
        simp only [List.length_append, List.length_cons, List.length_nil, Nat.mul_one, hl] at ht
        rw [Nat.zero_add, blk_cell hh, Array.getElem?_setIfInBounds]
        by_cases e : n = t
        · subst e
          rw [if_pos rfl, if_pos (by omega)]
          simp [List.getD, ← hl]
        · rw [if_neg e, hold t (by omega)]
          simp [List.getD, List.getElem?_append, show t < bb.length by omega]
      · refine ⟨by rw [byts_len, hl, Nat.mul_one], .inr ⟨g, c, _, rfl, hB, hh, hnc, hcm, by simpa using hcs, ?_⟩⟩
        apply List.ext_getElem?
        intro t
        by_cases ht : t < n
        · rw [List.getElem?_take_of_lt (by omega), byts_at _ _ (by omega)]
          simp only [Array.getElem?_toList, Array.getElem?_setIfInBounds]
          rw [if_neg (by omega), hold t ht]
        · rw [List.getElem?_take_eq_none (by omega), List.getElem?_eq_none (by rw [byts_len]; omega)]
    · obtain ⟨mg, mc, rfl, r1, r2, r3, r4, r5⟩ := fin v' w' h2 h3
      exact h mg mc w' r1 r2 r3 (.inr r4) r5
def mC (out : List Dx) (ms : Nat → Nat × Nat) (i : Nat) : List Value := (List.range i).map (fun q => .slice (some ⟨(ms q).1, 0, none⟩) ((out.getD q dx0).bs.length + 1) (ms q).2)
theorem mC_len (out : List Dx) (ms : Nat → Nat × Nat) (i : Nat) : (mC out ms i).length = i := by simp [mC]
theorem mC_at (out : List Dx) (ms : Nat → Nat × Nat) (i q : Nat) (h : q < i) : (mC out ms i)[q]? = some (.slice (some ⟨(ms q).1, 0, none⟩) ((out.getD q dx0).bs.length + 1) (ms q).2) := by simp [mC, h]
theorem mC_succ (out : List Dx) (ms : Nat → Nat × Nat) (i : Nat) (p : Nat × Nat) : mC out (upd ms i p) (i + 1) = mC out ms i ++ [.slice (some ⟨p.1, 0, none⟩) ((out.getD i dx0).bs.length + 1) p.2] := by
  simp only [mC, List.range_succ, List.map_append, List.map_cons, List.map_nil, upd_same]
  congr 1
  apply List.map_congr_left
  intro q hq
  have : q < i := List.mem_range.1 hq
  rw [upd_ne _ _ (by omega)]
structure Bo (V w : World) (la : Option Addr) (lc : Nat) (out : List Dx) (i : Nat) (mv : Value) (ms : Nat → Nat × Nat) : Prop where
  row : w.ownsRow V.heap.size 64 4 (.slice la out.length lc) out.length (msC out)
  el : ∀ q, q < out.length → ∃ bb : List Int, bb.length = (out.getD q dx0).bs.length ∧ w.ownsRow V.heap.size 5 1 (out.getD q dx0).v bb.length (byts bb) ∧ (q < i → ∀ t, t < bb.length → bb.getD t 0 = (q : Int))
  dis : ∀ i j, i < j → j < out.length → ∀ g, (out.getD i dx0).v.ownBlock = some g → (out.getD j dx0).v.ownBlock ≠ some g
  mrow : w.ownsRow V.heap.size 62 1 mv i (mC out ms i)
  mel : ∀ q, q < i → (∃ C, w.heap[(ms q).1]? = some (.cells C 5 (0, 0))) ∧ RdB w (some ⟨(ms q).1, 0, none⟩) (List.replicate (out.getD q dx0).bs.length (q : Int) ++ [100 + (q : Int)]) ∧ ∀ q', q < q' → q' < out.length → (out.getD q' dx0).v.ownBlock ≠ some (ms q).1
  b : Below V.heap.size V w
theorem Bo.start {V : World} {la : Option Addr} {lc : Nat} {out : List Dx} (h : MoT 64 V.heap.size w (.slice la out.length lc) out) (hb : Below V.heap.size V w) : Bo V w la lc out 0 (.slice none 0 0) (fun _ => (0, 0)) :=
  ⟨h.row, fun q hq => ⟨_, rfl, h.el q hq, fun hh => by omega⟩, h.dis, ⟨rfl, .inl ⟨rfl, rfl⟩⟩, fun q hq => by omega, hb⟩
theorem Bo.still {V : World} {la : Option Addr} {lc : Nat} {out : List Dx} {i : Nat} {mv : Value} {ms : Nat → Nat × Nat} (h : Bo V w la lc out i mv ms) (hb : Below w.heap.size w w') : Bo V w' la lc out i mv ms :=
  ⟨own_still h.row hb, fun q hq => by obtain ⟨bb, h1, h2, h3⟩ := h.el q hq; exact ⟨bb, h1, own_still h2 hb, h3⟩, h.dis, own_still h.mrow hb, fun q hq => by
    obtain ⟨⟨C, hC⟩, h2, h3⟩ := h.mel q hq
    exact ⟨⟨C, blk_on hb hC⟩, Row.still h2 hb, h3⟩, bstep h.b hb⟩
theorem Bo.step {V : World} {la : Option Addr} {lc : Nat} {out : List Dx} {i : Nat} {mv : Value} {ms : Nat → Nat × Nat} (h : Bo V w la lc out i mv ms) (hi : i < out.length) (k : Kept w w' (fun k => (out.getD i dx0).v.ownBlock = some k)) :
    w'.ownsRow V.heap.size 64 4 (.slice la out.length lc) out.length (msC out) ∧ (∀ q, q < out.length → q ≠ i → ∃ bb : List Int, bb.length = (out.getD q dx0).bs.length ∧ w'.ownsRow V.heap.size 5 1 (out.getD q dx0).v bb.length (byts bb) ∧ (q < i → ∀ t, t < bb.length → bb.getD t 0 = (q : Int))) ∧ w'.ownsRow V.heap.size 62 1 mv i (mC out ms i) ∧ (∀ q, q < i → (∃ C, w'.heap[(ms q).1]? = some (.cells C 5 (0, 0))) ∧ RdB w' (some ⟨(ms q).1, 0, none⟩) (List.replicate (out.getD q dx0).bs.length (q : Int) ++ [100 + (q : Int)]) ∧ ∀ q', q < q' → q' < out.length → (out.getD q' dx0).v.ownBlock ≠ some (ms q).1) ∧ Below V.heap.size V w' := by
  obtain ⟨bi, hi1, hi2, _⟩ := h.el i hi
  have ty : ∀ {t s n : Nat} {vv : Value} {l : List Value} {B' : Nat}, w.ownsRow B' t s vv n l → t ≠ 5 → w'.ownsRow B' t s vv n l := fun hh ht => k.owns hh fun g hg e => by
    obtain ⟨_, c1, e1⟩ := row_cells hh hg
    obtain ⟨_, c2, e2⟩ := row_cells hi2 e
    rw [e1] at e2
    simp at e2
    exact ht e2.2
  refine ⟨ty h.row (by decide), fun q hq hqi => ?_, ty h.mrow (by decide), fun q hq => ?_, h.b.trans (k.below h.b.size (fun q hq e => by have := (row_cells hi2 e).1; omega))⟩
  · obtain ⟨bb, h1, h2, h3⟩ := h.el q hq
    refine ⟨bb, h1, k.owns h2 (fun g hg e => ?_), h3⟩
    by_cases hlt : q < i
    · exact h.dis q i hlt hi g hg e
    · exact h.dis i q (by omega) hq g e hg
  · obtain ⟨⟨C, hC⟩, h2, h3⟩ := h.mel q hq
    have hne := h3 i hq hi
    exact ⟨⟨C, k.obj hC hne⟩, rdB_keep h2 k hne (lt_heap hC), h3⟩
theorem Bo.put {V : World} {la : Option Addr} {lc : Nat} {out : List Dx} {i : Nat} {mv : Value} {ms : Nat → Nat × Nat} (h : Bo V w la lc out i mv ms) (hi : i < out.length) (k : Kept w w' (fun k => (out.getD i dx0).v.ownBlock = some k)) {bb : List Int} (hl : bb.length = (out.getD i dx0).bs.length) (ho : w'.ownsRow V.heap.size 5 1 (out.getD i dx0).v bb.length (byts bb)) : Bo V w' la lc out i mv ms := by
  obtain ⟨r1, r2, r3, r4, r5⟩ := h.step hi k
  refine ⟨r1, fun q hq => ?_, h.dis, r3, r4, r5⟩
  by_cases e : q = i
  · subst e
    exact ⟨bb, hl, ho, fun hh => by omega⟩
  · exact r2 q hq e
theorem Bo.next {V w1 w2 : World} {la : Option Addr} {lc : Nat} {out : List Dx} {i : Nat} {mv mv' : Value} {ms : Nat → Nat × Nat} (h : Bo V w la lc out i mv ms) (hi : i < out.length) {bb : List Int} (hl : bb.length = (out.getD i dx0).bs.length) (hall : ∀ t, t < bb.length → bb.getD t 0 = (i : Int)) {mg mc : Nat} (k : Kept w w1 (fun k => (out.getD i dx0).v.ownBlock = some k)) (ho : w1.ownsRow V.heap.size 5 1 (out.getD i dx0).v bb.length (byts bb)) (hr : RdB w1 (some ⟨mg, 0, none⟩) (bb ++ [100 + (i : Int)])) (hm : (out.getD i dx0).v.ownBlock = some mg ∨ w.heap.size ≤ mg) (hC : ∃ C, w1.heap[mg]? = some (.cells C 5 (0, 0)))
    (k2 : Kept w1 w2 (fun k => mv.ownBlock = some k)) (hmr : w2.ownsRow V.heap.size 62 1 mv' (i + 1) (mC out ms i ++ [.slice (some ⟨mg, 0, none⟩) ((out.getD i dx0).bs.length + 1) mc])) : Bo V w2 la lc out (i + 1) mv' (upd ms i (mg, mc)) := by
  obtain ⟨r1, r2, r3, r4, r5⟩ := h.step hi k
  have ty : ∀ {t s n : Nat} {vv : Value} {l : List Value} {B' : Nat}, w1.ownsRow B' t s vv n l → t ≠ 62 → w2.ownsRow B' t s vv n l := fun hh ht => k2.owns hh fun g hg e => by
    obtain ⟨_, c1, e1⟩ := row_cells hh hg
    obtain ⟨_, c2, e2⟩ := row_cells r3 e
    rw [e1] at e2
    simp at e2
    exact ht e2.2
  have bl : ∀ {g : Nat} {C : Array Value}, w1.heap[g]? = some (.cells C 5 (0, 0)) → ¬ mv.ownBlock = some g := fun hg e => by
    obtain ⟨_, c2, e2⟩ := row_cells r3 e
    rw [hg] at e2
    simp at e2
  have hbb : bb = List.replicate (out.getD i dx0).bs.length (i : Int) := List.eq_replicate_iff.2 ⟨hl, fun b hb => by
    obtain ⟨t, ht, rfl⟩ := List.mem_iff_getElem.1 hb
    have := hall t ht
    simpa [List.getD, ht] using this⟩
  refine ⟨ty r1 (by decide), fun q hq => ?_, h.dis, ?_, fun q hq => ?_, r5.trans (k2.below r5.size (fun q hq e => by have := (row_cells r3 e).1; omega))⟩
  · by_cases e : q = i
    · subst e
      exact ⟨bb, hl, ty ho (by decide), fun _ => hall⟩
    · obtain ⟨b2, h1, h2, h3⟩ := r2 q hq e
      exact ⟨b2, h1, ty h2 (by decide), fun hh => h3 (by omega)⟩
  · rw [mC_succ]
    exact hmr
  · by_cases e : q = i
    · subst e
      obtain ⟨C, hC⟩ := hC
      rw [upd_same]
      refine ⟨⟨C, k2.obj hC (bl hC)⟩, ?_, fun q' h1 h2 => ?_⟩
      · rw [← hbb]
        exact rdB_keep hr k2 (bl hC) (lt_heap hC)
      · rcases hm with hm | hm
        · exact h.dis q q' h1 h2 mg hm
        · intro e2
          obtain ⟨b3, _, h4, _⟩ := h.el q' h2
          have := (World.ownsRow.lt h4 mg e2).2
          omega
    · have hqi : q < i := by omega
      rw [upd_ne _ _ e]
      obtain ⟨⟨C, hC'⟩, h2, h3⟩ := r4 q hqi
      exact ⟨⟨C, k2.obj hC' (bl hC')⟩, rdB_keep h2 k2 (bl hC') (lt_heap hC'), h3⟩
end
end Go.Proofs.Yteeoffbjjifleaa.Fm
