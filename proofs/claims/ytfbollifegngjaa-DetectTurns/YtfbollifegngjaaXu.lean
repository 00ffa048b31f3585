import Derived.Test.YtfbollifegngjaaXt
namespace Go.Proofs.Ytfbollifegngjaa.Dt
open Go.RowKit
set_option linter.unusedVariables false
set_option maxRecDepth 100000
set_option linter.unusedSimpArgs false
section
variable {D D' : De} {R R' : Rf} {w w' W V : World} {B m : Nat}
theorem iss_lies {ops : Array Oper} {rest : List Oper} {o : Oper} {a : Act} {Q : Exit → Act → World → Prop} (hgd : o.guard = none) (s x : Operand)
    (ho : o.op = .call { callee := .builtin .append, args := #[s, x], argTypes := #[53, 53] })
    (b0 : Nat) (v : Value) (l : List El) (hs : a.eval s = v) (hown : w.ownsRow b0 25 1 v l.length (l.map El.v)) (y : El) (hx : a.eval x = .slice (some ⟨w.heap.size, 0, none⟩) 1 1) (hn : l.length ≤ 1000000) (hb : b0 ≤ w.heap.size)
    (hw : W = w.alloc (.cells #[y.v] 25))
    (hK : ∀ g c w1, w1.ownsRow b0 25 1 (.slice (some ⟨g, 0, none⟩) (l.length + 1) c) (l.length + 1) ((l ++ [y]).map El.v) → Kept w w1 (fun q => some q = v.ownBlock) → (v.ownBlock = some g ∨ w.heap.size ≤ g) → wpList Try.prog ops Q rest (a.put o.dst (.slice (some ⟨g, 0, none⟩) (l.length + 1) c)) w1) : wpList Try.prog ops Q (o :: rest) a W := by
  obtain ⟨i0, hi, hz0, hz1, hz2⟩ := info_parts info_is
  subst hw
  have hbA : Below w.heap.size w (w.alloc (.cells #[y.v] 25)) := balloc (Below.refl _ w)
  have hsz := hbA.size
  refine wpList_append_lies _ hgd s x 53 ho b0 25 i0 _ 1 24 Try.underlying53 hi hz0 hz1 hz2 rfl (by decide) v l.length (l.map El.v) hs (World.ownsRow.alloc hown _) ⟨w.heap.size, 0, none⟩ 1 1 [y.v] hx rfl (cell_one_new w _ _) (fun u hu => by rw [List.mem_singleton.1 hu]; rfl) (by decide) (by unfold maxLen; omega) (by omega) (by omega) _ rfl (fun g c w1 h1 h2 h3 h4 => hK g c w1 (by rw [List.map_append]; exact h1) ?_ ?_)
  · exact (Kept.ofBelow hbA _).step (Kept.ofGrown h2) (fun j hj => .inl hj)
  · exact h3.imp id (fun e => by omega)
theorem wp_iss_lies {o : Oper} {a : Act} {K : Act → World → Prop} {Q : Exit → Act → World → Prop} (s x : Operand)
    (ho : o.op = .call { callee := .builtin .append, args := #[s, x], argTypes := #[53, 53] })
    (b0 : Nat) (v : Value) (l : List El) (hs : a.eval s = v) (hown : w.ownsRow b0 25 1 v l.length (l.map El.v)) (y : El) (hx : a.eval x = .slice (some ⟨w.heap.size, 0, none⟩) 1 1) (hn : l.length ≤ 1000000) (hb : b0 ≤ w.heap.size)
    (hw : W = w.alloc (.cells #[y.v] 25))
    (hK : ∀ g c w1, w1.ownsRow b0 25 1 (.slice (some ⟨g, 0, none⟩) (l.length + 1) c) (l.length + 1) ((l ++ [y]).map El.v) → Kept w w1 (fun q => some q = v.ownBlock) → (v.ownBlock = some g ∨ w.heap.size ≤ g) → K (a.put o.dst (.slice (some ⟨g, 0, none⟩) (l.length + 1) c)) w1) : o.wp Try.prog a W K Q := by
  obtain ⟨i0, hi, hz0, hz1, hz2⟩ := info_parts info_is
  subst hw
  have hbA : Below w.heap.size w (w.alloc (.cells #[y.v] 25)) := balloc (Below.refl _ w)
  have hsz := hbA.size
  refine wp_append_lies _ s x 53 ho b0 25 i0 _ 1 24 Try.underlying53 hi hz0 hz1 hz2 rfl (by decide) v l.length (l.map El.v) hs (World.ownsRow.alloc hown _) ⟨w.heap.size, 0, none⟩ 1 1 [y.v] hx rfl (cell_one_new w _ _) (fun u hu => by rw [List.mem_singleton.1 hu]; rfl) (by decide) (by unfold maxLen; omega) (by omega) (by omega) _ rfl (fun g c w1 h1 h2 h3 h4 => hK g c w1 (by rw [List.map_append]; exact h1) ?_ ?_)
  · exact (Kept.ofBelow hbA _).step (Kept.ofGrown h2) (fun j hj => .inl hj)
  · exact h3.imp id (fun e => by omega)
theorem getD_snoc {E : List El} {x : El} {i : Nat} (hi : i < E.length) : (E ++ [x]).getD i el0 = E.getD i el0 := by
  simp only [List.getD]
  rw [List.getElem?_append_left hi]
theorem getD_last {E : List El} {x : El} : (E ++ [x]).getD E.length el0 = x := by simp [List.getD]
section
variable {hb : Nat} {vg vw vr vg' vw' : Value} {E K : List El} {X : Nat → List Int}
theorem keep_fin {w1 w2 w4 : World} (h : Hs w B hb vg vw vr E K X) (x y : El) (xs : List Int) (hx : w.ownsRow B 3 1 x.v xs.length (ints xs)) (h16 : xs.length ≤ 16) (hnew : ∀ j, x.b = some j → ¬ hown hb vg vw vr E K j)
    (k1 : Kept w w1 (fun j => j = hb ∨ vg.ownBlock = some j)) (g1 : w1.ownsRow B 25 1 vg' (E.length + 1) ((E ++ [x]).map El.v)) (l1 : ∀ g, vg'.ownBlock = some g → vg.ownBlock = some g ∨ w.heap.size ≤ g)
    (b2 : Below w1.heap.size w1 w2) (hy : w2.ownsRow w1.heap.size 3 1 y.v xs.length (ints xs))
    (k2 : Kept w2 w4 (fun j => j = hb ∨ vw.ownBlock = some j)) (g2 : w4.ownsRow B 25 1 vw' (K.length + 1) ((K ++ [y]).map El.v)) (l2 : ∀ g, vw'.ownBlock = some g → vw.ownBlock = some g ∨ w2.heap.size ≤ g)
    (b4 : w4.heap[hb]? = some (.cells #[vg', vw', .slice none 0 0, vr] 55 (0, 0))) :
    Hs w4 B hb vg' vw' vr (E ++ [x]) (K ++ [y]) (upC X E.length xs) ∧ Kept w w4 (fun j => j = hb ∨ vg.ownBlock = some j ∨ vw.ownBlock = some j) ∧ (∀ j, hown hb vg' vw' vr (E ++ [x]) (K ++ [y]) j → hown hb vg vw vr E K j ∨ x.b = some j ∨ w.heap.size ≤ j) := by
  have s1 := k1.size
  have s2 := b2.size
  have s3 := k2.size
  have kk : Kept w w4 (fun j => j = hb ∨ vg.ownBlock = some j ∨ vw.ownBlock = some j) := ((k1.trans (Kept.ofBelow b2 _)).mono (fun j _ e => e.imp id .inl)).step k2 (fun j e => .inl (e.imp id .inr))
  have hty : ∀ q cur, w.heap[q]? = some (.cells cur 3 (0, 0)) → ¬ (q = hb ∨ vg.ownBlock = some q ∨ vw.ownBlock = some q) := fun q cur hq e => by
    rcases e with e | e | e
    · exact ty_ne hq h.blk (by decide) e
    · obtain ⟨c, hc⟩ := own_typeT h.al.row e; exact ty_ne hq hc (by decide) rfl
    · obtain ⟨c, hc⟩ := own_typeT h.kr e; exact ty_ne hq hc (by decide) rfl
  have hX : ∀ i, i < E.length → upC X E.length xs i = X i := fun i hi => by unfold upC; rw [if_neg (by omega)]
  have hXl : upC X E.length xs E.length = xs := by unfold upC; rw [if_pos rfl]
  have g14 : w4.ownsRow B 25 1 vg' (E.length + 1) ((E ++ [x]).map El.v) := k2.owns (own_still g1 b2) (fun j hj e => by
    rcases e with e | e
    · rcases l1 j hj with t | t
      · obtain ⟨c5, hc5⟩ := own_typeT h.al.row t
        exact ty_ne h.blk hc5 (by decide) e.symm
      · have := lt_heap h.blk; omega
    · rcases l1 j hj with t | t
      · exact h.gw j t e
      · have := (World.ownsRow.lt h.kr j e).2; omega)
  have y4 : w4.ownsRow w1.heap.size 3 1 y.v xs.length (ints xs) := k2.owns hy (fun j hj e => by
    have := (World.ownsRow.lt hy j hj).1
    rcases e with e | e
    · have := lt_heap h.blk; omega
    · have := (World.ownsRow.lt h.kr j e).2; omega)
  have yge : ∀ j, y.b = some j → w.heap.size ≤ j := fun j hj => by have := (World.ownsRow.lt hy j hj).1; omega
  have olt : ∀ j, hown hb vg vw vr E K j → j < w.heap.size := fun j hj => h.lt hj
  refine ⟨⟨b4, ⟨by rw [List.length_append]; exact g14, fun i hi => ?_, ?_⟩, by rw [List.length_append, List.length_append, h.kl]; rfl, by rw [List.length_append]; exact g2, fun i hi => ?_, fun i hi => ?_, own_keepT h.rr kk hty, fun j hj hj2 => ?_, ?_, ?_, ?_, h.hB.1, by have := h.hB.2; omega⟩, kk, fun j hj => ?_⟩
  · rw [List.length_append] at hi
    by_cases e : i = E.length
    · subst e
      rw [getD_last, hXl]
      exact own_keepT hx kk hty
    · have hi2 : i < E.length := by simp at hi; omega
      rw [getD_snoc hi2, hX i hi2]
      exact own_keepT (h.al.el i hi2) kk hty
  · exact ap_snoc h.al.ap (fun e he g hg hg2 => hnew g hg2 (.inr (.inr (.inr (.inr (.inl ⟨e, he, hg⟩))))))
  · rw [List.length_append] at hi
    by_cases e : i = E.length
    · subst e
      rw [hXl, ← h.kl, getD_last]
      exact own_lower y4 (by have := h.hB.2; omega)
    · have hi2 : i < E.length := by simp at hi; omega
      rw [getD_snoc (by rw [h.kl]; exact hi2), hX i hi2]
      exact own_keepT (h.ke i hi2) kk hty
  · rw [List.length_append] at hi
    by_cases e : i = E.length
    · subst e; rw [hXl]; exact h16
    · have hi2 : i < E.length := by simp at hi; omega
      rw [hX i hi2]; exact h.sm i hi2
  · rcases l1 j hj with t | t
    · rcases l2 j hj2 with t2 | t2
      · exact h.gw j t t2
      · have := (World.ownsRow.lt h.al.row j t).2; omega
    · rcases l2 j hj2 with t2 | t2
      · have := (World.ownsRow.lt h.kr j t2).2; omega
      · have := (World.ownsRow.lt g1 j hj).2; omega
  · intro e he k hk j hj hj2
    rcases List.mem_append.1 he with he | he <;> rcases List.mem_append.1 hk with hk | hk
    · exact h.ek e he k hk j hj hj2
    · simp only [List.mem_singleton] at hk
      subst hk
      have := yge j hj2
      have := olt j (.inr (.inr (.inr (.inr (.inl ⟨e, he, hj⟩)))))
      omega
    · simp only [List.mem_singleton] at he
      subst he
      exact hnew j hj (.inr (.inr (.inr (.inr (.inr ⟨k, hk, hj2⟩)))))
    · simp only [List.mem_singleton] at he hk
      subst he hk
      have := yge j hj2
      have := (World.ownsRow.lt hx j hj).2
      omega
  · intro e he j hj hj2
    rcases List.mem_append.1 he with he | he
    · exact h.er e he j hj hj2
    · simp only [List.mem_singleton] at he
      subst he
      exact hnew j hj2 (.inr (.inr (.inr (.inl hj))))
  · intro k hk j hj hj2
    rcases List.mem_append.1 hk with hk | hk
    · exact h.rk k hk j hj hj2
    · simp only [List.mem_singleton] at hk
      subst hk
      have := yge j hj2
      have := (World.ownsRow.lt h.rr j hj).2
      omega
  · rcases hj with hj | hj | hj | hj | ⟨e, he, hj⟩ | ⟨e, he, hj⟩
    · exact .inl (.inl hj)
    · rcases l1 j hj with t | t
      · exact .inl (.inr (.inl t))
      · exact .inr (.inr t)
    · rcases l2 j hj with t | t
      · exact .inl (.inr (.inr (.inl t)))
      · exact .inr (.inr (by omega))
    · exact .inl (.inr (.inr (.inr (.inl hj))))
    · rcases List.mem_append.1 he with he | he
      · exact .inl (.inr (.inr (.inr (.inr (.inl ⟨e, he, hj⟩)))))
      · simp only [List.mem_singleton] at he
        subst he
        exact .inr (.inl hj)
    · rcases List.mem_append.1 he with he | he
      · exact .inl (.inr (.inr (.inr (.inr (.inr ⟨e, he, hj⟩)))))
      · simp only [List.mem_singleton] at he
        subst he
        exact .inr (.inr (yge j hj))
set_option maxHeartbeats 8000000 in
theorem keep_h (h : Hs w B hb vg vw vr E K X) (x : El) (xs : List Int) (hx : w.ownsRow B 3 1 x.v xs.length (ints xs)) (h16 : xs.length ≤ 16) (hnew : ∀ j, x.b = some j → ¬ hown hb vg vw vr E K j) (hE : E.length ≤ 10000) : Calls Try.prog 34 #[.pointer (some ⟨hb, 0, none⟩), .slice x.a x.n x.c] w fun e w' => e = .returned (.tuple #[]) ∧ ∃ vg' vw' y, Hs w' B hb vg' vw' vr (E ++ [x]) (K ++ [y]) (upC X E.length xs) ∧ Kept w w' (fun j => j = hb ∨ vg.ownBlock = some j ∨ vw.ownBlock = some j) ∧ (∀ j, hown hb vg' vw' vr (E ++ [x]) (K ++ [y]) j → hown hb vg vw vr E K j ∨ x.b = some j ∨ w.heap.size ≤ j) := by
  have HH0 : Hid (Hs w B hb vg vw vr E K X) := h
  have Hxn : Hid (xs.length = x.n) := by
    obtain ⟨a, c, e⟩ := own_sliceD hx
    unfold El.v at e
    simp only [Value.slice.injEq] at e
    exact e.2.1.symm
  obtain ⟨ga, gc, hvg⟩ := own_sliceD h.al.row
  obtain ⟨wa, wc, hvw⟩ := own_sliceD h.kr
  obtain ⟨nK, hnK⟩ : ∃ n, K.length = n := ⟨_, rfl⟩
  rw [hnK] at hvw
  subst hvw
  have hkl := h.kl
  have s0 := blk_cell h.blk 0
  have s01 := blk_cell h.blk 1
  simp only [List.getElem?_toArray, List.getElem?_cons_succ, List.getElem?_cons_zero] at s0 s01
  have f0 := frozen_of_row w hb 0 _ _ h.blk
  have HH : Hid (Hs w B hb vg (.slice wa nK wc) vr E K X) := h
  have Hx : Hid (w.ownsRow B 3 1 x.v xs.length (ints xs)) := hx
  have Hnew : Hid (∀ j, x.b = some j → ¬ hown hb vg (.slice wa nK wc) vr E K j) := hnew
  have hBw := h.hB.2
  rw [hvg] at s0
  have HRg : Hid (w.ownsRow B 25 1 (.slice ga E.length gc) E.length (E.map El.v)) := by rw [← hvg]; exact h.al.row
  have Hvg : Hid (vg = .slice ga E.length gc) := hvg
  clear h hx hnew hvg HH0
  go_enter Try.func34, Try.ntmps34
  go_wp2_with (first
    | (at_builtin; refine iss_lies (w := w) rfl (.tmp 8) (.tmp 10) rfl B (.slice ga E.length gc) E rfl HRg.out ⟨x.a, x.n, x.c⟩ rfl (by omega) hBw (by rfl) ?_)
    | fail)
  intro g1 c1 wm hrow0 hkm hvm
  have hrow : wm.ownsRow B 25 1 (.slice (some ⟨g1, 0, none⟩) (E.length + 1) c1) (E.length + 1) ((E ++ [x]).map El.v) := by rw [List.map_append]; exact hrow0
  clear hrow0
  have pm : wm.heap[hb]? = some (.cells #[vg, .slice wa nK wc, .slice none 0 0, vr] 55 (0, 0)) := hkm.obj HH.out.blk (fun e => by obtain ⟨c5, hc5⟩ := own_typeT HRg.out e.symm; exact ty_ne HH.out.blk hc5 (by decide) rfl)
  have q0 := blk_cell pm 0
  simp only [List.getElem?_toArray, List.getElem?_cons_succ, List.getElem?_cons_zero] at q0
  rw [Hvg.out] at q0
  have fm := frozen_of_row wm hb 0 _ _ pm
  obtain ⟨w1, hw1⟩ : ∃ w1, wm.setCell ⟨hb, 0, none⟩ (.slice (some ⟨g1, 0, none⟩) (E.length + 1) c1) = w1 := ⟨_, rfl⟩
  have Hb1 : Hid (w1.heap[hb]? = some (.cells #[.slice (some ⟨g1, 0, none⟩) (E.length + 1) c1, .slice wa nK wc, .slice none 0 0, vr] 55 (0, 0))) := by show _ = _; rw [← hw1]; exact blk_set pm rfl
  have HK1 : Hid (Kept w w1 (fun j => j = hb ∨ vg.ownBlock = some j)) := by
    show Kept _ _ _
    rw [← hw1, Hvg.out]
    exact (hkm.mono (fun j _ e => .inr e.symm)).step (kset (P := fun j => j = hb) _ _ _ _ rfl) (fun j e => .inl (.inl e))
  have HG1 : Hid (w1.ownsRow B 25 1 (.slice (some ⟨g1, 0, none⟩) (E.length + 1) c1) (E.length + 1) ((E ++ [x]).map El.v)) := by
    show World.ownsRow _ _ _ _ _ _ _
    rw [← hw1]
    exact (kset (P := fun j => j = hb) _ _ _ _ rfl).owns hrow (fun j hj e => by obtain ⟨c5, hc5⟩ := own_typeT hrow hj; exact ty_ne pm hc5 (by decide) e.symm)
  have Hl1 : Hid (∀ g, (Value.slice (some ⟨g1, 0, none⟩) (E.length + 1) c1).ownBlock = some g → vg.ownBlock = some g ∨ w.heap.size ≤ g) := fun g hg => by
    simp only [Value.ownBlock, Option.some.injEq] at hg
    subst hg
    rw [Hvg.out]
    exact hvm
  have HRk1 : Hid (w1.ownsRow B 25 1 (.slice wa nK wc) K.length (K.map El.v)) := HK1.out.owns HH.out.kr (fun j hj e => by
    rcases e with e | e
    · obtain ⟨c5, hc5⟩ := own_typeT HH.out.kr hj; exact ty_ne HH.out.blk hc5 (by decide) e.symm
    · exact HH.out.gw j e hj)
  have HCp : Hid (∀ w', Below w1.heap.size w1 w' → Calls Try.prog 8 #[.slice x.a x.n x.c] w' fun e w2 => ∃ u, e = .returned u ∧ IsI w' w2 x.n xs u) := fun w' hbw => by
    have hx1 : w1.ownsRow B 3 1 x.v xs.length (ints xs) := own_keepT Hx.out HK1.out (fun g cur hg e => by
      rcases e with e | e
      · exact ty_ne hg HH.out.blk (by decide) e
      · obtain ⟨c5, hc5⟩ := own_typeT HH.out.al.row e; exact ty_ne hg hc5 (by decide) rfl)
    have := own_still hx1 hbw
    unfold El.v at this
    rw [Hxn.out] at this
    exact copied_any (own_rd this) (by have := Hxn.out; omega)
  have s1 : w1.cell? ⟨hb, 0, none⟩ = some (.slice (some ⟨g1, 0, none⟩) (E.length + 1) c1) := blk_cell Hb1.out 0
  have s1' : w1.cell? ⟨hb, 1, none⟩ = some (.slice wa nK wc) := blk_cell Hb1.out 1
  clear hrow hkm hvm pm s0 s01 f0
  go_wp2_with (fail)
  clear q0 fm hw1
  refine wp_region_held_drew (S := (fun w' => w'.cell? ⟨hb, 0, none⟩ = some (.slice (some ⟨g1, 0, none⟩) (E.length + 1) c1))) (by kernel_rfl) (cell_drew s1) (fun hHeld => ?_)
  simp only [Act.put, List.size_toArray, List.length_cons, List.length_nil, Nat.zero_add]
  refine wpAnyH_take (i := 0) (v := .pointer (some ⟨hb, 0, none⟩)) rfl (by kernel_rfl) (by kernel_rfl) (by kernel_rfl) (fun _ _ _ h => h) (Or.inl ⟨by rfl, fun w' hS => by go_simp⟩) hHeld ?_
  simp only [Act.put, List.getElem_toArray, List.getElem_cons_zero, List.getElem_cons_succ, List.setIfInBounds_toArray, List.set_cons_zero, List.set_cons_succ]
  refine wpAnyH_take (i := 1) (v := .pointer (some ⟨hb, 0, none⟩)) rfl (by kernel_rfl) (by kernel_rfl) (by kernel_rfl) (fun _ _ _ h => h) (Or.inl ⟨by rfl, fun w' hS => by go_simp⟩) hHeld ?_
  simp only [Act.put, List.getElem_toArray, List.getElem_cons_zero, List.getElem_cons_succ, List.setIfInBounds_toArray, List.set_cons_zero, List.set_cons_succ]
  refine wpAnyH_take (i := 2) (v := .pointer (some ⟨hb, 0, none⟩)) rfl (by kernel_rfl) (by kernel_rfl) (by kernel_rfl) (fun _ _ _ h => h) (Or.inl ⟨by rfl, fun w' hS => by go_simp⟩) hHeld ?_
  simp only [Act.put, List.getElem_toArray, List.getElem_cons_zero, List.getElem_cons_succ, List.setIfInBounds_toArray, List.set_cons_zero, List.set_cons_succ]
  refine wpAnyH_take (i := 3) (v := .pointer (some ⟨hb, 1, none⟩)) rfl (by kernel_rfl) (by kernel_rfl) (by kernel_rfl) (fun _ _ _ h => h) (Or.inl ⟨by rfl, fun w' hS => by go_simp⟩) hHeld ?_
  simp only [Act.put, List.getElem_toArray, List.getElem_cons_zero, List.getElem_cons_succ, List.setIfInBounds_toArray, List.set_cons_zero, List.set_cons_succ]
  refine wpAnyH_take (i := 5) (v := .slice x.a x.n x.c) rfl (by kernel_rfl) (by kernel_rfl) (by kernel_rfl) (fun _ _ _ h => h) (Or.inl ⟨by rfl, fun w' hS => by go_simp⟩) hHeld ?_
  simp only [Act.put, List.getElem_toArray, List.getElem_cons_zero, List.getElem_cons_succ, List.setIfInBounds_toArray, List.set_cons_zero, List.set_cons_succ]
  have t1 := cell_drew s1'
  refine wpAnyH_ready (rs := [4, 6]) (by kernel_rfl) (by simp) ?_
  refine AllReadyH.cons rfl (fun K0 hK => ?_) (AllReadyH.cons rfl (fun K0 hK => ?_) AllReadyH.nil)
  · skip
    go_simp
    refine hK.out _ _ (cell_drew s1) (fun hHeld => ?_)
    clear hK K0
    refine wpAnyH_ready (rs := [6]) (by kernel_rfl) (by simp) ?_
    refine AllReadyH.cons rfl (fun K0 hK => ?_) AllReadyH.nil
    go_simp
    refine (HCp.out _ (Below.refl _ _).drew).mono ?_
    rintro e w2 ⟨uu, rfl, gy, rfl, hgy, hBy, hby⟩
    have hb12 : Below w1.heap.size w1 w2 := bstep (Below.refl _ _).drew hby
    have Hb12 : Hid (Below w1.heap.size w1 w2) := hb12
    have Hyo : Hid (w2.ownsRow w1.heap.size 3 1 (El.v ⟨some ⟨gy, 0, none⟩, x.n, x.n⟩) xs.length (ints xs)) := by
      show w2.ownsRow w1.heap.size 3 1 (.slice (some ⟨gy, 0, none⟩) x.n x.n) xs.length (ints xs)
      rw [← Hxn.out]
      exact hBy.own hgy rfl (by unfold maxLen; omega)
    have HRk : Hid (w2.ownsRow B 25 1 (.slice wa nK wc) K.length (K.map El.v)) := own_still HRk1.out hb12
    have Hb2 : Hid (w2.heap[hb]? = some (.cells #[.slice (some ⟨g1, 0, none⟩) (E.length + 1) c1, .slice wa nK wc, .slice none 0 0, vr] 55 (0, 0))) := (hb12.block _ (lt_heap Hb1.out)).trans Hb1.out
    have HBz : Hid (B ≤ w2.heap.size) := by show B ≤ w2.heap.size; have h1 := HH.out.hB.2; have h2 := HK1.out.size; have h3 := hb12.size; omega
    have Hnb : Hid (¬ some hb = (Value.slice wa nK wc).ownBlock) := fun e => by obtain ⟨c5, hc5⟩ := own_typeT HRk.out e.symm; exact ty_ne Hb2.out hc5 (by decide) rfl
    have s2 := below_at hb12 s1
    have t2 := blk_cell Hb2.out 1
    simp only [List.getElem?_toArray, List.getElem?_cons_succ, List.getElem?_cons_zero] at t2
    clear hgy hBy hby hb12
    refine hK.out _ _ s2 (fun hHeld => ?_)
    clear hK K0
    refine wpAnyH_ready (rs := [7]) (by kernel_rfl) (by simp) ?_
    refine AllReadyH.cons rfl (fun K0 hK => ?_) AllReadyH.nil
    go_simp
    refine hK.out _ _ (below_at (balloc (Below.refl _ _)) s2) (fun hHeld => ?_)
    clear hK K0
    refine wpAnyH_ready (rs := [8]) (by kernel_rfl) (by simp) ?_
    refine AllReadyH.cons rfl (fun K0 hK => ?_) AllReadyH.nil
    split
    · refine wp_iss_lies (w := w2) (.tmp 18) (.tmp 21) rfl B (.slice wa nK wc) K rfl HRk.out ⟨some ⟨gy, 0, none⟩, x.n, x.n⟩ rfl (by omega) HBz.out (by rfl) ?_
      intro g3 c3 w3 hrow3 hk3 hv3
      have p3 : w3.heap[hb]? = some (.cells #[.slice (some ⟨g1, 0, none⟩) (E.length + 1) c1, .slice wa nK wc, .slice none 0 0, vr] 55 (0, 0)) := hk3.obj Hb2.out Hnb.out
      have q3 : w3.cell? ⟨hb, 1, none⟩ = some (.slice wa nK wc) := blk_cell p3 1
      have f3 : w3.frozen? ⟨hb, 1, none⟩ = false := frozen_of_row w3 hb 1 _ _ p3
      obtain ⟨nl, hnl⟩ : ∃ nl, K.length + 1 = nl := ⟨_, rfl⟩
      obtain ⟨w4, hw4⟩ : ∃ w4, w3.setCell ⟨hb, 1, none⟩ (.slice (some ⟨g3, 0, none⟩) nl c3) = w4 := ⟨_, rfl⟩
      have HF : Hid (Hs w4 B hb (.slice (some ⟨g1, 0, none⟩) (E.length + 1) c1) (.slice (some ⟨g3, 0, none⟩) nl c3) vr (E ++ [x]) (K ++ [⟨some ⟨gy, 0, none⟩, x.n, x.n⟩]) (upC X E.length xs) ∧ Kept w w4 (fun j => j = hb ∨ vg.ownBlock = some j ∨ (Value.slice wa nK wc).ownBlock = some j) ∧ (∀ j, hown hb (.slice (some ⟨g1, 0, none⟩) (E.length + 1) c1) (.slice (some ⟨g3, 0, none⟩) nl c3) vr (E ++ [x]) (K ++ [⟨some ⟨gy, 0, none⟩, x.n, x.n⟩]) j → hown hb vg (.slice wa nK wc) vr E K j ∨ x.b = some j ∨ w.heap.size ≤ j)) := by
        refine keep_fin HH.out x _ xs Hx.out h16 Hnew.out HK1.out HG1.out Hl1.out Hb12.out Hyo.out (?_ : Kept w2 w4 _) ?_ ?_ ?_
        · rw [← hw4]
          exact (hk3.mono (fun j _ e => .inr e.symm)).step (kset (P := fun j => j = hb) _ _ _ _ rfl) (fun j e => .inl (.inl e))
        · rw [← hw4, ← hnl]
          exact (kset (P := fun j => j = hb) _ _ _ _ rfl).owns hrow3 (fun j hj e => by obtain ⟨c5, hc5⟩ := own_typeT hrow3 hj; exact ty_ne p3 hc5 (by decide) e.symm)
        · intro g hg
          simp only [Value.ownBlock, Option.some.injEq] at hg
          subst hg
          exact hv3
        · rw [← hw4]
          exact blk_set p3 rfl
      rw [hnl]
      refine hK.out _ _ (blk_cell p3 0) (fun hHeld => ?_)
      clear hK K0 hrow3 hk3 hv3
      refine wpAnyH_take (i := 9) (v := .pointer (some ⟨hb, 0, none⟩)) rfl (by kernel_rfl) (by kernel_rfl) (by kernel_rfl) (fun _ _ _ h => h) (Or.inl ⟨by rfl, fun w' hS => by go_simp⟩) hHeld ?_
      simp only [Act.put, List.getElem_toArray, List.getElem_cons_zero, List.getElem_cons_succ, List.setIfInBounds_toArray, List.set_cons_zero, List.set_cons_succ]
      refine wpAnyH_take (i := 10) (v := .pointer (some ⟨hb, 1, none⟩)) rfl (by kernel_rfl) (by kernel_rfl) (by kernel_rfl) (fun _ _ _ h => h) (Or.inl ⟨by rfl, fun w' hS => by go_simp⟩) hHeld ?_
      simp only [Act.put, List.getElem_toArray, List.getElem_cons_zero, List.getElem_cons_succ, List.setIfInBounds_toArray, List.set_cons_zero, List.set_cons_succ]
      have c4 : w4.cell? ⟨hb, 0, none⟩ = some (.slice (some ⟨g1, 0, none⟩) (E.length + 1) c1) := blk_cell HF.out.1.blk 0
      refine wpAnyH_ready (rs := [11]) (by kernel_rfl) (by simp) ?_
      refine AllReadyH.cons rfl (fun K0 hK => ?_) AllReadyH.nil
      go_simp
      try rw [hw4]
      refine hK.out _ _ c4 (fun hHeld => ?_)
      clear hK K0
      refine wpAnyH_done (by kernel_rfl) ?_ _
      clear hHeld q3 f3 hw4 p3 hnl c4
      go_wp2_with (fail)
      go_end0
      exact ⟨rfl, _, _, _, HF.out.1, HF.out.2.1, HF.out.2.2⟩
    · rename_i hne2
      exact absurd rfl hne2
  · skip
    go_simp
    refine (HCp.out _ (Below.refl _ _).drew).mono ?_
    rintro e w2 ⟨uu, rfl, gy, rfl, hgy, hBy, hby⟩
    have hb12 : Below w1.heap.size w1 w2 := bstep (Below.refl _ _).drew hby
    have Hb12 : Hid (Below w1.heap.size w1 w2) := hb12
    have Hyo : Hid (w2.ownsRow w1.heap.size 3 1 (El.v ⟨some ⟨gy, 0, none⟩, x.n, x.n⟩) xs.length (ints xs)) := by
      show w2.ownsRow w1.heap.size 3 1 (.slice (some ⟨gy, 0, none⟩) x.n x.n) xs.length (ints xs)
      rw [← Hxn.out]
      exact hBy.own hgy rfl (by unfold maxLen; omega)
    have HRk : Hid (w2.ownsRow B 25 1 (.slice wa nK wc) K.length (K.map El.v)) := own_still HRk1.out hb12
    have Hb2 : Hid (w2.heap[hb]? = some (.cells #[.slice (some ⟨g1, 0, none⟩) (E.length + 1) c1, .slice wa nK wc, .slice none 0 0, vr] 55 (0, 0))) := (hb12.block _ (lt_heap Hb1.out)).trans Hb1.out
    have HBz : Hid (B ≤ w2.heap.size) := by show B ≤ w2.heap.size; have h1 := HH.out.hB.2; have h2 := HK1.out.size; have h3 := hb12.size; omega
    have Hnb : Hid (¬ some hb = (Value.slice wa nK wc).ownBlock) := fun e => by obtain ⟨c5, hc5⟩ := own_typeT HRk.out e.symm; exact ty_ne Hb2.out hc5 (by decide) rfl
    have s2 := below_at hb12 s1
    have t2 := blk_cell Hb2.out 1
    simp only [List.getElem?_toArray, List.getElem?_cons_succ, List.getElem?_cons_zero] at t2
    clear hgy hBy hby hb12
    refine hK.out _ _ s2 (fun hHeld => ?_)
    clear hK K0
    refine wpAnyH_ready (rs := [4, 7]) (by kernel_rfl) (by simp) ?_
    refine AllReadyH.cons rfl (fun K0 hK => ?_) (AllReadyH.cons rfl (fun K0 hK => ?_) AllReadyH.nil)
    · skip
      go_simp
      refine hK.out _ _ s2 (fun hHeld => ?_)
      clear hK K0
      refine wpAnyH_ready (rs := [7]) (by kernel_rfl) (by simp) ?_
      refine AllReadyH.cons rfl (fun K0 hK => ?_) AllReadyH.nil
      go_simp
      refine hK.out _ _ (below_at (balloc (Below.refl _ _)) s2) (fun hHeld => ?_)
      clear hK K0
      refine wpAnyH_ready (rs := [8]) (by kernel_rfl) (by simp) ?_
      refine AllReadyH.cons rfl (fun K0 hK => ?_) AllReadyH.nil
      split
      · refine wp_iss_lies (w := w2) (.tmp 18) (.tmp 21) rfl B (.slice wa nK wc) K rfl HRk.out ⟨some ⟨gy, 0, none⟩, x.n, x.n⟩ rfl (by omega) HBz.out (by rfl) ?_
        intro g3 c3 w3 hrow3 hk3 hv3
        have p3 : w3.heap[hb]? = some (.cells #[.slice (some ⟨g1, 0, none⟩) (E.length + 1) c1, .slice wa nK wc, .slice none 0 0, vr] 55 (0, 0)) := hk3.obj Hb2.out Hnb.out
        have q3 : w3.cell? ⟨hb, 1, none⟩ = some (.slice wa nK wc) := blk_cell p3 1
        have f3 : w3.frozen? ⟨hb, 1, none⟩ = false := frozen_of_row w3 hb 1 _ _ p3
        obtain ⟨nl, hnl⟩ : ∃ nl, K.length + 1 = nl := ⟨_, rfl⟩
        obtain ⟨w4, hw4⟩ : ∃ w4, w3.setCell ⟨hb, 1, none⟩ (.slice (some ⟨g3, 0, none⟩) nl c3) = w4 := ⟨_, rfl⟩
        have HF : Hid (Hs w4 B hb (.slice (some ⟨g1, 0, none⟩) (E.length + 1) c1) (.slice (some ⟨g3, 0, none⟩) nl c3) vr (E ++ [x]) (K ++ [⟨some ⟨gy, 0, none⟩, x.n, x.n⟩]) (upC X E.length xs) ∧ Kept w w4 (fun j => j = hb ∨ vg.ownBlock = some j ∨ (Value.slice wa nK wc).ownBlock = some j) ∧ (∀ j, hown hb (.slice (some ⟨g1, 0, none⟩) (E.length + 1) c1) (.slice (some ⟨g3, 0, none⟩) nl c3) vr (E ++ [x]) (K ++ [⟨some ⟨gy, 0, none⟩, x.n, x.n⟩]) j → hown hb vg (.slice wa nK wc) vr E K j ∨ x.b = some j ∨ w.heap.size ≤ j)) := by
          refine keep_fin HH.out x _ xs Hx.out h16 Hnew.out HK1.out HG1.out Hl1.out Hb12.out Hyo.out (?_ : Kept w2 w4 _) ?_ ?_ ?_
          · rw [← hw4]
            exact (hk3.mono (fun j _ e => .inr e.symm)).step (kset (P := fun j => j = hb) _ _ _ _ rfl) (fun j e => .inl (.inl e))
          · rw [← hw4, ← hnl]
            exact (kset (P := fun j => j = hb) _ _ _ _ rfl).owns hrow3 (fun j hj e => by obtain ⟨c5, hc5⟩ := own_typeT hrow3 hj; exact ty_ne p3 hc5 (by decide) e.symm)
          · intro g hg
            simp only [Value.ownBlock, Option.some.injEq] at hg
            subst hg
            exact hv3
          · rw [← hw4]
            exact blk_set p3 rfl
        rw [hnl]
        refine hK.out _ _ (blk_cell p3 0) (fun hHeld => ?_)
        clear hK K0 hrow3 hk3 hv3
        refine wpAnyH_take (i := 9) (v := .pointer (some ⟨hb, 0, none⟩)) rfl (by kernel_rfl) (by kernel_rfl) (by kernel_rfl) (fun _ _ _ h => h) (Or.inl ⟨by rfl, fun w' hS => by go_simp⟩) hHeld ?_
        simp only [Act.put, List.getElem_toArray, List.getElem_cons_zero, List.getElem_cons_succ, List.setIfInBounds_toArray, List.set_cons_zero, List.set_cons_succ]
        refine wpAnyH_take (i := 10) (v := .pointer (some ⟨hb, 1, none⟩)) rfl (by kernel_rfl) (by kernel_rfl) (by kernel_rfl) (fun _ _ _ h => h) (Or.inl ⟨by rfl, fun w' hS => by go_simp⟩) hHeld ?_
        simp only [Act.put, List.getElem_toArray, List.getElem_cons_zero, List.getElem_cons_succ, List.setIfInBounds_toArray, List.set_cons_zero, List.set_cons_succ]
        have c4 : w4.cell? ⟨hb, 0, none⟩ = some (.slice (some ⟨g1, 0, none⟩) (E.length + 1) c1) := blk_cell HF.out.1.blk 0
        refine wpAnyH_ready (rs := [11]) (by kernel_rfl) (by simp) ?_
        refine AllReadyH.cons rfl (fun K0 hK => ?_) AllReadyH.nil
        go_simp
        try rw [hw4]
        refine hK.out _ _ c4 (fun hHeld => ?_)
        clear hK K0
        refine wpAnyH_done (by kernel_rfl) ?_ _
        clear hHeld q3 f3 hw4 p3 hnl c4
        go_wp2_with (fail)
        go_end0
        exact ⟨rfl, _, _, _, HF.out.1, HF.out.2.1, HF.out.2.2⟩
      · rename_i hne2
        exact absurd rfl hne2
    · skip
      go_simp
      refine hK.out _ _ (below_at (balloc (Below.refl _ _)) s2) (fun hHeld => ?_)
      clear hK K0
      have t3 := below_at (balloc (o := .cells #[.slice (some ⟨gy, 0, none⟩) x.n x.n] 25) (Below.refl _ _)) t2
      refine wpAnyH_ready (rs := [4]) (by kernel_rfl) (by simp) ?_
      refine AllReadyH.cons rfl (fun K0 hK => ?_) AllReadyH.nil
      go_simp
      refine hK.out _ _ (below_at (balloc (Below.refl _ _)) s2) (fun hHeld => ?_)
      clear hK K0
      refine wpAnyH_ready (rs := [8]) (by kernel_rfl) (by simp) ?_
      refine AllReadyH.cons rfl (fun K0 hK => ?_) AllReadyH.nil
      split
      · refine wp_iss_lies (w := w2) (.tmp 18) (.tmp 21) rfl B (.slice wa nK wc) K rfl HRk.out ⟨some ⟨gy, 0, none⟩, x.n, x.n⟩ rfl (by omega) HBz.out (by rfl) ?_
        intro g3 c3 w3 hrow3 hk3 hv3
        have p3 : w3.heap[hb]? = some (.cells #[.slice (some ⟨g1, 0, none⟩) (E.length + 1) c1, .slice wa nK wc, .slice none 0 0, vr] 55 (0, 0)) := hk3.obj Hb2.out Hnb.out
        have q3 : w3.cell? ⟨hb, 1, none⟩ = some (.slice wa nK wc) := blk_cell p3 1
        have f3 : w3.frozen? ⟨hb, 1, none⟩ = false := frozen_of_row w3 hb 1 _ _ p3
        obtain ⟨nl, hnl⟩ : ∃ nl, K.length + 1 = nl := ⟨_, rfl⟩
        obtain ⟨w4, hw4⟩ : ∃ w4, w3.setCell ⟨hb, 1, none⟩ (.slice (some ⟨g3, 0, none⟩) nl c3) = w4 := ⟨_, rfl⟩
        have HF : Hid (Hs w4 B hb (.slice (some ⟨g1, 0, none⟩) (E.length + 1) c1) (.slice (some ⟨g3, 0, none⟩) nl c3) vr (E ++ [x]) (K ++ [⟨some ⟨gy, 0, none⟩, x.n, x.n⟩]) (upC X E.length xs) ∧ Kept w w4 (fun j => j = hb ∨ vg.ownBlock = some j ∨ (Value.slice wa nK wc).ownBlock = some j) ∧ (∀ j, hown hb (.slice (some ⟨g1, 0, none⟩) (E.length + 1) c1) (.slice (some ⟨g3, 0, none⟩) nl c3) vr (E ++ [x]) (K ++ [⟨some ⟨gy, 0, none⟩, x.n, x.n⟩]) j → hown hb vg (.slice wa nK wc) vr E K j ∨ x.b = some j ∨ w.heap.size ≤ j)) := by
          refine keep_fin HH.out x _ xs Hx.out h16 Hnew.out HK1.out HG1.out Hl1.out Hb12.out Hyo.out (?_ : Kept w2 w4 _) ?_ ?_ ?_
          · rw [← hw4]
            exact (hk3.mono (fun j _ e => .inr e.symm)).step (kset (P := fun j => j = hb) _ _ _ _ rfl) (fun j e => .inl (.inl e))
          · rw [← hw4, ← hnl]
            exact (kset (P := fun j => j = hb) _ _ _ _ rfl).owns hrow3 (fun j hj e => by obtain ⟨c5, hc5⟩ := own_typeT hrow3 hj; exact ty_ne p3 hc5 (by decide) e.symm)
          · intro g hg
            simp only [Value.ownBlock, Option.some.injEq] at hg
            subst hg
            exact hv3
          · rw [← hw4]
            exact blk_set p3 rfl
        rw [hnl]
        refine hK.out _ _ (blk_cell p3 0) (fun hHeld => ?_)
        clear hK K0 hrow3 hk3 hv3
        refine wpAnyH_take (i := 9) (v := .pointer (some ⟨hb, 0, none⟩)) rfl (by kernel_rfl) (by kernel_rfl) (by kernel_rfl) (fun _ _ _ h => h) (Or.inl ⟨by rfl, fun w' hS => by go_simp⟩) hHeld ?_
        simp only [Act.put, List.getElem_toArray, List.getElem_cons_zero, List.getElem_cons_succ, List.setIfInBounds_toArray, List.set_cons_zero, List.set_cons_succ]
        refine wpAnyH_take (i := 10) (v := .pointer (some ⟨hb, 1, none⟩)) rfl (by kernel_rfl) (by kernel_rfl) (by kernel_rfl) (fun _ _ _ h => h) (Or.inl ⟨by rfl, fun w' hS => by go_simp⟩) hHeld ?_
        simp only [Act.put, List.getElem_toArray, List.getElem_cons_zero, List.getElem_cons_succ, List.setIfInBounds_toArray, List.set_cons_zero, List.set_cons_succ]
        have c4 : w4.cell? ⟨hb, 0, none⟩ = some (.slice (some ⟨g1, 0, none⟩) (E.length + 1) c1) := blk_cell HF.out.1.blk 0
        refine wpAnyH_ready (rs := [11]) (by kernel_rfl) (by simp) ?_
        refine AllReadyH.cons rfl (fun K0 hK => ?_) AllReadyH.nil
        go_simp
        try rw [hw4]
        refine hK.out _ _ c4 (fun hHeld => ?_)
        clear hK K0
        refine wpAnyH_done (by kernel_rfl) ?_ _
        clear hHeld q3 f3 hw4 p3 hnl c4
        go_wp2_with (fail)
        go_end0
        exact ⟨rfl, _, _, _, HF.out.1, HF.out.2.1, HF.out.2.2⟩
      · rename_i hne2
        exact absurd rfl hne2
end
end
end Go.Proofs.Ytfbollifegngjaa.Dt
