import Derived.Test.YtghihdenbdnnjaaLki
namespace Go.Proofs.Ytghihdenbdnnjaa.Ln
open Go.RowKit Mb
set_option linter.unusedVariables false
set_option maxRecDepth 100000
set_option linter.unusedSimpArgs false
section
variable {w w' W : World} {B win room : Nat} {S S' : St} {E E' : En} {M M' : Mx}
theorem pass_own {u : Nat} {j : Nat} (h : (S.pass u).own j) : S.own j := by
  rcases h with ⟨h1, h2⟩ | ⟨n, b, hb, e⟩
  · exact .inl ⟨h1, h2⟩
  · have hb' : (if n ≤ u then none else S.f n) = some b := hb
    by_cases e2 : n ≤ u
    · rw [if_pos e2] at hb'; cases hb'
    · rw [if_neg e2] at hb'; exact .inr ⟨n, b, hb', e⟩
theorem ack_fin {w2 w3 : World} {u : Nat} (h : E.Ok w B win room) (hb : Below w.heap.size w w2) (hu : u ≤ E.sent) (hp : PassO w2 w3 B E.o E.b 0 u E.cs) : ∃ E', Estep w w3 B win room E E' ∧ E'.pu = E.pu.acked u := by
  have h2 := h.still hb
  obtain ⟨cs', hblk, hsz, hr, hrest⟩ := hp.hd
  have hcs : cs' = ({ E with o := E.o.pass u } : En).cs := arr_upd hr hrest rfl (fun i hi => by rcases i with _ | _ | _ | _ | _ | _ | i <;> first | rfl | exact absurd rfl hi)
  subst hcs
  refine ⟨{ E with o := E.o.pass u }, ⟨rfl, ⟨hblk, h.lo, hp.ok, ?_, ?_, ?_, ?_, h.s62, ?_, ?_, h.iw, h.i1⟩, ?_, ?_⟩, ?_⟩
  · exact h2.ii.keep hp.kept fun j hj e => e.elim (fun e => h2.ne_i (by rw [← e]; exact hj)) (fun e => h.ap j (.inl e) hj)
  · exact fun j hj hj2 => h.ap j (pass_own hj) hj2
  · show max E.o.p u ≤ E.sent; have := h.s1; omega
  · show E.sent ≤ max E.o.p u + room; have := h.s2; omega
  · intro n hn1 hn2
    have hn1' : max E.o.p u < n := hn1
    show (if n ≤ u then none else E.o.f n).isSome = true
    rw [if_neg (by omega)]
    exact h.all n (by omega) hn2
  · intro n b hb2
    have hb' : (if n ≤ u then none else E.o.f n) = some b := hb2
    by_cases e2 : n ≤ u
    · rw [if_pos e2] at hb'; cases hb'
    · rw [if_neg e2] at hb'; exact h.top n b hb'
  · exact (Kept.ofBelow hb _).step hp.kept fun j hj => hj.elim (fun e => .inl (.inl e)) (fun e => .inl (.inr (.inl (.inl e))))
  · rintro j (rfl | hj | hj)
    · exact .inl (.inl rfl)
    · exact .inl (.inr (.inl (pass_own hj)))
    · exact .inl (.inr (.inr hj))
  · simp only [En.pu, Ep.acked, St.pass]
    congr 1
    funext n
    by_cases e : n ≤ u
    · simp [e]
    · simp [e]
set_option maxHeartbeats 400000 in
theorem acked_no (h : M.Ok w B) {q : Int} (hq : M.at q = none) (t : Tg) (u : Int) : Calls Try.prog 16 #[.pointer (some ⟨M.b, 0, none⟩), .int .i64 q, .agg #[.int .i64 t.e, .int .i64 t.l, .int .i64 t.i, .int .i64 t.c, .int .i64 u]] w fun e w' => e = .returned (.int .i64 41) ∧ Below w.heap.size w w' := by
  have HP : Hid (∀ w1, Below w.heap.size w w1 → Calls Try.prog 35 #[.pointer (some ⟨M.b, 0, none⟩), .int .i64 q] w1 fun e w' => e = .returned (.pointer none) ∧ w1 = w') := fun w1 hb => (show Calls _ _ _ _ _ from by have := peer_any (h.still hb) q; rw [hq] at this; exact this)
  generalize hW : w.alloc (.cells #[.int .i64 t.e, .int .i64 t.l, .int .i64 t.i, .int .i64 t.c, .int .i64 u] 57) = W
  have hbW : Below w.heap.size w W := by rw [← hW]; exact balloc (Below.refl _ _)
  have hblk : W.heap[w.heap.size]? = some (.cells #[.int .i64 t.e, .int .i64 t.l, .int .i64 t.i, .int .i64 t.c, .int .i64 u] 57 (0, 0)) := by rw [← hW]; exact heap_alloc_new _ _
  have a0 : W.cell? ⟨w.heap.size, 0, none⟩ = some (.int .i64 t.e) := blk_cell hblk 0
  have a1 : W.cell? ⟨w.heap.size, 1, none⟩ = some (.int .i64 t.l) := blk_cell hblk 1
  have a2 : W.cell? ⟨w.heap.size, 2, none⟩ = some (.int .i64 t.i) := blk_cell hblk 2
  have a3 : W.cell? ⟨w.heap.size, 3, none⟩ = some (.int .i64 t.c) := blk_cell hblk 3
  have a4 : W.cell? ⟨w.heap.size, 4, none⟩ = some (.int .i64 u) := blk_cell hblk 4
  have HPW := HP.out W hbW
  have HPh : Hid (Calls _ _ _ _ _) := HPW
  have HBW : Hid (Below w.heap.size w W) := hbW
  clear h hq HPW hblk hbW
  go_enter Try.func16, Try.ntmps16
  go_wp2_with (first | (go_at_call 35; refine HPh.out.mono ?_; rintro e w' ⟨rfl, rfl⟩) | fail)
  go_ret
  exact ⟨rfl, HBW.out⟩
set_option maxHeartbeats 400000 in
theorem acked_arg (h : M.Ok w B) {q : Int} (hq : M.at q = some E) (t : Tg) (u : Int) (hu : inR 0 4611686018427387904 u = false) : Calls Try.prog 16 #[.pointer (some ⟨M.b, 0, none⟩), .int .i64 q, .agg #[.int .i64 t.e, .int .i64 t.l, .int .i64 t.i, .int .i64 t.c, .int .i64 u]] w fun e w' => e = .returned (.int .i64 1) ∧ Below w.heap.size w w' := by
  have HP : Hid (∀ w1, Below w.heap.size w w1 → Calls Try.prog 35 #[.pointer (some ⟨M.b, 0, none⟩), .int .i64 q] w1 fun e w' => e = .returned (.pointer (some ⟨E.b, 0, none⟩)) ∧ w1 = w') := fun w1 hb => (show Calls _ _ _ _ _ from by have := peer_any (h.still hb) q; rw [hq] at this; exact this)
  generalize hW : w.alloc (.cells #[.int .i64 t.e, .int .i64 t.l, .int .i64 t.i, .int .i64 t.c, .int .i64 u] 57) = W
  have hbW : Below w.heap.size w W := by rw [← hW]; exact balloc (Below.refl _ _)
  have hblk : W.heap[w.heap.size]? = some (.cells #[.int .i64 t.e, .int .i64 t.l, .int .i64 t.i, .int .i64 t.c, .int .i64 u] 57 (0, 0)) := by rw [← hW]; exact heap_alloc_new _ _
  have a0 : W.cell? ⟨w.heap.size, 0, none⟩ = some (.int .i64 t.e) := blk_cell hblk 0
  have a1 : W.cell? ⟨w.heap.size, 1, none⟩ = some (.int .i64 t.l) := blk_cell hblk 1
  have a2 : W.cell? ⟨w.heap.size, 2, none⟩ = some (.int .i64 t.i) := blk_cell hblk 2
  have a3 : W.cell? ⟨w.heap.size, 3, none⟩ = some (.int .i64 t.c) := blk_cell hblk 3
  have a4 : W.cell? ⟨w.heap.size, 4, none⟩ = some (.int .i64 u) := blk_cell hblk 4
  have HPW := HP.out W hbW
  have HPh : Hid (Calls _ _ _ _ _) := HPW
  have HBW : Hid (Below w.heap.size w W) := hbW
  have HWi : Hid (Calls Try.prog 36 #[.int .i64 u, .int .i64 0, .int .i64 4611686018427387904] W fun e w' => e = .returned (.bool false) ∧ W = w') := (show Calls _ _ _ _ _ from by rw [← hu]; exact within_any u 0 4611686018427387904)
  clear h hq HPW hblk hbW hu
  go_enter Try.func16, Try.ntmps16
  go_wp2_with (first | (go_at_call 35; refine HPh.out.mono ?_; rintro e w' ⟨rfl, rfl⟩) | (go_at_call 36; refine HWi.out.mono ?_; rintro e w' ⟨rfl, rfl⟩) | fail)
  go_ret
  exact ⟨rfl, HBW.out⟩
set_option maxHeartbeats 1000000 in
theorem acked_tag (h : M.Ok w B) {q : Int} (hq : M.at q = some E) (t : Tg) (u : Int) (hu : inR 0 4611686018427387904 u = true) (ht : ¬ t = M.tag) : Calls Try.prog 16 #[.pointer (some ⟨M.b, 0, none⟩), .int .i64 q, .agg #[.int .i64 t.e, .int .i64 t.l, .int .i64 t.i, .int .i64 t.c, .int .i64 u]] w fun e w' => e = .returned (.int .i64 40) ∧ Below w.heap.size w w' := by
  have HP : Hid (∀ w1, Below w.heap.size w w1 → Calls Try.prog 35 #[.pointer (some ⟨M.b, 0, none⟩), .int .i64 q] w1 fun e w' => e = .returned (.pointer (some ⟨E.b, 0, none⟩)) ∧ w1 = w') := fun w1 hb => (show Calls _ _ _ _ _ from by have := peer_any (h.still hb) q; rw [hq] at this; exact this)
  generalize hW : w.alloc (.cells #[.int .i64 t.e, .int .i64 t.l, .int .i64 t.i, .int .i64 t.c, .int .i64 u] 57) = W
  have hbW : Below w.heap.size w W := by rw [← hW]; exact balloc (Below.refl _ _)
  have hblk : W.heap[w.heap.size]? = some (.cells #[.int .i64 t.e, .int .i64 t.l, .int .i64 t.i, .int .i64 t.c, .int .i64 u] 57 (0, 0)) := by rw [← hW]; exact heap_alloc_new _ _
  have a0 : W.cell? ⟨w.heap.size, 0, none⟩ = some (.int .i64 t.e) := blk_cell hblk 0
  have a1 : W.cell? ⟨w.heap.size, 1, none⟩ = some (.int .i64 t.l) := blk_cell hblk 1
  have a2 : W.cell? ⟨w.heap.size, 2, none⟩ = some (.int .i64 t.i) := blk_cell hblk 2
  have a3 : W.cell? ⟨w.heap.size, 3, none⟩ = some (.int .i64 t.c) := blk_cell hblk 3
  have a4 : W.cell? ⟨w.heap.size, 4, none⟩ = some (.int .i64 u) := blk_cell hblk 4
  have HPW := HP.out W hbW
  have HPh : Hid (Calls _ _ _ _ _) := HPW
  have HBW : Hid (Below w.heap.size w W) := hbW
  have HWi : Hid (Calls Try.prog 36 #[.int .i64 u, .int .i64 0, .int .i64 4611686018427387904] W fun e w' => e = .returned (.bool true) ∧ W = w') := (show Calls _ _ _ _ _ from by rw [← hu]; exact within_any u 0 4611686018427387904)
  have m3 : W.cell? ⟨M.b, 3, none⟩ = some (.int .i64 M.tag.e) := (h.still hbW).c 3 rfl
  have m4 : W.cell? ⟨M.b, 4, none⟩ = some (.int .i64 M.tag.l) := (h.still hbW).c 4 rfl
  have m5 : W.cell? ⟨M.b, 5, none⟩ = some (.int .i64 M.tag.i) := (h.still hbW).c 5 rfl
  have m6 : W.cell? ⟨M.b, 6, none⟩ = some (.int .i64 M.tag.c) := (h.still hbW).c 6 rfl
  have HQ : Hid (decide (t = M.tag) = false) := (show _ = _ from by rw [decide_eq_false_iff_not]; exact ht)
  clear h hq HPW hblk hbW hu ht
  go_enter Try.func16, Try.ntmps16
  go_wp2_with (first | (go_at_call 35; refine HPh.out.mono ?_; rintro e w' ⟨rfl, rfl⟩) | (go_at_call 36; refine HWi.out.mono ?_; rintro e w' ⟨rfl, rfl⟩) | fail)
  refine wp_region_held_drew (S := (fun w' => w'.cell? ⟨w.heap.size, 0, none⟩ = some (.int .i64 t.e) ∧ w'.cell? ⟨w.heap.size, 1, none⟩ = some (.int .i64 t.l) ∧ w'.cell? ⟨w.heap.size, 2, none⟩ = some (.int .i64 t.i) ∧ w'.cell? ⟨w.heap.size, 3, none⟩ = some (.int .i64 t.c) ∧ w'.cell? ⟨M.b, 3, none⟩ = some (.int .i64 M.tag.e) ∧ w'.cell? ⟨M.b, 4, none⟩ = some (.int .i64 M.tag.l) ∧ w'.cell? ⟨M.b, 5, none⟩ = some (.int .i64 M.tag.i) ∧ w'.cell? ⟨M.b, 6, none⟩ = some (.int .i64 M.tag.c))) (by kernel_rfl) ⟨below_at (Below.refl _ _).drew a0, below_at (Below.refl _ _).drew a1, below_at (Below.refl _ _).drew a2, below_at (Below.refl _ _).drew a3, below_at (Below.refl _ _).drew m3, below_at (Below.refl _ _).drew m4, below_at (Below.refl _ _).drew m5, below_at (Below.refl _ _).drew m6⟩ (fun hHeld => ?_)
  simp only [Act.put, List.size_toArray, List.length_cons, List.length_nil, Nat.zero_add]
  refine wpAnyH_take (i := 0) (v := .pointer (some ⟨w.heap.size, 0, none⟩)) rfl (by kernel_rfl) (by kernel_rfl) (by kernel_rfl) (fun _ _ _ h => h) (Or.inl ⟨by rfl, fun w' hS => by go_simp⟩) hHeld ?_
  simp only [Act.put, List.getElem_toArray, List.getElem_cons_zero, List.getElem_cons_succ, List.setIfInBounds_toArray, List.set_cons_zero, List.set_cons_succ]
  refine wpAnyH_take (i := 1) (v := .agg #[.int .i64 t.e, .int .i64 t.l, .int .i64 t.i, .int .i64 t.c]) rfl (by kernel_rfl) (by kernel_rfl) (by kernel_rfl) (fun _ _ _ h => h) (Or.inl ⟨by rfl, fun w' hS => by (obtain ⟨s0, s1, s2, s3, s4, s5, s6, s7⟩ := hS; go_simp)⟩) hHeld ?_
  simp only [Act.put, List.getElem_toArray, List.getElem_cons_zero, List.getElem_cons_succ, List.setIfInBounds_toArray, List.set_cons_zero, List.set_cons_succ]
  refine wpAnyH_take (i := 2) (v := .pointer (some ⟨M.b, 0, none⟩)) rfl (by kernel_rfl) (by kernel_rfl) (by kernel_rfl) (fun _ _ _ h => h) (Or.inl ⟨by rfl, fun w' hS => by go_simp⟩) hHeld ?_
  simp only [Act.put, List.getElem_toArray, List.getElem_cons_zero, List.getElem_cons_succ, List.setIfInBounds_toArray, List.set_cons_zero, List.set_cons_succ]
  refine wpAnyH_take (i := 3) (v := .pointer (some ⟨M.b, 0, none⟩)) rfl (by kernel_rfl) (by kernel_rfl) (by kernel_rfl) (fun _ _ _ h => h) (Or.inl ⟨by rfl, fun w' hS => by go_simp⟩) hHeld ?_
  simp only [Act.put, List.getElem_toArray, List.getElem_cons_zero, List.getElem_cons_succ, List.setIfInBounds_toArray, List.set_cons_zero, List.set_cons_succ]
  refine wpAnyH_take (i := 4) (v := .pointer (some ⟨M.b, 3, none⟩)) rfl (by kernel_rfl) (by kernel_rfl) (by kernel_rfl) (fun _ _ _ h => h) (Or.inl ⟨by rfl, fun w' hS => by go_simp⟩) hHeld ?_
  simp only [Act.put, List.getElem_toArray, List.getElem_cons_zero, List.getElem_cons_succ, List.setIfInBounds_toArray, List.set_cons_zero, List.set_cons_succ]
  refine wpAnyH_take (i := 5) (v := .agg #[.int .i64 M.tag.e, .int .i64 M.tag.l, .int .i64 M.tag.i, .int .i64 M.tag.c]) rfl (by kernel_rfl) (by kernel_rfl) (by kernel_rfl) (fun _ _ _ h => h) (Or.inl ⟨by rfl, fun w' hS => by (obtain ⟨s0, s1, s2, s3, s4, s5, s6, s7⟩ := hS; go_simp)⟩) hHeld ?_
  simp only [Act.put, List.getElem_toArray, List.getElem_cons_zero, List.getElem_cons_succ, List.setIfInBounds_toArray, List.set_cons_zero, List.set_cons_succ]
  refine wpAnyH_take (i := 6) (v := .bool (!(false))) rfl (by kernel_rfl) (by kernel_rfl) (by kernel_rfl) (fun _ _ _ h => h) (Or.inl ⟨by rfl, fun w' hS => run_neqop 24 (.tmp 18) (.tmp 22) 24 rfl _ _ (by rfl) (by rfl) guard_id _ (by have e1 := eq_tag (w := w') t M.tag; rw [HQ.out] at e1; exact e1)⟩) hHeld ?_
  simp only [Act.put, List.getElem_toArray, List.getElem_cons_zero, List.getElem_cons_succ, List.setIfInBounds_toArray, List.set_cons_zero, List.set_cons_succ]
  refine wpAnyH_done (by kernel_rfl) ?_ _
  clear hHeld
  go_wp2
  go_ret
  exact ⟨rfl, HBW.out.drew⟩
set_option maxHeartbeats 1000000 in
theorem acked_far (h : M.Ok w B) {q : Int} (hq : M.at q = some E) (t : Tg) {u : Nat} (hu : u ≤ 4611686018427387904) (ht : t = M.tag) (hf : E.o.p + min M.win (E.sent - E.o.p) < u) : Calls Try.prog 16 #[.pointer (some ⟨M.b, 0, none⟩), .int .i64 q, .agg #[.int .i64 t.e, .int .i64 t.l, .int .i64 t.i, .int .i64 t.c, .int .i64 (u : Int)]] w fun e w' => e = .returned (.int .i64 43) ∧ Below w.heap.size w w' := by
  have HP : Hid (∀ w1, Below w.heap.size w w1 → Calls Try.prog 35 #[.pointer (some ⟨M.b, 0, none⟩), .int .i64 q] w1 fun e w' => e = .returned (.pointer (some ⟨E.b, 0, none⟩)) ∧ w1 = w') := fun w1 hb => (show Calls _ _ _ _ _ from by have := peer_any (h.still hb) q; rw [hq] at this; exact this)
  obtain ⟨k, rfl, hk, he⟩ := at_es hq
  have hE := h.el k E he
  generalize hW : w.alloc (.cells #[.int .i64 t.e, .int .i64 t.l, .int .i64 t.i, .int .i64 t.c, .int .i64 (u : Int)] 57) = W
  have hbW : Below w.heap.size w W := by rw [← hW]; exact balloc (Below.refl _ _)
  have hblk : W.heap[w.heap.size]? = some (.cells #[.int .i64 t.e, .int .i64 t.l, .int .i64 t.i, .int .i64 t.c, .int .i64 (u : Int)] 57 (0, 0)) := by rw [← hW]; exact heap_alloc_new _ _
  have a0 : W.cell? ⟨w.heap.size, 0, none⟩ = some (.int .i64 t.e) := blk_cell hblk 0
  have a1 : W.cell? ⟨w.heap.size, 1, none⟩ = some (.int .i64 t.l) := blk_cell hblk 1
  have a2 : W.cell? ⟨w.heap.size, 2, none⟩ = some (.int .i64 t.i) := blk_cell hblk 2
  have a3 : W.cell? ⟨w.heap.size, 3, none⟩ = some (.int .i64 t.c) := blk_cell hblk 3
  have a4 : W.cell? ⟨w.heap.size, 4, none⟩ = some (.int .i64 (u : Int)) := blk_cell hblk 4
  have HPW := HP.out W hbW
  have HPh : Hid (Calls _ _ _ _ _) := HPW
  have HBW : Hid (Below w.heap.size w W) := hbW
  have HWi : Hid (Calls Try.prog 36 #[.int .i64 (u : Int), .int .i64 0, .int .i64 4611686018427387904] W fun e w' => e = .returned (.bool true) ∧ W = w') := (show Calls _ _ _ _ _ from by have := within_any (w := W) (u : Int) 0 4611686018427387904; rw [inR_t (by omega) (by omega)] at this; exact this)
  have m3 : W.cell? ⟨M.b, 3, none⟩ = some (.int .i64 M.tag.e) := (h.still hbW).c 3 rfl
  have m4 : W.cell? ⟨M.b, 4, none⟩ = some (.int .i64 M.tag.l) := (h.still hbW).c 4 rfl
  have m5 : W.cell? ⟨M.b, 5, none⟩ = some (.int .i64 M.tag.i) := (h.still hbW).c 5 rfl
  have m6 : W.cell? ⟨M.b, 6, none⟩ = some (.int .i64 M.tag.c) := (h.still hbW).c 6 rfl
  have HQ : Hid (decide (t = M.tag) = true) := (show _ = _ from by rw [decide_eq_true_eq]; exact ht)
  obtain ⟨mn, hmn⟩ : ∃ mn : Int, (if (E.sent : Int) - (E.o.p : Int) < (M.win : Int) then (E.sent : Int) - (E.o.p : Int) else (M.win : Int)) = mn := ⟨_, rfl⟩
  have Hmn : Hid ((if (E.sent : Int) - (E.o.p : Int) < (M.win : Int) then (E.sent : Int) - (E.o.p : Int) else (M.win : Int)) = mn) := hmn
  have hs1 := hE.s1
  have hs2 := hE.s2
  have hs6 := hE.s62
  have hw1 := h.w1
  have hmn2 : 0 ≤ mn ∧ mn ≤ 20000 := by rw [← hmn]; split <;> omega
  have hmn3 : (E.o.p : Int) + mn < (u : Int) := by rw [← hmn]; split <;> omega
  have HE : Hid (E.Ok w B M.win M.room) := hE
  have HWt : Hid (∀ w1, Below W.drew.heap.size W.drew w1 → Calls Try.prog 43 #[.pointer (some ⟨E.b, 0, none⟩)] w1 fun e w' => e = .returned (.int .i64 ((E.sent : Int) - (E.o.p : Int))) ∧ Below w1.heap.size w1 w') := fun w1 hb => waiting_any (((hE.still hbW).still (Below.refl _ _).drew).still hb)
  have b4 := below_at (Below.refl _ _).drew a4
  have b0 : W.drew.cell? ⟨E.b, 0, none⟩ = some (.int .i64 (E.o.p : Int)) := ((hE.still hbW).still (Below.refl _ _).drew).c 0 rfl
  have b1 : W.drew.cell? ⟨M.b, 1, none⟩ = some (.int .i64 (M.win : Int)) := ((h.still hbW).still (Below.refl _ _).drew).c 1 rfl
  have hEW := (hE.still hbW)
  have HEW : Hid (E.Ok W B M.win M.room) := hEW
  clear h hq HPW hblk hbW ht hE hmn hEW
  go_enter Try.func16, Try.ntmps16
  go_wp2_with (first | (go_at_call 35; refine HPh.out.mono ?_; rintro e w' ⟨rfl, rfl⟩) | (go_at_call 36; refine HWi.out.mono ?_; rintro e w' ⟨rfl, rfl⟩) | fail)
  refine wp_region_held_drew (S := (fun w' => w'.cell? ⟨w.heap.size, 0, none⟩ = some (.int .i64 t.e) ∧ w'.cell? ⟨w.heap.size, 1, none⟩ = some (.int .i64 t.l) ∧ w'.cell? ⟨w.heap.size, 2, none⟩ = some (.int .i64 t.i) ∧ w'.cell? ⟨w.heap.size, 3, none⟩ = some (.int .i64 t.c) ∧ w'.cell? ⟨M.b, 3, none⟩ = some (.int .i64 M.tag.e) ∧ w'.cell? ⟨M.b, 4, none⟩ = some (.int .i64 M.tag.l) ∧ w'.cell? ⟨M.b, 5, none⟩ = some (.int .i64 M.tag.i) ∧ w'.cell? ⟨M.b, 6, none⟩ = some (.int .i64 M.tag.c))) (by kernel_rfl) ⟨below_at (Below.refl _ _).drew a0, below_at (Below.refl _ _).drew a1, below_at (Below.refl _ _).drew a2, below_at (Below.refl _ _).drew a3, below_at (Below.refl _ _).drew m3, below_at (Below.refl _ _).drew m4, below_at (Below.refl _ _).drew m5, below_at (Below.refl _ _).drew m6⟩ (fun hHeld => ?_)
  simp only [Act.put, List.size_toArray, List.length_cons, List.length_nil, Nat.zero_add]
  refine wpAnyH_take (i := 0) (v := .pointer (some ⟨w.heap.size, 0, none⟩)) rfl (by kernel_rfl) (by kernel_rfl) (by kernel_rfl) (fun _ _ _ h => h) (Or.inl ⟨by rfl, fun w' hS => by go_simp⟩) hHeld ?_
  simp only [Act.put, List.getElem_toArray, List.getElem_cons_zero, List.getElem_cons_succ, List.setIfInBounds_toArray, List.set_cons_zero, List.set_cons_succ]
  refine wpAnyH_take (i := 1) (v := .agg #[.int .i64 t.e, .int .i64 t.l, .int .i64 t.i, .int .i64 t.c]) rfl (by kernel_rfl) (by kernel_rfl) (by kernel_rfl) (fun _ _ _ h => h) (Or.inl ⟨by rfl, fun w' hS => by (obtain ⟨s0, s1, s2, s3, s4, s5, s6, s7⟩ := hS; go_simp)⟩) hHeld ?_
  simp only [Act.put, List.getElem_toArray, List.getElem_cons_zero, List.getElem_cons_succ, List.setIfInBounds_toArray, List.set_cons_zero, List.set_cons_succ]
  refine wpAnyH_take (i := 2) (v := .pointer (some ⟨M.b, 0, none⟩)) rfl (by kernel_rfl) (by kernel_rfl) (by kernel_rfl) (fun _ _ _ h => h) (Or.inl ⟨by rfl, fun w' hS => by go_simp⟩) hHeld ?_
  simp only [Act.put, List.getElem_toArray, List.getElem_cons_zero, List.getElem_cons_succ, List.setIfInBounds_toArray, List.set_cons_zero, List.set_cons_succ]
  refine wpAnyH_take (i := 3) (v := .pointer (some ⟨M.b, 0, none⟩)) rfl (by kernel_rfl) (by kernel_rfl) (by kernel_rfl) (fun _ _ _ h => h) (Or.inl ⟨by rfl, fun w' hS => by go_simp⟩) hHeld ?_
  simp only [Act.put, List.getElem_toArray, List.getElem_cons_zero, List.getElem_cons_succ, List.setIfInBounds_toArray, List.set_cons_zero, List.set_cons_succ]
  refine wpAnyH_take (i := 4) (v := .pointer (some ⟨M.b, 3, none⟩)) rfl (by kernel_rfl) (by kernel_rfl) (by kernel_rfl) (fun _ _ _ h => h) (Or.inl ⟨by rfl, fun w' hS => by go_simp⟩) hHeld ?_
  simp only [Act.put, List.getElem_toArray, List.getElem_cons_zero, List.getElem_cons_succ, List.setIfInBounds_toArray, List.set_cons_zero, List.set_cons_succ]
  refine wpAnyH_take (i := 5) (v := .agg #[.int .i64 M.tag.e, .int .i64 M.tag.l, .int .i64 M.tag.i, .int .i64 M.tag.c]) rfl (by kernel_rfl) (by kernel_rfl) (by kernel_rfl) (fun _ _ _ h => h) (Or.inl ⟨by rfl, fun w' hS => by (obtain ⟨s0, s1, s2, s3, s4, s5, s6, s7⟩ := hS; go_simp)⟩) hHeld ?_
  simp only [Act.put, List.getElem_toArray, List.getElem_cons_zero, List.getElem_cons_succ, List.setIfInBounds_toArray, List.set_cons_zero, List.set_cons_succ]
  refine wpAnyH_take (i := 6) (v := .bool (!(true))) rfl (by kernel_rfl) (by kernel_rfl) (by kernel_rfl) (fun _ _ _ h => h) (Or.inl ⟨by rfl, fun w' hS => run_neqop 24 (.tmp 18) (.tmp 22) 24 rfl _ _ (by rfl) (by rfl) guard_id _ (by have e1 := eq_tag (w := w') t M.tag; rw [HQ.out] at e1; exact e1)⟩) hHeld ?_
  simp only [Act.put, List.getElem_toArray, List.getElem_cons_zero, List.getElem_cons_succ, List.setIfInBounds_toArray, List.set_cons_zero, List.set_cons_succ]
  refine wpAnyH_done (by kernel_rfl) ?_ _
  clear hHeld
  go_wp2
  refine wp_region_held_drew (S := (fun w' => w'.cell? ⟨w.heap.size, 4, none⟩ = some (.int .i64 (u : Int)) ∧ w'.cell? ⟨E.b, 0, none⟩ = some (.int .i64 (E.o.p : Int)) ∧ w'.cell? ⟨M.b, 1, none⟩ = some (.int .i64 (M.win : Int)))) (by kernel_rfl) ⟨below_at (Below.refl _ _).drew b4, below_at (Below.refl _ _).drew b0, below_at (Below.refl _ _).drew b1⟩ (fun hHeld => ?_)
  simp only [Act.put, List.size_toArray, List.length_cons, List.length_nil, Nat.zero_add]
  refine wpAnyH_take (i := 0) (v := .pointer (some ⟨w.heap.size, 4, none⟩)) rfl (by kernel_rfl) (by kernel_rfl) (by kernel_rfl) (fun _ _ _ h => h) (Or.inl ⟨by rfl, fun w' hS => by go_simp⟩) hHeld ?_
  simp only [Act.put, List.getElem_toArray, List.getElem_cons_zero, List.getElem_cons_succ, List.setIfInBounds_toArray, List.set_cons_zero, List.set_cons_succ]
  refine wpAnyH_take (i := 1) (v := .int .i64 (u : Int)) rfl (by kernel_rfl) (by kernel_rfl) (by kernel_rfl) (fun _ _ _ h => h) (Or.inl ⟨by rfl, fun w' hS => by (obtain ⟨s0, s1, s2⟩ := hS; go_simp)⟩) hHeld ?_
  simp only [Act.put, List.getElem_toArray, List.getElem_cons_zero, List.getElem_cons_succ, List.setIfInBounds_toArray, List.set_cons_zero, List.set_cons_succ]
  refine wpAnyH_take (i := 2) (v := .pointer (some ⟨E.b, 0, none⟩)) rfl (by kernel_rfl) (by kernel_rfl) (by kernel_rfl) (fun _ _ _ h => h) (Or.inl ⟨by rfl, fun w' hS => by go_simp⟩) hHeld ?_
  simp only [Act.put, List.getElem_toArray, List.getElem_cons_zero, List.getElem_cons_succ, List.setIfInBounds_toArray, List.set_cons_zero, List.set_cons_succ]
  refine wpAnyH_take (i := 3) (v := .pointer (some ⟨E.b, 0, none⟩)) rfl (by kernel_rfl) (by kernel_rfl) (by kernel_rfl) (fun _ _ _ h => h) (Or.inl ⟨by rfl, fun w' hS => by go_simp⟩) hHeld ?_
  simp only [Act.put, List.getElem_toArray, List.getElem_cons_zero, List.getElem_cons_succ, List.setIfInBounds_toArray, List.set_cons_zero, List.set_cons_succ]
  refine wpAnyH_take (i := 4) (v := .pointer (some ⟨E.b, 0, none⟩)) rfl (by kernel_rfl) (by kernel_rfl) (by kernel_rfl) (fun _ _ _ h => h) (Or.inl ⟨by rfl, fun w' hS => by go_simp⟩) hHeld ?_
  simp only [Act.put, List.getElem_toArray, List.getElem_cons_zero, List.getElem_cons_succ, List.setIfInBounds_toArray, List.set_cons_zero, List.set_cons_succ]
  refine wpAnyH_take (i := 5) (v := .pointer (some ⟨E.b, 0, none⟩)) rfl (by kernel_rfl) (by kernel_rfl) (by kernel_rfl) (fun _ _ _ h => h) (Or.inl ⟨by rfl, fun w' hS => by go_simp⟩) hHeld ?_
  simp only [Act.put, List.getElem_toArray, List.getElem_cons_zero, List.getElem_cons_succ, List.setIfInBounds_toArray, List.set_cons_zero, List.set_cons_succ]
  refine wpAnyH_take (i := 6) (v := .int .i64 (E.o.p : Int)) rfl (by kernel_rfl) (by kernel_rfl) (by kernel_rfl) (fun _ _ _ h => h) (Or.inl ⟨by rfl, fun w' hS => by (obtain ⟨s0, s1, s2⟩ := hS; go_simp)⟩) hHeld ?_
  simp only [Act.put, List.getElem_toArray, List.getElem_cons_zero, List.getElem_cons_succ, List.setIfInBounds_toArray, List.set_cons_zero, List.set_cons_succ]
  refine wpAnyH_take (i := 7) (v := .pointer (some ⟨M.b, 0, none⟩)) rfl (by kernel_rfl) (by kernel_rfl) (by kernel_rfl) (fun _ _ _ h => h) (Or.inl ⟨by rfl, fun w' hS => by go_simp⟩) hHeld ?_
  simp only [Act.put, List.getElem_toArray, List.getElem_cons_zero, List.getElem_cons_succ, List.setIfInBounds_toArray, List.set_cons_zero, List.set_cons_succ]
  refine wpAnyH_take (i := 8) (v := .pointer (some ⟨M.b, 0, none⟩)) rfl (by kernel_rfl) (by kernel_rfl) (by kernel_rfl) (fun _ _ _ h => h) (Or.inl ⟨by rfl, fun w' hS => by go_simp⟩) hHeld ?_
  simp only [Act.put, List.getElem_toArray, List.getElem_cons_zero, List.getElem_cons_succ, List.setIfInBounds_toArray, List.set_cons_zero, List.set_cons_succ]
  refine wpAnyH_take (i := 9) (v := .pointer (some ⟨M.b, 1, none⟩)) rfl (by kernel_rfl) (by kernel_rfl) (by kernel_rfl) (fun _ _ _ h => h) (Or.inl ⟨by rfl, fun w' hS => by go_simp⟩) hHeld ?_
  simp only [Act.put, List.getElem_toArray, List.getElem_cons_zero, List.getElem_cons_succ, List.setIfInBounds_toArray, List.set_cons_zero, List.set_cons_succ]
  refine wpAnyH_take (i := 10) (v := .int .i64 (M.win : Int)) rfl (by kernel_rfl) (by kernel_rfl) (by kernel_rfl) (fun _ _ _ h => h) (Or.inl ⟨by rfl, fun w' hS => by (obtain ⟨s0, s1, s2⟩ := hS; go_simp)⟩) hHeld ?_
  simp only [Act.put, List.getElem_toArray, List.getElem_cons_zero, List.getElem_cons_succ, List.setIfInBounds_toArray, List.set_cons_zero, List.set_cons_succ]
  refine wpAnyH_take (i := 11) (v := .pointer (some ⟨E.b, 0, none⟩)) rfl (by kernel_rfl) (by kernel_rfl) (by kernel_rfl) (fun _ _ _ h => h) (Or.inl ⟨by rfl, fun w' hS => by go_simp⟩) hHeld ?_
  simp only [Act.put, List.getElem_toArray, List.getElem_cons_zero, List.getElem_cons_succ, List.setIfInBounds_toArray, List.set_cons_zero, List.set_cons_succ]
  refine wpAnyH_ready (rs := [12]) (by kernel_rfl) (by simp) ?_
  refine AllReadyH.cons rfl (fun K hK => ?_) AllReadyH.nil
  go_simp
  refine (HWt.out _ (Below.refl _ _).drew).mono ?_
  rintro e w2 ⟨rfl, hb2⟩
  refine hK.out _ _ ⟨below_at hb2 (below_at (Below.refl _ _).drew b4), below_at hb2 (below_at (Below.refl _ _).drew b0), below_at hb2 (below_at (Below.refl _ _).drew b1)⟩ (fun hHeld => ?_)
  clear hK K
  refine wpAnyH_take (i := 13) (v := .int .i64 mn) rfl (by kernel_rfl) (by kernel_rfl) (by kernel_rfl) (fun _ _ _ h => h) (Or.inl ⟨by rfl, fun w' hS => by (go_simp; exact Hmn.out)⟩) hHeld ?_
  simp only [Act.put, List.getElem_toArray, List.getElem_cons_zero, List.getElem_cons_succ, List.setIfInBounds_toArray, List.set_cons_zero, List.set_cons_succ]
  refine wpAnyH_take (i := 14) (v := .int .i64 ((E.o.p : Int) + mn)) rfl (by kernel_rfl) (by kernel_rfl) (by kernel_rfl) (fun _ _ _ h => h) (Or.inl ⟨by rfl, fun w' hS => by (go_simp; exact wrap_id (by omega) (by omega))⟩) hHeld ?_
  simp only [Act.put, List.getElem_toArray, List.getElem_cons_zero, List.getElem_cons_succ, List.setIfInBounds_toArray, List.set_cons_zero, List.set_cons_succ]
  refine wpAnyH_take (i := 15) (v := .bool true) rfl (by kernel_rfl) (by kernel_rfl) (by kernel_rfl) (fun _ _ _ h => h) (Or.inl ⟨by rfl, fun w' hS => by (go_simp <;> omega)⟩) hHeld ?_
  simp only [Act.put, List.getElem_toArray, List.getElem_cons_zero, List.getElem_cons_succ, List.setIfInBounds_toArray, List.set_cons_zero, List.set_cons_succ]
  refine wpAnyH_done (by kernel_rfl) ?_ _
  clear hHeld
  go_wp2
  go_ret
  exact ⟨rfl, bstep (bstep HBW.out ((Below.refl _ _).drew.drew)) hb2⟩
structure AckO (w w' : World) (B : Nat) (M : Mx) (E : En) (u : Nat) : Prop where
  out : ∃ E', Estep w w' B M.win M.room E E' ∧ E'.pu = E.pu.acked u
set_option maxHeartbeats 1000000 in
theorem acked_ok (h : M.Ok w B) {q : Int} (hq : M.at q = some E) (t : Tg) {u : Nat} (hu : u ≤ 4611686018427387904) (ht : t = M.tag) (hf : u ≤ E.o.p + min M.win (E.sent - E.o.p)) : Calls Try.prog 16 #[.pointer (some ⟨M.b, 0, none⟩), .int .i64 q, .agg #[.int .i64 t.e, .int .i64 t.l, .int .i64 t.i, .int .i64 t.c, .int .i64 (u : Int)]] w fun e w' => e = .returned (.int .i64 0) ∧ AckO w w' B M E u := by
  have HP : Hid (∀ w1, Below w.heap.size w w1 → Calls Try.prog 35 #[.pointer (some ⟨M.b, 0, none⟩), .int .i64 q] w1 fun e w' => e = .returned (.pointer (some ⟨E.b, 0, none⟩)) ∧ w1 = w') := fun w1 hb => (show Calls _ _ _ _ _ from by have := peer_any (h.still hb) q; rw [hq] at this; exact this)
  obtain ⟨k, rfl, hk, he⟩ := at_es hq
  have hE := h.el k E he
  generalize hW : w.alloc (.cells #[.int .i64 t.e, .int .i64 t.l, .int .i64 t.i, .int .i64 t.c, .int .i64 (u : Int)] 57) = W
  have hbW : Below w.heap.size w W := by rw [← hW]; exact balloc (Below.refl _ _)
  have hblk : W.heap[w.heap.size]? = some (.cells #[.int .i64 t.e, .int .i64 t.l, .int .i64 t.i, .int .i64 t.c, .int .i64 (u : Int)] 57 (0, 0)) := by rw [← hW]; exact heap_alloc_new _ _
  have a0 : W.cell? ⟨w.heap.size, 0, none⟩ = some (.int .i64 t.e) := blk_cell hblk 0
  have a1 : W.cell? ⟨w.heap.size, 1, none⟩ = some (.int .i64 t.l) := blk_cell hblk 1
  have a2 : W.cell? ⟨w.heap.size, 2, none⟩ = some (.int .i64 t.i) := blk_cell hblk 2
  have a3 : W.cell? ⟨w.heap.size, 3, none⟩ = some (.int .i64 t.c) := blk_cell hblk 3
  have a4 : W.cell? ⟨w.heap.size, 4, none⟩ = some (.int .i64 (u : Int)) := blk_cell hblk 4
  have HPW := HP.out W hbW
  have HPh : Hid (Calls _ _ _ _ _) := HPW
  have HBW : Hid (Below w.heap.size w W) := hbW
  have HWi : Hid (Calls Try.prog 36 #[.int .i64 (u : Int), .int .i64 0, .int .i64 4611686018427387904] W fun e w' => e = .returned (.bool true) ∧ W = w') := (show Calls _ _ _ _ _ from by have := within_any (w := W) (u : Int) 0 4611686018427387904; rw [inR_t (by omega) (by omega)] at this; exact this)
  have m3 : W.cell? ⟨M.b, 3, none⟩ = some (.int .i64 M.tag.e) := (h.still hbW).c 3 rfl
  have m4 : W.cell? ⟨M.b, 4, none⟩ = some (.int .i64 M.tag.l) := (h.still hbW).c 4 rfl
  have m5 : W.cell? ⟨M.b, 5, none⟩ = some (.int .i64 M.tag.i) := (h.still hbW).c 5 rfl
  have m6 : W.cell? ⟨M.b, 6, none⟩ = some (.int .i64 M.tag.c) := (h.still hbW).c 6 rfl
  have HQ : Hid (decide (t = M.tag) = true) := (show _ = _ from by rw [decide_eq_true_eq]; exact ht)
  obtain ⟨mn, hmn⟩ : ∃ mn : Int, (if (E.sent : Int) - (E.o.p : Int) < (M.win : Int) then (E.sent : Int) - (E.o.p : Int) else (M.win : Int)) = mn := ⟨_, rfl⟩
  have Hmn : Hid ((if (E.sent : Int) - (E.o.p : Int) < (M.win : Int) then (E.sent : Int) - (E.o.p : Int) else (M.win : Int)) = mn) := hmn
  have hs1 := hE.s1
  have hs2 := hE.s2
  have hs6 := hE.s62
  have hw1 := h.w1
  have hmn2 : 0 ≤ mn ∧ mn ≤ 20000 := by rw [← hmn]; split <;> omega
  have hmn3 : (u : Int) ≤ (E.o.p : Int) + mn := by rw [← hmn]; split <;> omega
  have HE : Hid (E.Ok w B M.win M.room) := hE
  have HWt : Hid (∀ w1, Below W.drew.heap.size W.drew w1 → Calls Try.prog 43 #[.pointer (some ⟨E.b, 0, none⟩)] w1 fun e w' => e = .returned (.int .i64 ((E.sent : Int) - (E.o.p : Int))) ∧ Below w1.heap.size w1 w') := fun w1 hb => waiting_any (((hE.still hbW).still (Below.refl _ _).drew).still hb)
  have b4 := below_at (Below.refl _ _).drew a4
  have b0 : W.drew.cell? ⟨E.b, 0, none⟩ = some (.int .i64 (E.o.p : Int)) := ((hE.still hbW).still (Below.refl _ _).drew).c 0 rfl
  have b1 : W.drew.cell? ⟨M.b, 1, none⟩ = some (.int .i64 (M.win : Int)) := ((h.still hbW).still (Below.refl _ _).drew).c 1 rfl
  have hEW := (hE.still hbW)
  have HEW : Hid (E.Ok W B M.win M.room) := hEW
  clear h hq HPW hblk hbW ht hE hmn hEW
  go_enter Try.func16, Try.ntmps16
  go_wp2_with (first | (go_at_call 35; refine HPh.out.mono ?_; rintro e w' ⟨rfl, rfl⟩) | (go_at_call 36; refine HWi.out.mono ?_; rintro e w' ⟨rfl, rfl⟩) | fail)
  refine wp_region_held_drew (S := (fun w' => w'.cell? ⟨w.heap.size, 0, none⟩ = some (.int .i64 t.e) ∧ w'.cell? ⟨w.heap.size, 1, none⟩ = some (.int .i64 t.l) ∧ w'.cell? ⟨w.heap.size, 2, none⟩ = some (.int .i64 t.i) ∧ w'.cell? ⟨w.heap.size, 3, none⟩ = some (.int .i64 t.c) ∧ w'.cell? ⟨M.b, 3, none⟩ = some (.int .i64 M.tag.e) ∧ w'.cell? ⟨M.b, 4, none⟩ = some (.int .i64 M.tag.l) ∧ w'.cell? ⟨M.b, 5, none⟩ = some (.int .i64 M.tag.i) ∧ w'.cell? ⟨M.b, 6, none⟩ = some (.int .i64 M.tag.c))) (by kernel_rfl) ⟨below_at (Below.refl _ _).drew a0, below_at (Below.refl _ _).drew a1, below_at (Below.refl _ _).drew a2, below_at (Below.refl _ _).drew a3, below_at (Below.refl _ _).drew m3, below_at (Below.refl _ _).drew m4, below_at (Below.refl _ _).drew m5, below_at (Below.refl _ _).drew m6⟩ (fun hHeld => ?_)
  simp only [Act.put, List.size_toArray, List.length_cons, List.length_nil, Nat.zero_add]
  refine wpAnyH_take (i := 0) (v := .pointer (some ⟨w.heap.size, 0, none⟩)) rfl (by kernel_rfl) (by kernel_rfl) (by kernel_rfl) (fun _ _ _ h => h) (Or.inl ⟨by rfl, fun w' hS => by go_simp⟩) hHeld ?_
  simp only [Act.put, List.getElem_toArray, List.getElem_cons_zero, List.getElem_cons_succ, List.setIfInBounds_toArray, List.set_cons_zero, List.set_cons_succ]
  refine wpAnyH_take (i := 1) (v := .agg #[.int .i64 t.e, .int .i64 t.l, .int .i64 t.i, .int .i64 t.c]) rfl (by kernel_rfl) (by kernel_rfl) (by kernel_rfl) (fun _ _ _ h => h) (Or.inl ⟨by rfl, fun w' hS => by (obtain ⟨s0, s1, s2, s3, s4, s5, s6, s7⟩ := hS; go_simp)⟩) hHeld ?_
  simp only [Act.put, List.getElem_toArray, List.getElem_cons_zero, List.getElem_cons_succ, List.setIfInBounds_toArray, List.set_cons_zero, List.set_cons_succ]
  refine wpAnyH_take (i := 2) (v := .pointer (some ⟨M.b, 0, none⟩)) rfl (by kernel_rfl) (by kernel_rfl) (by kernel_rfl) (fun _ _ _ h => h) (Or.inl ⟨by rfl, fun w' hS => by go_simp⟩) hHeld ?_
  simp only [Act.put, List.getElem_toArray, List.getElem_cons_zero, List.getElem_cons_succ, List.setIfInBounds_toArray, List.set_cons_zero, List.set_cons_succ]
  refine wpAnyH_take (i := 3) (v := .pointer (some ⟨M.b, 0, none⟩)) rfl (by kernel_rfl) (by kernel_rfl) (by kernel_rfl) (fun _ _ _ h => h) (Or.inl ⟨by rfl, fun w' hS => by go_simp⟩) hHeld ?_
  simp only [Act.put, List.getElem_toArray, List.getElem_cons_zero, List.getElem_cons_succ, List.setIfInBounds_toArray, List.set_cons_zero, List.set_cons_succ]
  refine wpAnyH_take (i := 4) (v := .pointer (some ⟨M.b, 3, none⟩)) rfl (by kernel_rfl) (by kernel_rfl) (by kernel_rfl) (fun _ _ _ h => h) (Or.inl ⟨by rfl, fun w' hS => by go_simp⟩) hHeld ?_
  simp only [Act.put, List.getElem_toArray, List.getElem_cons_zero, List.getElem_cons_succ, List.setIfInBounds_toArray, List.set_cons_zero, List.set_cons_succ]
  refine wpAnyH_take (i := 5) (v := .agg #[.int .i64 M.tag.e, .int .i64 M.tag.l, .int .i64 M.tag.i, .int .i64 M.tag.c]) rfl (by kernel_rfl) (by kernel_rfl) (by kernel_rfl) (fun _ _ _ h => h) (Or.inl ⟨by rfl, fun w' hS => by (obtain ⟨s0, s1, s2, s3, s4, s5, s6, s7⟩ := hS; go_simp)⟩) hHeld ?_
  simp only [Act.put, List.getElem_toArray, List.getElem_cons_zero, List.getElem_cons_succ, List.setIfInBounds_toArray, List.set_cons_zero, List.set_cons_succ]
  refine wpAnyH_take (i := 6) (v := .bool (!(true))) rfl (by kernel_rfl) (by kernel_rfl) (by kernel_rfl) (fun _ _ _ h => h) (Or.inl ⟨by rfl, fun w' hS => run_neqop 24 (.tmp 18) (.tmp 22) 24 rfl _ _ (by rfl) (by rfl) guard_id _ (by have e1 := eq_tag (w := w') t M.tag; rw [HQ.out] at e1; exact e1)⟩) hHeld ?_
  simp only [Act.put, List.getElem_toArray, List.getElem_cons_zero, List.getElem_cons_succ, List.setIfInBounds_toArray, List.set_cons_zero, List.set_cons_succ]
  refine wpAnyH_done (by kernel_rfl) ?_ _
  clear hHeld
  go_wp2
  refine wp_region_held_drew (S := (fun w' => w'.cell? ⟨w.heap.size, 4, none⟩ = some (.int .i64 (u : Int)) ∧ w'.cell? ⟨E.b, 0, none⟩ = some (.int .i64 (E.o.p : Int)) ∧ w'.cell? ⟨M.b, 1, none⟩ = some (.int .i64 (M.win : Int)))) (by kernel_rfl) ⟨below_at (Below.refl _ _).drew b4, below_at (Below.refl _ _).drew b0, below_at (Below.refl _ _).drew b1⟩ (fun hHeld => ?_)
  simp only [Act.put, List.size_toArray, List.length_cons, List.length_nil, Nat.zero_add]
  refine wpAnyH_take (i := 0) (v := .pointer (some ⟨w.heap.size, 4, none⟩)) rfl (by kernel_rfl) (by kernel_rfl) (by kernel_rfl) (fun _ _ _ h => h) (Or.inl ⟨by rfl, fun w' hS => by go_simp⟩) hHeld ?_
  simp only [Act.put, List.getElem_toArray, List.getElem_cons_zero, List.getElem_cons_succ, List.setIfInBounds_toArray, List.set_cons_zero, List.set_cons_succ]
  refine wpAnyH_take (i := 1) (v := .int .i64 (u : Int)) rfl (by kernel_rfl) (by kernel_rfl) (by kernel_rfl) (fun _ _ _ h => h) (Or.inl ⟨by rfl, fun w' hS => by (obtain ⟨s0, s1, s2⟩ := hS; go_simp)⟩) hHeld ?_
  simp only [Act.put, List.getElem_toArray, List.getElem_cons_zero, List.getElem_cons_succ, List.setIfInBounds_toArray, List.set_cons_zero, List.set_cons_succ]
  refine wpAnyH_take (i := 2) (v := .pointer (some ⟨E.b, 0, none⟩)) rfl (by kernel_rfl) (by kernel_rfl) (by kernel_rfl) (fun _ _ _ h => h) (Or.inl ⟨by rfl, fun w' hS => by go_simp⟩) hHeld ?_
  simp only [Act.put, List.getElem_toArray, List.getElem_cons_zero, List.getElem_cons_succ, List.setIfInBounds_toArray, List.set_cons_zero, List.set_cons_succ]
  refine wpAnyH_take (i := 3) (v := .pointer (some ⟨E.b, 0, none⟩)) rfl (by kernel_rfl) (by kernel_rfl) (by kernel_rfl) (fun _ _ _ h => h) (Or.inl ⟨by rfl, fun w' hS => by go_simp⟩) hHeld ?_
  simp only [Act.put, List.getElem_toArray, List.getElem_cons_zero, List.getElem_cons_succ, List.setIfInBounds_toArray, List.set_cons_zero, List.set_cons_succ]
  refine wpAnyH_take (i := 4) (v := .pointer (some ⟨E.b, 0, none⟩)) rfl (by kernel_rfl) (by kernel_rfl) (by kernel_rfl) (fun _ _ _ h => h) (Or.inl ⟨by rfl, fun w' hS => by go_simp⟩) hHeld ?_
  simp only [Act.put, List.getElem_toArray, List.getElem_cons_zero, List.getElem_cons_succ, List.setIfInBounds_toArray, List.set_cons_zero, List.set_cons_succ]
  refine wpAnyH_take (i := 5) (v := .pointer (some ⟨E.b, 0, none⟩)) rfl (by kernel_rfl) (by kernel_rfl) (by kernel_rfl) (fun _ _ _ h => h) (Or.inl ⟨by rfl, fun w' hS => by go_simp⟩) hHeld ?_
  simp only [Act.put, List.getElem_toArray, List.getElem_cons_zero, List.getElem_cons_succ, List.setIfInBounds_toArray, List.set_cons_zero, List.set_cons_succ]
  refine wpAnyH_take (i := 6) (v := .int .i64 (E.o.p : Int)) rfl (by kernel_rfl) (by kernel_rfl) (by kernel_rfl) (fun _ _ _ h => h) (Or.inl ⟨by rfl, fun w' hS => by (obtain ⟨s0, s1, s2⟩ := hS; go_simp)⟩) hHeld ?_
  simp only [Act.put, List.getElem_toArray, List.getElem_cons_zero, List.getElem_cons_succ, List.setIfInBounds_toArray, List.set_cons_zero, List.set_cons_succ]
  refine wpAnyH_take (i := 7) (v := .pointer (some ⟨M.b, 0, none⟩)) rfl (by kernel_rfl) (by kernel_rfl) (by kernel_rfl) (fun _ _ _ h => h) (Or.inl ⟨by rfl, fun w' hS => by go_simp⟩) hHeld ?_
  simp only [Act.put, List.getElem_toArray, List.getElem_cons_zero, List.getElem_cons_succ, List.setIfInBounds_toArray, List.set_cons_zero, List.set_cons_succ]
  refine wpAnyH_take (i := 8) (v := .pointer (some ⟨M.b, 0, none⟩)) rfl (by kernel_rfl) (by kernel_rfl) (by kernel_rfl) (fun _ _ _ h => h) (Or.inl ⟨by rfl, fun w' hS => by go_simp⟩) hHeld ?_
  simp only [Act.put, List.getElem_toArray, List.getElem_cons_zero, List.getElem_cons_succ, List.setIfInBounds_toArray, List.set_cons_zero, List.set_cons_succ]
  refine wpAnyH_take (i := 9) (v := .pointer (some ⟨M.b, 1, none⟩)) rfl (by kernel_rfl) (by kernel_rfl) (by kernel_rfl) (fun _ _ _ h => h) (Or.inl ⟨by rfl, fun w' hS => by go_simp⟩) hHeld ?_
  simp only [Act.put, List.getElem_toArray, List.getElem_cons_zero, List.getElem_cons_succ, List.setIfInBounds_toArray, List.set_cons_zero, List.set_cons_succ]
  refine wpAnyH_take (i := 10) (v := .int .i64 (M.win : Int)) rfl (by kernel_rfl) (by kernel_rfl) (by kernel_rfl) (fun _ _ _ h => h) (Or.inl ⟨by rfl, fun w' hS => by (obtain ⟨s0, s1, s2⟩ := hS; go_simp)⟩) hHeld ?_
  simp only [Act.put, List.getElem_toArray, List.getElem_cons_zero, List.getElem_cons_succ, List.setIfInBounds_toArray, List.set_cons_zero, List.set_cons_succ]
  refine wpAnyH_take (i := 11) (v := .pointer (some ⟨E.b, 0, none⟩)) rfl (by kernel_rfl) (by kernel_rfl) (by kernel_rfl) (fun _ _ _ h => h) (Or.inl ⟨by rfl, fun w' hS => by go_simp⟩) hHeld ?_
  simp only [Act.put, List.getElem_toArray, List.getElem_cons_zero, List.getElem_cons_succ, List.setIfInBounds_toArray, List.set_cons_zero, List.set_cons_succ]
  refine wpAnyH_ready (rs := [12]) (by kernel_rfl) (by simp) ?_
  refine AllReadyH.cons rfl (fun K hK => ?_) AllReadyH.nil
  go_simp
  refine (HWt.out _ (Below.refl _ _).drew).mono ?_
  rintro e w2 ⟨rfl, hb2⟩
  refine hK.out _ _ ⟨below_at hb2 (below_at (Below.refl _ _).drew b4), below_at hb2 (below_at (Below.refl _ _).drew b0), below_at hb2 (below_at (Below.refl _ _).drew b1)⟩ (fun hHeld => ?_)
  clear hK K
  refine wpAnyH_take (i := 13) (v := .int .i64 mn) rfl (by kernel_rfl) (by kernel_rfl) (by kernel_rfl) (fun _ _ _ h => h) (Or.inl ⟨by rfl, fun w' hS => by (go_simp; exact Hmn.out)⟩) hHeld ?_
  simp only [Act.put, List.getElem_toArray, List.getElem_cons_zero, List.getElem_cons_succ, List.setIfInBounds_toArray, List.set_cons_zero, List.set_cons_succ]
  refine wpAnyH_take (i := 14) (v := .int .i64 ((E.o.p : Int) + mn)) rfl (by kernel_rfl) (by kernel_rfl) (by kernel_rfl) (fun _ _ _ h => h) (Or.inl ⟨by rfl, fun w' hS => by (go_simp; exact wrap_id (by omega) (by omega))⟩) hHeld ?_
  simp only [Act.put, List.getElem_toArray, List.getElem_cons_zero, List.getElem_cons_succ, List.setIfInBounds_toArray, List.set_cons_zero, List.set_cons_succ]
  refine wpAnyH_take (i := 15) (v := .bool false) rfl (by kernel_rfl) (by kernel_rfl) (by kernel_rfl) (fun _ _ _ h => h) (Or.inl ⟨by rfl, fun w' hS => by (go_simp <;> omega)⟩) hHeld ?_
  simp only [Act.put, List.getElem_toArray, List.getElem_cons_zero, List.getElem_cons_succ, List.setIfInBounds_toArray, List.set_cons_zero, List.set_cons_succ]
  refine wpAnyH_done (by kernel_rfl) ?_ _
  clear hHeld
  have hbx : Below W.heap.size W w2 := bstep (Below.refl _ _).drew.drew hb2
  have HE2 := HEW.out.still hbx
  have c4 : w2.cell? ⟨w.heap.size, 4, none⟩ = some (.int .i64 (u : Int)) := below_at hbx a4
  have b4 := c4
  have hbD : Below w2.heap.size w2 w2.drew := (Below.refl _ _).drew
  have hpl : u ≤ E.o.p + E.o.L := by
    by_cases e : u ≤ E.o.p
    · omega
    · have h5 := HE.out.all u (by omega) (by omega)
      obtain ⟨b, hb⟩ := Option.isSome_iff_exists.1 h5
      exact (HE.out.oo.inw u b hb).2
  have HPa : Hid (Calls Try.prog 42 #[.pointer (some ⟨E.b, 0, none⟩), .int .i64 (u : Int)] w2.drew fun e w' => e = .returned (.tuple #[]) ∧ PassO w2.drew w' B E.o E.b 0 u E.cs) := pass_any (HE2.still hbD).oo (HE2.still hbD).blk rfl rfl hpl hu
  have HF : Hid (∀ w3, PassO w2.drew w3 B E.o E.b 0 u E.cs → Hid (AckO w w3 B M E u)) := fun w3 hp => (⟨ack_fin HE.out (bstep (bstep HBW.out hbx) hbD) (by omega) hp⟩ : AckO w w3 B M E u)
  have HX4 : Hid (∀ w3, PassO w2.drew w3 B E.o E.b 0 u E.cs → w3.cell? ⟨w.heap.size, 4, none⟩ = some (.int .i64 (u : Int))) := fun w3 hp => kept_cell hp.kept (fun e => by
    have h1 : w.heap.size ≠ E.b := fun e2 => by have := HE.out.lt (.inl rfl); omega
    rcases e with e | ⟨e1, e2⟩
    · exact h1 e
    · have := HE.out.oo.lt (.inl ⟨e1, rfl⟩); omega) (below_at hbD c4)
  clear HE2 hbx hb2 c4 hbD
  go_wp2
  refine wp_region_held_drew (S := (fun w' => w'.cell? ⟨w.heap.size, 4, none⟩ = some (.int .i64 (u : Int)))) (by kernel_rfl) (below_at (Below.refl _ _).drew b4) (fun hHeld => ?_)
  simp only [Act.put, List.size_toArray, List.length_cons, List.length_nil, Nat.zero_add]
  refine wpAnyH_take (i := 0) (v := .pointer (some ⟨E.b, 0, none⟩)) rfl (by kernel_rfl) (by kernel_rfl) (by kernel_rfl) (fun _ _ _ h => h) (Or.inl ⟨by rfl, fun w' hS => by go_simp⟩) hHeld ?_
  simp only [Act.put, List.getElem_toArray, List.getElem_cons_zero, List.getElem_cons_succ, List.setIfInBounds_toArray, List.set_cons_zero, List.set_cons_succ]
  refine wpAnyH_take (i := 1) (v := .pointer (some ⟨E.b, 0, none⟩)) rfl (by kernel_rfl) (by kernel_rfl) (by kernel_rfl) (fun _ _ _ h => h) (Or.inl ⟨by rfl, fun w' hS => by go_simp⟩) hHeld ?_
  simp only [Act.put, List.getElem_toArray, List.getElem_cons_zero, List.getElem_cons_succ, List.setIfInBounds_toArray, List.set_cons_zero, List.set_cons_succ]
  refine wpAnyH_take (i := 2) (v := .pointer (some ⟨E.b, 0, none⟩)) rfl (by kernel_rfl) (by kernel_rfl) (by kernel_rfl) (fun _ _ _ h => h) (Or.inl ⟨by rfl, fun w' hS => by go_simp⟩) hHeld ?_
  simp only [Act.put, List.getElem_toArray, List.getElem_cons_zero, List.getElem_cons_succ, List.setIfInBounds_toArray, List.set_cons_zero, List.set_cons_succ]
  refine wpAnyH_take (i := 3) (v := .pointer (some ⟨w.heap.size, 4, none⟩)) rfl (by kernel_rfl) (by kernel_rfl) (by kernel_rfl) (fun _ _ _ h => h) (Or.inl ⟨by rfl, fun w' hS => by go_simp⟩) hHeld ?_
  simp only [Act.put, List.getElem_toArray, List.getElem_cons_zero, List.getElem_cons_succ, List.setIfInBounds_toArray, List.set_cons_zero, List.set_cons_succ]
  refine wpAnyH_take (i := 4) (v := .int .i64 (u : Int)) rfl (by kernel_rfl) (by kernel_rfl) (by kernel_rfl) (fun _ _ _ h => h) (Or.inl ⟨by rfl, fun w' hS => by (have s0 := hS; go_simp)⟩) hHeld ?_
  simp only [Act.put, List.getElem_toArray, List.getElem_cons_zero, List.getElem_cons_succ, List.setIfInBounds_toArray, List.set_cons_zero, List.set_cons_succ]
  refine wpAnyH_ready (rs := [5]) (by kernel_rfl) (by simp) ?_
  refine AllReadyH.cons rfl (fun K hK => ?_) AllReadyH.nil
  go_simp
  refine (HPa.out).mono ?_
  rintro e w3 ⟨rfl, hp3⟩
  have HX := HF.out w3 hp3
  refine hK.out _ _ (HX4.out w3 hp3) (fun hHeld => ?_)
  clear hK K
  refine wpAnyH_done (by kernel_rfl) ?_ _
  clear hHeld
  go_wp2
  go_ret
  exact ⟨rfl, HX.out⟩
end
end Go.Proofs.Ytghihdenbdnnjaa.Ln
