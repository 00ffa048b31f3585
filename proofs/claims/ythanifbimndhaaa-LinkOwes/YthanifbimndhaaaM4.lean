import Derived.Test.YthanifbimndhaaaM3
namespace Go.Proofs.Ythanifbimndhaaa.Ln
set_option maxHeartbeats 40000000
open Go.RowKit Mb
set_option linter.unusedVariables false
set_option maxRecDepth 100000
set_option linter.unusedSimpArgs false
section
variable {w w' W : World} {B win room : Nat} {S S' : St} {E E' : En} {M M' : Mx}
theorem pass_own {u : Nat} {j : Nat} (h : (S.pass u).own j) : S.own j := by
 rcases h with ⟨h1, h2⟩ | ⟨n, b, hb, e⟩
 ·exact .inl ⟨h1, h2⟩
 ·have hb' : (if n ≤ u then none else S.f n) = some b := hb
  by_cases e2 : n ≤ u
  ·rw [if_pos e2] at hb'; cases hb'
  ·rw [if_neg e2] at hb'; exact .inr ⟨n, b, hb', e⟩
theorem ack_fin {w2 w3 : World} {u : Nat} (h : E.Ok w B win room) (hb : Below w.heap.size w w2) (hu : u ≤ E.sent) (hp : PassO w2 w3 B E.o E.b 0 u E.cs) : ∃ E', Estep w w3 B win room E E' /\ E'.pu = E.pu.acked u := by
 have h2 := h.still hb
 obtain ⟨cs', hblk, hsz, hr, hrest⟩ := hp.hd
 have hcs : cs' = ({ E with o := E.o.pass u } : En).cs := arr_upd hr hrest rfl (fun i hi => by rcases i with _ | _ | _ | _ | _ | _ | i <;> first | rfl | exact absurd rfl hi)
 subst hcs
 refine ⟨{ E with o := E.o.pass u }, ⟨rfl, ⟨hblk, h.lo, hp.ok, ?_, ?_, ?_, ?_, h.s62, ?_, ?_, h.iw, h.i1⟩, ?_, ?_⟩, ?_⟩
 ·exact h2.ii.keep hp.kept fun j hj e => e.elim (fun e => h2.ne_i (by rw [<- e]; exact hj)) (fun e => h.ap j (.inl e) hj)
 ·exact fun j hj hj2 => h.ap j (pass_own hj) hj2
 ·show max E.o.p u ≤ E.sent; have := h.s1; omega
 ·show E.sent ≤ max E.o.p u + room; have := h.s2; omega
 ·intro n hn1 hn2
  have hn1' : max E.o.p u < n := hn1
  show (if n ≤ u then none else E.o.f n).isSome = true
  rw [if_neg (by omega)]
  exact h.all n (by omega) hn2
 ·intro n b hb2
  have hb' : (if n ≤ u then none else E.o.f n) = some b := hb2
  by_cases e2 : n ≤ u
  ·rw [if_pos e2] at hb'; cases hb'
  ·rw [if_neg e2] at hb'; exact h.top n b hb'
 ·exact (Kept.ofBelow hb _).step hp.kept fun j hj => hj.elim (fun e => .inl (.inl e)) (fun e => .inl (.inr (.inl (.inl e))))
 ·rintro j (rfl | hj | hj)
  ·exact .inl (.inl rfl)
  ·exact .inl (.inr (.inl (pass_own hj)))
  ·exact .inl (.inr (.inr hj))
 ·simp only [En.pu, Ep.acked, St.pass]
  congr 1
  funext n
  by_cases e : n ≤ u
  ·simp [e]
  ·simp [e]
theorem acked_no (h : M.Ok w B) {q : Int} (hq : M.at q = none) (t : Tg) (u : Int) : Calls Try.prog 38 #[.pointer (some ⟨M.b, 0, none⟩), .int .i64 q, .agg #[.int .i64 t.e, .int .i64 t.l, .int .i64 t.i, .int .i64 t.c, .int .i64 u]] w fun e w' => e = .returned (.int .i64 41) /\ Below w.heap.size w w' := by
 have HP : Hid (∀ w1, Below w.heap.size w w1 -> Calls Try.prog 60 #[.pointer (some ⟨M.b, 0, none⟩), .int .i64 q] w1 fun e w' => e = .returned (.pointer none) /\ w1 = w') := fun w1 hb => (show Calls _ _ _ _ _ from by have := peer_any (h.still hb) q; rw [hq] at this; exact this)
 generalize hW : w.alloc (.cells #[.int .i64 t.e, .int .i64 t.l, .int .i64 t.i, .int .i64 t.c, .int .i64 u] 74) = W
 have hbW := bW0 hW
 have hblk := hQ0 hW
 have a0 : W.cell? ⟨w.heap.size, 0, none⟩ = some (.int .i64 t.e) := bC hblk 0
 have a1 : W.cell? ⟨w.heap.size, 1, none⟩ = some (.int .i64 t.l) := bC hblk 1
 have a2 : W.cell? ⟨w.heap.size, 2, none⟩ = some (.int .i64 t.i) := bC hblk 2
 have a3 : W.cell? ⟨w.heap.size, 3, none⟩ = some (.int .i64 t.c) := bC hblk 3
 have a4 : W.cell? ⟨w.heap.size, 4, none⟩ = some (.int .i64 u) := bC hblk 4
 have HPW := HP.out W hbW
 have HPh : Hid (Calls _ _ _ _ _) := HPW
 have HBW : Hid (Below w.heap.size w W) := hbW
 clear h hq HPW hblk hbW
 go_enter Try.func38, Try.ntmps38
 go_wp2_with (first | (go_at_call 60; refine HPh.out.mono ?_; rintro e w' ⟨rfl, rfl⟩) | fail)
 go_ret
 exact ⟨rfl, HBW.out⟩
theorem acked_arg (h : M.Ok w B) {q : Int} (hq : M.at q = some E) (t : Tg) (u : Int) (hu : inR 0 4611686018427387904 u = false) : Calls Try.prog 38 #[.pointer (some ⟨M.b, 0, none⟩), .int .i64 q, .agg #[.int .i64 t.e, .int .i64 t.l, .int .i64 t.i, .int .i64 t.c, .int .i64 u]] w fun e w' => e = .returned (.int .i64 1) /\ Below w.heap.size w w' := by
 have HP : Hid (∀ w1, Below w.heap.size w w1 -> Calls Try.prog 60 #[.pointer (some ⟨M.b, 0, none⟩), .int .i64 q] w1 fun e w' => e = .returned (.pointer (some ⟨E.b, 0, none⟩)) /\ w1 = w') := fun w1 hb => (show Calls _ _ _ _ _ from by have := peer_any (h.still hb) q; rw [hq] at this; exact this)
 generalize hW : w.alloc (.cells #[.int .i64 t.e, .int .i64 t.l, .int .i64 t.i, .int .i64 t.c, .int .i64 u] 74) = W
 have hbW := bW0 hW
 have hblk := hQ0 hW
 have a0 : W.cell? ⟨w.heap.size, 0, none⟩ = some (.int .i64 t.e) := bC hblk 0
 have a1 : W.cell? ⟨w.heap.size, 1, none⟩ = some (.int .i64 t.l) := bC hblk 1
 have a2 : W.cell? ⟨w.heap.size, 2, none⟩ = some (.int .i64 t.i) := bC hblk 2
 have a3 : W.cell? ⟨w.heap.size, 3, none⟩ = some (.int .i64 t.c) := bC hblk 3
 have a4 : W.cell? ⟨w.heap.size, 4, none⟩ = some (.int .i64 u) := bC hblk 4
 have HPW := HP.out W hbW
 have HPh : Hid (Calls _ _ _ _ _) := HPW
 have HBW : Hid (Below w.heap.size w W) := hbW
 have HWi : Hid (Calls Try.prog 66 #[.int .i64 u, .int .i64 0, .int .i64 4611686018427387904] W fun e w' => e = .returned (.bool false) /\ W = w') := (show Calls _ _ _ _ _ from by rw [<- hu]; exact within_any u 0 4611686018427387904)
 clear h hq HPW hblk hbW hu
 go_enter Try.func38, Try.ntmps38
 go_wp2_with (first | (go_at_call 60; refine HPh.out.mono ?_; rintro e w' ⟨rfl, rfl⟩) | (go_at_call 66; refine HWi.out.mono ?_; rintro e w' ⟨rfl, rfl⟩) | fail)
 go_ret
 exact ⟨rfl, HBW.out⟩
theorem acked_tag (h : M.Ok w B) {q : Int} (hq : M.at q = some E) (t : Tg) (u : Int) (hu : inR 0 4611686018427387904 u = true) (ht : ¬ t = M.tag) : Calls Try.prog 38 #[.pointer (some ⟨M.b, 0, none⟩), .int .i64 q, .agg #[.int .i64 t.e, .int .i64 t.l, .int .i64 t.i, .int .i64 t.c, .int .i64 u]] w fun e w' => e = .returned (.int .i64 40) /\ Below w.heap.size w w' := by
 have HP : Hid (∀ w1, Below w.heap.size w w1 -> Calls Try.prog 60 #[.pointer (some ⟨M.b, 0, none⟩), .int .i64 q] w1 fun e w' => e = .returned (.pointer (some ⟨E.b, 0, none⟩)) /\ w1 = w') := fun w1 hb => (show Calls _ _ _ _ _ from by have := peer_any (h.still hb) q; rw [hq] at this; exact this)
 generalize hW : w.alloc (.cells #[.int .i64 t.e, .int .i64 t.l, .int .i64 t.i, .int .i64 t.c, .int .i64 u] 74) = W
 have hbW := bW0 hW
 have hblk := hQ0 hW
 have a0 : W.cell? ⟨w.heap.size, 0, none⟩ = some (.int .i64 t.e) := bC hblk 0
 have a1 : W.cell? ⟨w.heap.size, 1, none⟩ = some (.int .i64 t.l) := bC hblk 1
 have a2 : W.cell? ⟨w.heap.size, 2, none⟩ = some (.int .i64 t.i) := bC hblk 2
 have a3 : W.cell? ⟨w.heap.size, 3, none⟩ = some (.int .i64 t.c) := bC hblk 3
 have a4 : W.cell? ⟨w.heap.size, 4, none⟩ = some (.int .i64 u) := bC hblk 4
 have HPW := HP.out W hbW
 have HPh : Hid (Calls _ _ _ _ _) := HPW
 have HBW : Hid (Below w.heap.size w W) := hbW
 have HWi : Hid (Calls Try.prog 66 #[.int .i64 u, .int .i64 0, .int .i64 4611686018427387904] W fun e w' => e = .returned (.bool true) /\ W = w') := (show Calls _ _ _ _ _ from by rw [<- hu]; exact within_any u 0 4611686018427387904)
 have m3 : W.cell? ⟨M.b, 3, none⟩ = some (.int .i64 M.tag.e) := (h.still hbW).c 3 rfl
 have m4 : W.cell? ⟨M.b, 4, none⟩ = some (.int .i64 M.tag.l) := (h.still hbW).c 4 rfl
 have m5 : W.cell? ⟨M.b, 5, none⟩ = some (.int .i64 M.tag.i) := (h.still hbW).c 5 rfl
 have m6 : W.cell? ⟨M.b, 6, none⟩ = some (.int .i64 M.tag.c) := (h.still hbW).c 6 rfl
 have HQ : Hid (decide (t = M.tag) = false) := (show _ = _ from by rw [decide_eq_false_iff_not]; exact ht)
 clear h hq HPW hblk hbW hu ht
 go_enter Try.func38, Try.ntmps38
 go_wp2_with (first | (go_at_call 60; refine HPh.out.mono ?_; rintro e w' ⟨rfl, rfl⟩) | (go_at_call 66; refine HWi.out.mono ?_; rintro e w' ⟨rfl, rfl⟩) | fail)
 refine wp_region_held_drew (S := (fun w' => w'.cell? ⟨w.heap.size, 0, none⟩ = some (.int .i64 t.e) /\ w'.cell? ⟨w.heap.size, 1, none⟩ = some (.int .i64 t.l) /\ w'.cell? ⟨w.heap.size, 2, none⟩ = some (.int .i64 t.i) /\ w'.cell? ⟨w.heap.size, 3, none⟩ = some (.int .i64 t.c) /\ w'.cell? ⟨M.b, 3, none⟩ = some (.int .i64 M.tag.e) /\ w'.cell? ⟨M.b, 4, none⟩ = some (.int .i64 M.tag.l) /\ w'.cell? ⟨M.b, 5, none⟩ = some (.int .i64 M.tag.i) /\ w'.cell? ⟨M.b, 6, none⟩ = some (.int .i64 M.tag.c))) (by kernel_rfl) ⟨bA (Below.refl _ _).drew a0, bA (Below.refl _ _).drew a1, bA (Below.refl _ _).drew a2, bA (Below.refl _ _).drew a3, bA (Below.refl _ _).drew m3, bA (Below.refl _ _).drew m4, bA (Below.refl _ _).drew m5, bA (Below.refl _ _).drew m6⟩ (fun hH => ?_)
 simp only [Act.put, lA, lC, lN, zA]
 refine wG 0 (.pointer (some ⟨w.heap.size, 0, none⟩)) rfl hH ?_
 simp only [aP, gA, gZ, gC, sA, sZ, sC]
 refine wL 1 (.agg #[.int .i64 t.e, .int .i64 t.l, .int .i64 t.i, .int .i64 t.c]) rfl hH ?_
 simp only [aP, gA, gZ, gC, sA, sZ, sC]
 refine wG 2 (.pointer (some ⟨M.b, 0, none⟩)) rfl hH ?_
 simp only [aP, gA, gZ, gC, sA, sZ, sC]
 refine wG 3 (.pointer (some ⟨M.b, 0, none⟩)) rfl hH ?_
 simp only [aP, gA, gZ, gC, sA, sZ, sC]
 refine wG 4 (.pointer (some ⟨M.b, 3, none⟩)) rfl hH ?_
 simp only [aP, gA, gZ, gC, sA, sZ, sC]
 refine wL 5 (.agg #[.int .i64 M.tag.e, .int .i64 M.tag.l, .int .i64 M.tag.i, .int .i64 M.tag.c]) rfl hH ?_
 simp only [aP, gA, gZ, gC, sA, sZ, sC]
 refine wX 6 (.bool (!(false))) rfl (Or.inl ⟨by rfl, fun w' hS => run_neqop 39 (.tmp 18) (.tmp 22) 39 rfl _ _ (by rfl) (by rfl) guard_id _ (by have e1 := eq_tag (w := w') t M.tag; rw [HQ.out] at e1; exact e1)⟩) hH ?_
 simp only [aP, gA, gZ, gC, sA, sZ, sC]
 refine wpAnyH_done (by kernel_rfl) ?_ _
 clear hH
 go_wp2
 go_ret
 exact ⟨rfl, HBW.out.drew⟩
theorem acked_far (h : M.Ok w B) {q : Int} (hq : M.at q = some E) (t : Tg) {u : Nat} (hu : u ≤ 4611686018427387904) (ht : t = M.tag) (hf : E.o.p + min M.win (E.sent - E.o.p) < u) : Calls Try.prog 38 #[.pointer (some ⟨M.b, 0, none⟩), .int .i64 q, .agg #[.int .i64 t.e, .int .i64 t.l, .int .i64 t.i, .int .i64 t.c, .int .i64 (u : Int)]] w fun e w' => e = .returned (.int .i64 43) /\ Below w.heap.size w w' := by
 have HP : Hid (∀ w1, Below w.heap.size w w1 -> Calls Try.prog 60 #[.pointer (some ⟨M.b, 0, none⟩), .int .i64 q] w1 fun e w' => e = .returned (.pointer (some ⟨E.b, 0, none⟩)) /\ w1 = w') := fun w1 hb => (show Calls _ _ _ _ _ from by have := peer_any (h.still hb) q; rw [hq] at this; exact this)
 obtain ⟨k, rfl, hk, he⟩ := at_es hq
 have hE := h.el k E he
 generalize hW : w.alloc (.cells #[.int .i64 t.e, .int .i64 t.l, .int .i64 t.i, .int .i64 t.c, .int .i64 (u : Int)] 74) = W
 have hbW := bW0 hW
 have hblk := hQ0 hW
 have a0 : W.cell? ⟨w.heap.size, 0, none⟩ = some (.int .i64 t.e) := bC hblk 0
 have a1 : W.cell? ⟨w.heap.size, 1, none⟩ = some (.int .i64 t.l) := bC hblk 1
 have a2 : W.cell? ⟨w.heap.size, 2, none⟩ = some (.int .i64 t.i) := bC hblk 2
 have a3 : W.cell? ⟨w.heap.size, 3, none⟩ = some (.int .i64 t.c) := bC hblk 3
 have a4 : W.cell? ⟨w.heap.size, 4, none⟩ = some (.int .i64 (u : Int)) := bC hblk 4
 have HPW := HP.out W hbW
 have HPh : Hid (Calls _ _ _ _ _) := HPW
 have HBW : Hid (Below w.heap.size w W) := hbW
 have HWi : Hid (Calls Try.prog 66 #[.int .i64 (u : Int), .int .i64 0, .int .i64 4611686018427387904] W fun e w' => e = .returned (.bool true) /\ W = w') := (show Calls _ _ _ _ _ from by have := within_any (w := W) (u : Int) 0 4611686018427387904; rw [inR_t (by omega) (by omega)] at this; exact this)
 have m3 : W.cell? ⟨M.b, 3, none⟩ = some (.int .i64 M.tag.e) := (h.still hbW).c 3 rfl
 have m4 : W.cell? ⟨M.b, 4, none⟩ = some (.int .i64 M.tag.l) := (h.still hbW).c 4 rfl
 have m5 : W.cell? ⟨M.b, 5, none⟩ = some (.int .i64 M.tag.i) := (h.still hbW).c 5 rfl
 have m6 : W.cell? ⟨M.b, 6, none⟩ = some (.int .i64 M.tag.c) := (h.still hbW).c 6 rfl
 have HQ : Hid (decide (t = M.tag) = true) := (show _ = _ from by rw [decide_eq_true_eq]; exact ht)
 obtain ⟨mn, hmn⟩ : ∃ mn : Int, (if (E.sent : Int) - (E.o.p : Int) < (M.win : Int) then (E.sent : Int) - (E.o.p : Int) else (M.win : Int)) = mn := ⟨_, rfl⟩
 have Hmn : Hid ((if (E.sent : Int) - (E.o.p : Int) < (M.win : Int) then (E.sent : Int) - (E.o.p : Int) else (M.win : Int)) = mn) := hmn
 have hs1 := hE.s1
 have hs2 := hE.s2
 have hs6 := hE.s62
 have hw1 := h.w1
 have hmn2 : 0 ≤ mn /\ mn ≤ 20000 := by rw [<- hmn]; split <;> omega
 have hmn3 : (E.o.p : Int) + mn < (u : Int) := by rw [<- hmn]; split <;> omega
 have HE : Hid (E.Ok w B M.win M.room) := hE
 have HWt : Hid (∀ w1, Below W.drew.heap.size W.drew w1 -> Calls Try.prog 70 #[.pointer (some ⟨E.b, 0, none⟩)] w1 fun e w' => e = .returned (.int .i64 ((E.sent : Int) - (E.o.p : Int))) /\ Below w1.heap.size w1 w') := fun w1 hb => waiting_any (((hE.still hbW).still (Below.refl _ _).drew).still hb)
 have b4 := bA (Below.refl _ _).drew a4
 have b0 : W.drew.cell? ⟨E.b, 0, none⟩ = some (.int .i64 (E.o.p : Int)) := ((hE.still hbW).still (Below.refl _ _).drew).c 0 rfl
 have b1 : W.drew.cell? ⟨M.b, 1, none⟩ = some (.int .i64 (M.win : Int)) := ((h.still hbW).still (Below.refl _ _).drew).c 1 rfl
 have hEW := (hE.still hbW)
 have HEW : Hid (E.Ok W B M.win M.room) := hEW
 clear h hq HPW hblk hbW ht hE hmn hEW
 go_enter Try.func38, Try.ntmps38
 go_wp2_with (first | (go_at_call 60; refine HPh.out.mono ?_; rintro e w' ⟨rfl, rfl⟩) | (go_at_call 66; refine HWi.out.mono ?_; rintro e w' ⟨rfl, rfl⟩) | fail)
 refine wp_region_held_drew (S := (fun w' => w'.cell? ⟨w.heap.size, 0, none⟩ = some (.int .i64 t.e) /\ w'.cell? ⟨w.heap.size, 1, none⟩ = some (.int .i64 t.l) /\ w'.cell? ⟨w.heap.size, 2, none⟩ = some (.int .i64 t.i) /\ w'.cell? ⟨w.heap.size, 3, none⟩ = some (.int .i64 t.c) /\ w'.cell? ⟨M.b, 3, none⟩ = some (.int .i64 M.tag.e) /\ w'.cell? ⟨M.b, 4, none⟩ = some (.int .i64 M.tag.l) /\ w'.cell? ⟨M.b, 5, none⟩ = some (.int .i64 M.tag.i) /\ w'.cell? ⟨M.b, 6, none⟩ = some (.int .i64 M.tag.c))) (by kernel_rfl) ⟨bA (Below.refl _ _).drew a0, bA (Below.refl _ _).drew a1, bA (Below.refl _ _).drew a2, bA (Below.refl _ _).drew a3, bA (Below.refl _ _).drew m3, bA (Below.refl _ _).drew m4, bA (Below.refl _ _).drew m5, bA (Below.refl _ _).drew m6⟩ (fun hH => ?_)
 simp only [Act.put, lA, lC, lN, zA]
 refine wG 0 (.pointer (some ⟨w.heap.size, 0, none⟩)) rfl hH ?_
 simp only [aP, gA, gZ, gC, sA, sZ, sC]
 refine wL 1 (.agg #[.int .i64 t.e, .int .i64 t.l, .int .i64 t.i, .int .i64 t.c]) rfl hH ?_
 simp only [aP, gA, gZ, gC, sA, sZ, sC]
 refine wG 2 (.pointer (some ⟨M.b, 0, none⟩)) rfl hH ?_
 simp only [aP, gA, gZ, gC, sA, sZ, sC]
 refine wG 3 (.pointer (some ⟨M.b, 0, none⟩)) rfl hH ?_
 simp only [aP, gA, gZ, gC, sA, sZ, sC]
 refine wG 4 (.pointer (some ⟨M.b, 3, none⟩)) rfl hH ?_
 simp only [aP, gA, gZ, gC, sA, sZ, sC]
 refine wL 5 (.agg #[.int .i64 M.tag.e, .int .i64 M.tag.l, .int .i64 M.tag.i, .int .i64 M.tag.c]) rfl hH ?_
 simp only [aP, gA, gZ, gC, sA, sZ, sC]
 refine wX 6 (.bool (!(true))) rfl (Or.inl ⟨by rfl, fun w' hS => run_neqop 39 (.tmp 18) (.tmp 22) 39 rfl _ _ (by rfl) (by rfl) guard_id _ (by have e1 := eq_tag (w := w') t M.tag; rw [HQ.out] at e1; exact e1)⟩) hH ?_
 simp only [aP, gA, gZ, gC, sA, sZ, sC]
 refine wpAnyH_done (by kernel_rfl) ?_ _
 clear hH
 go_wp2
 refine wp_region_held_drew (S := (fun w' => w'.cell? ⟨w.heap.size, 4, none⟩ = some (.int .i64 (u : Int)) /\ w'.cell? ⟨E.b, 0, none⟩ = some (.int .i64 (E.o.p : Int)) /\ w'.cell? ⟨M.b, 1, none⟩ = some (.int .i64 (M.win : Int)))) (by kernel_rfl) ⟨bA (Below.refl _ _).drew b4, bA (Below.refl _ _).drew b0, bA (Below.refl _ _).drew b1⟩ (fun hH => ?_)
 simp only [Act.put, lA, lC, lN, zA]
 refine wG 0 (.pointer (some ⟨w.heap.size, 4, none⟩)) rfl hH ?_
 simp only [aP, gA, gZ, gC, sA, sZ, sC]
 refine wL 1 (.int .i64 (u : Int)) rfl hH ?_
 simp only [aP, gA, gZ, gC, sA, sZ, sC]
 refine wG 2 (.pointer (some ⟨E.b, 0, none⟩)) rfl hH ?_
 simp only [aP, gA, gZ, gC, sA, sZ, sC]
 refine wG 3 (.pointer (some ⟨E.b, 0, none⟩)) rfl hH ?_
 simp only [aP, gA, gZ, gC, sA, sZ, sC]
 refine wG 4 (.pointer (some ⟨E.b, 0, none⟩)) rfl hH ?_
 simp only [aP, gA, gZ, gC, sA, sZ, sC]
 refine wG 5 (.pointer (some ⟨E.b, 0, none⟩)) rfl hH ?_
 simp only [aP, gA, gZ, gC, sA, sZ, sC]
 refine wL 6 (.int .i64 (E.o.p : Int)) rfl hH ?_
 simp only [aP, gA, gZ, gC, sA, sZ, sC]
 refine wG 7 (.pointer (some ⟨M.b, 0, none⟩)) rfl hH ?_
 simp only [aP, gA, gZ, gC, sA, sZ, sC]
 refine wG 8 (.pointer (some ⟨M.b, 0, none⟩)) rfl hH ?_
 simp only [aP, gA, gZ, gC, sA, sZ, sC]
 refine wG 9 (.pointer (some ⟨M.b, 1, none⟩)) rfl hH ?_
 simp only [aP, gA, gZ, gC, sA, sZ, sC]
 refine wL 10 (.int .i64 (M.win : Int)) rfl hH ?_
 simp only [aP, gA, gZ, gC, sA, sZ, sC]
 refine wG 11 (.pointer (some ⟨E.b, 0, none⟩)) rfl hH ?_
 simp only [aP, gA, gZ, gC, sA, sZ, sC]
 refine rY 12 rfl fun K hK => ?_
 go_simp
 refine (HWt.out _ (Below.refl _ _).drew).mono ?_
 rintro e w2 ⟨rfl, hb2⟩
 refine hK.out _ _ ⟨bA hb2 (bA (Below.refl _ _).drew b4), bA hb2 (bA (Below.refl _ _).drew b0), bA hb2 (bA (Below.refl _ _).drew b1)⟩ (fun hH => ?_)
 clear hK K
 refine wX 13 (.int .i64 mn) rfl (Or.inl ⟨by rfl, fun w' hS => by (go_simp; exact Hmn.out)⟩) hH ?_
 simp only [aP, gA, gZ, gC, sA, sZ, sC]
 refine wX 14 (.int .i64 ((E.o.p : Int) + mn)) rfl (Or.inl ⟨by rfl, fun w' hS => by (go_simp; exact wrap_id (by omega) (by omega))⟩) hH ?_
 simp only [aP, gA, gZ, gC, sA, sZ, sC]
 refine wX 15 (.bool true) rfl (Or.inl ⟨by rfl, fun w' hS => by (go_simp <;> omega)⟩) hH ?_
 simp only [aP, gA, gZ, gC, sA, sZ, sC]
 refine wpAnyH_done (by kernel_rfl) ?_ _
 clear hH
 go_wp2
 go_ret
 exact ⟨rfl, bstep (bstep HBW.out ((Below.refl _ _).drew.drew)) hb2⟩
structure AckO (w w' : World) (B : Nat) (M : Mx) (E : En) (u : Nat) : Prop where
 out : ∃ E', Estep w w' B M.win M.room E E' /\ E'.pu = E.pu.acked u
theorem acked_ok (h : M.Ok w B) {q : Int} (hq : M.at q = some E) (t : Tg) {u : Nat} (hu : u ≤ 4611686018427387904) (ht : t = M.tag) (hf : u ≤ E.o.p + min M.win (E.sent - E.o.p)) : Calls Try.prog 38 #[.pointer (some ⟨M.b, 0, none⟩), .int .i64 q, .agg #[.int .i64 t.e, .int .i64 t.l, .int .i64 t.i, .int .i64 t.c, .int .i64 (u : Int)]] w fun e w' => e = .returned (.int .i64 0) /\ AckO w w' B M E u := by
 have HP : Hid (∀ w1, Below w.heap.size w w1 -> Calls Try.prog 60 #[.pointer (some ⟨M.b, 0, none⟩), .int .i64 q] w1 fun e w' => e = .returned (.pointer (some ⟨E.b, 0, none⟩)) /\ w1 = w') := fun w1 hb => (show Calls _ _ _ _ _ from by have := peer_any (h.still hb) q; rw [hq] at this; exact this)
 obtain ⟨k, rfl, hk, he⟩ := at_es hq
 have hE := h.el k E he
 generalize hW : w.alloc (.cells #[.int .i64 t.e, .int .i64 t.l, .int .i64 t.i, .int .i64 t.c, .int .i64 (u : Int)] 74) = W
 have hbW := bW0 hW
 have hblk := hQ0 hW
 have a0 : W.cell? ⟨w.heap.size, 0, none⟩ = some (.int .i64 t.e) := bC hblk 0
 have a1 : W.cell? ⟨w.heap.size, 1, none⟩ = some (.int .i64 t.l) := bC hblk 1
 have a2 : W.cell? ⟨w.heap.size, 2, none⟩ = some (.int .i64 t.i) := bC hblk 2
 have a3 : W.cell? ⟨w.heap.size, 3, none⟩ = some (.int .i64 t.c) := bC hblk 3
 have a4 : W.cell? ⟨w.heap.size, 4, none⟩ = some (.int .i64 (u : Int)) := bC hblk 4
 have HPW := HP.out W hbW
 have HPh : Hid (Calls _ _ _ _ _) := HPW
 have HBW : Hid (Below w.heap.size w W) := hbW
 have HWi : Hid (Calls Try.prog 66 #[.int .i64 (u : Int), .int .i64 0, .int .i64 4611686018427387904] W fun e w' => e = .returned (.bool true) /\ W = w') := (show Calls _ _ _ _ _ from by have := within_any (w := W) (u : Int) 0 4611686018427387904; rw [inR_t (by omega) (by omega)] at this; exact this)
 have m3 : W.cell? ⟨M.b, 3, none⟩ = some (.int .i64 M.tag.e) := (h.still hbW).c 3 rfl
 have m4 : W.cell? ⟨M.b, 4, none⟩ = some (.int .i64 M.tag.l) := (h.still hbW).c 4 rfl
 have m5 : W.cell? ⟨M.b, 5, none⟩ = some (.int .i64 M.tag.i) := (h.still hbW).c 5 rfl
 have m6 : W.cell? ⟨M.b, 6, none⟩ = some (.int .i64 M.tag.c) := (h.still hbW).c 6 rfl
 have HQ : Hid (decide (t = M.tag) = true) := (show _ = _ from by rw [decide_eq_true_eq]; exact ht)
 obtain ⟨mn, hmn⟩ : ∃ mn : Int, (if (E.sent : Int) - (E.o.p : Int) < (M.win : Int) then (E.sent : Int) - (E.o.p : Int) else (M.win : Int)) = mn := ⟨_, rfl⟩
 have Hmn : Hid ((if (E.sent : Int) - (E.o.p : Int) < (M.win : Int) then (E.sent : Int) - (E.o.p : Int) else (M.win : Int)) = mn) := hmn
 have hs1 := hE.s1
 have hs2 := hE.s2
 have hs6 := hE.s62
 have hw1 := h.w1
 have hmn2 : 0 ≤ mn /\ mn ≤ 20000 := by rw [<- hmn]; split <;> omega
 have hmn3 : (u : Int) ≤ (E.o.p : Int) + mn := by rw [<- hmn]; split <;> omega
 have HE : Hid (E.Ok w B M.win M.room) := hE
 have HWt : Hid (∀ w1, Below W.drew.heap.size W.drew w1 -> Calls Try.prog 70 #[.pointer (some ⟨E.b, 0, none⟩)] w1 fun e w' => e = .returned (.int .i64 ((E.sent : Int) - (E.o.p : Int))) /\ Below w1.heap.size w1 w') := fun w1 hb => waiting_any (((hE.still hbW).still (Below.refl _ _).drew).still hb)
 have b4 := bA (Below.refl _ _).drew a4
 have b0 : W.drew.cell? ⟨E.b, 0, none⟩ = some (.int .i64 (E.o.p : Int)) := ((hE.still hbW).still (Below.refl _ _).drew).c 0 rfl
 have b1 : W.drew.cell? ⟨M.b, 1, none⟩ = some (.int .i64 (M.win : Int)) := ((h.still hbW).still (Below.refl _ _).drew).c 1 rfl
 have hEW := (hE.still hbW)
 have HEW : Hid (E.Ok W B M.win M.room) := hEW
 clear h hq HPW hblk hbW ht hE hmn hEW
 go_enter Try.func38, Try.ntmps38
 go_wp2_with (first | (go_at_call 60; refine HPh.out.mono ?_; rintro e w' ⟨rfl, rfl⟩) | (go_at_call 66; refine HWi.out.mono ?_; rintro e w' ⟨rfl, rfl⟩) | fail)
 refine wp_region_held_drew (S := (fun w' => w'.cell? ⟨w.heap.size, 0, none⟩ = some (.int .i64 t.e) /\ w'.cell? ⟨w.heap.size, 1, none⟩ = some (.int .i64 t.l) /\ w'.cell? ⟨w.heap.size, 2, none⟩ = some (.int .i64 t.i) /\ w'.cell? ⟨w.heap.size, 3, none⟩ = some (.int .i64 t.c) /\ w'.cell? ⟨M.b, 3, none⟩ = some (.int .i64 M.tag.e) /\ w'.cell? ⟨M.b, 4, none⟩ = some (.int .i64 M.tag.l) /\ w'.cell? ⟨M.b, 5, none⟩ = some (.int .i64 M.tag.i) /\ w'.cell? ⟨M.b, 6, none⟩ = some (.int .i64 M.tag.c))) (by kernel_rfl) ⟨bA (Below.refl _ _).drew a0, bA (Below.refl _ _).drew a1, bA (Below.refl _ _).drew a2, bA (Below.refl _ _).drew a3, bA (Below.refl _ _).drew m3, bA (Below.refl _ _).drew m4, bA (Below.refl _ _).drew m5, bA (Below.refl _ _).drew m6⟩ (fun hH => ?_)
 simp only [Act.put, lA, lC, lN, zA]
 refine wG 0 (.pointer (some ⟨w.heap.size, 0, none⟩)) rfl hH ?_
 simp only [aP, gA, gZ, gC, sA, sZ, sC]
 refine wL 1 (.agg #[.int .i64 t.e, .int .i64 t.l, .int .i64 t.i, .int .i64 t.c]) rfl hH ?_
 simp only [aP, gA, gZ, gC, sA, sZ, sC]
 refine wG 2 (.pointer (some ⟨M.b, 0, none⟩)) rfl hH ?_
 simp only [aP, gA, gZ, gC, sA, sZ, sC]
 refine wG 3 (.pointer (some ⟨M.b, 0, none⟩)) rfl hH ?_
 simp only [aP, gA, gZ, gC, sA, sZ, sC]
 refine wG 4 (.pointer (some ⟨M.b, 3, none⟩)) rfl hH ?_
 simp only [aP, gA, gZ, gC, sA, sZ, sC]
 refine wL 5 (.agg #[.int .i64 M.tag.e, .int .i64 M.tag.l, .int .i64 M.tag.i, .int .i64 M.tag.c]) rfl hH ?_
 simp only [aP, gA, gZ, gC, sA, sZ, sC]
 refine wX 6 (.bool (!(true))) rfl (Or.inl ⟨by rfl, fun w' hS => run_neqop 39 (.tmp 18) (.tmp 22) 39 rfl _ _ (by rfl) (by rfl) guard_id _ (by have e1 := eq_tag (w := w') t M.tag; rw [HQ.out] at e1; exact e1)⟩) hH ?_
 simp only [aP, gA, gZ, gC, sA, sZ, sC]
 refine wpAnyH_done (by kernel_rfl) ?_ _
 clear hH
 go_wp2
 refine wp_region_held_drew (S := (fun w' => w'.cell? ⟨w.heap.size, 4, none⟩ = some (.int .i64 (u : Int)) /\ w'.cell? ⟨E.b, 0, none⟩ = some (.int .i64 (E.o.p : Int)) /\ w'.cell? ⟨M.b, 1, none⟩ = some (.int .i64 (M.win : Int)))) (by kernel_rfl) ⟨bA (Below.refl _ _).drew b4, bA (Below.refl _ _).drew b0, bA (Below.refl _ _).drew b1⟩ (fun hH => ?_)
 simp only [Act.put, lA, lC, lN, zA]
 refine wG 0 (.pointer (some ⟨w.heap.size, 4, none⟩)) rfl hH ?_
 simp only [aP, gA, gZ, gC, sA, sZ, sC]
 refine wL 1 (.int .i64 (u : Int)) rfl hH ?_
 simp only [aP, gA, gZ, gC, sA, sZ, sC]
 refine wG 2 (.pointer (some ⟨E.b, 0, none⟩)) rfl hH ?_
 simp only [aP, gA, gZ, gC, sA, sZ, sC]
 refine wG 3 (.pointer (some ⟨E.b, 0, none⟩)) rfl hH ?_
 simp only [aP, gA, gZ, gC, sA, sZ, sC]
 refine wG 4 (.pointer (some ⟨E.b, 0, none⟩)) rfl hH ?_
 simp only [aP, gA, gZ, gC, sA, sZ, sC]
 refine wG 5 (.pointer (some ⟨E.b, 0, none⟩)) rfl hH ?_
 simp only [aP, gA, gZ, gC, sA, sZ, sC]
 refine wL 6 (.int .i64 (E.o.p : Int)) rfl hH ?_
 simp only [aP, gA, gZ, gC, sA, sZ, sC]
 refine wG 7 (.pointer (some ⟨M.b, 0, none⟩)) rfl hH ?_
 simp only [aP, gA, gZ, gC, sA, sZ, sC]
 refine wG 8 (.pointer (some ⟨M.b, 0, none⟩)) rfl hH ?_
 simp only [aP, gA, gZ, gC, sA, sZ, sC]
 refine wG 9 (.pointer (some ⟨M.b, 1, none⟩)) rfl hH ?_
 simp only [aP, gA, gZ, gC, sA, sZ, sC]
 refine wL 10 (.int .i64 (M.win : Int)) rfl hH ?_
 simp only [aP, gA, gZ, gC, sA, sZ, sC]
 refine wG 11 (.pointer (some ⟨E.b, 0, none⟩)) rfl hH ?_
 simp only [aP, gA, gZ, gC, sA, sZ, sC]
 refine rY 12 rfl fun K hK => ?_
 go_simp
 refine (HWt.out _ (Below.refl _ _).drew).mono ?_
 rintro e w2 ⟨rfl, hb2⟩
 refine hK.out _ _ ⟨bA hb2 (bA (Below.refl _ _).drew b4), bA hb2 (bA (Below.refl _ _).drew b0), bA hb2 (bA (Below.refl _ _).drew b1)⟩ (fun hH => ?_)
 clear hK K
 refine wX 13 (.int .i64 mn) rfl (Or.inl ⟨by rfl, fun w' hS => by (go_simp; exact Hmn.out)⟩) hH ?_
 simp only [aP, gA, gZ, gC, sA, sZ, sC]
 refine wX 14 (.int .i64 ((E.o.p : Int) + mn)) rfl (Or.inl ⟨by rfl, fun w' hS => by (go_simp; exact wrap_id (by omega) (by omega))⟩) hH ?_
 simp only [aP, gA, gZ, gC, sA, sZ, sC]
 refine wX 15 (.bool false) rfl (Or.inl ⟨by rfl, fun w' hS => by (go_simp <;> omega)⟩) hH ?_
 simp only [aP, gA, gZ, gC, sA, sZ, sC]
 refine wpAnyH_done (by kernel_rfl) ?_ _
 clear hH
 have hbx : Below W.heap.size W w2 := bstep (Below.refl _ _).drew.drew hb2
 have HE2 := HEW.out.still hbx
 have c4 : w2.cell? ⟨w.heap.size, 4, none⟩ = some (.int .i64 (u : Int)) := bA hbx a4
 have b4 := c4
 have hbD : Below w2.heap.size w2 w2.drew := (Below.refl _ _).drew
 have hpl : u ≤ E.o.p + E.o.L := by
  by_cases e : u ≤ E.o.p
  ·omega
  ·have h5 := HE.out.all u (by omega) (by omega)
   obtain ⟨b, hb⟩ := Option.isSome_iff_exists.1 h5
   exact (HE.out.oo.inw u b hb).2
 have HPa : Hid (Calls Try.prog 73 #[.pointer (some ⟨E.b, 0, none⟩), .int .i64 (u : Int)] w2.drew fun e w' => e = .returned (.tuple #[]) /\ PassO w2.drew w' B E.o E.b 0 u E.cs) := pass_any (HE2.still hbD).oo (HE2.still hbD).blk rfl rfl hpl hu
 have HF : Hid (∀ w3, PassO w2.drew w3 B E.o E.b 0 u E.cs -> Hid (AckO w w3 B M E u)) := fun w3 hp => (⟨ack_fin HE.out (bstep (bstep HBW.out hbx) hbD) (by omega) hp⟩ : AckO w w3 B M E u)
 have HX4 : Hid (∀ w3, PassO w2.drew w3 B E.o E.b 0 u E.cs -> w3.cell? ⟨w.heap.size, 4, none⟩ = some (.int .i64 (u : Int))) := fun w3 hp => kC hp.kept (fun e => by
  have h1 : w.heap.size ≠ E.b := fun e2 => by have := HE.out.lt (.inl rfl); omega
  rcases e with e | ⟨e1, e2⟩
  ·exact h1 e
  ·have := HE.out.oo.lt (.inl ⟨e1, rfl⟩); omega) (bA hbD c4)
 clear HE2 hbx hb2 c4 hbD
 go_wp2
 refine wp_region_held_drew (S := (fun w' => w'.cell? ⟨w.heap.size, 4, none⟩ = some (.int .i64 (u : Int)))) (by kernel_rfl) (bA (Below.refl _ _).drew b4) (fun hH => ?_)
 simp only [Act.put, lA, lC, lN, zA]
 refine wG 0 (.pointer (some ⟨E.b, 0, none⟩)) rfl hH ?_
 simp only [aP, gA, gZ, gC, sA, sZ, sC]
 refine wG 1 (.pointer (some ⟨E.b, 0, none⟩)) rfl hH ?_
 simp only [aP, gA, gZ, gC, sA, sZ, sC]
 refine wG 2 (.pointer (some ⟨E.b, 0, none⟩)) rfl hH ?_
 simp only [aP, gA, gZ, gC, sA, sZ, sC]
 refine wG 3 (.pointer (some ⟨w.heap.size, 4, none⟩)) rfl hH ?_
 simp only [aP, gA, gZ, gC, sA, sZ, sC]
 refine wX 4 (.int .i64 (u : Int)) rfl (Or.inl ⟨by rfl, fun w' hS => by (have s0 := hS; go_simp)⟩) hH ?_
 simp only [aP, gA, gZ, gC, sA, sZ, sC]
 refine rY 5 rfl fun K hK => ?_
 go_simp
 refine (HPa.out).mono ?_
 rintro e w3 ⟨rfl, hp3⟩
 have HX := HF.out w3 hp3
 refine hK.out _ _ (HX4.out w3 hp3) (fun hH => ?_)
 clear hK K
 refine wpAnyH_done (by kernel_rfl) ?_ _
 clear hH
 go_wp2
 go_ret
 exact ⟨rfl, HX.out⟩
end
section
variable {w w' W : World} {B win room : Nat} {S S' : St} {E E' : En} {M M' : Mx}
theorem info_ack : (Try.prog.info? 74).map (·.size) = some 5 := by kernel_rfl
theorem ones5 (a b c d e : Int) : ∀ u ∈ [Value.int .i64 a, .int .i64 b, .int .i64 c, .int .i64 d, .int .i64 e], u.oneCell' = true := by
 intro u hu
 simp at hu
 rcases hu with rfl | rfl | rfl | rfl | rfl <;> rfl
abbrev z5 : List Value := [.int .i64 0, .int .i64 0, .int .i64 0, .int .i64 0, .int .i64 0]
theorem owe_fin {w2 w3 : World} (h : E.Ok w B win room) (hb : Below w.heap.size w w2) (hb3 : Below (w2.setCell ⟨E.b, 5, none⟩ (.bool false)).heap.size (w2.setCell ⟨E.b, 5, none⟩ (.bool false)) w3) : Estep w w3 B win room E { E with owed := false } := by
 have h2 := h.still hb
 have k : Kept w2 (w2.setCell ⟨E.b, 5, none⟩ (.bool false)) (fun j => j = E.b) := kset _ _ _ _ rfl
 have hbl : (w2.setCell ⟨E.b, 5, none⟩ (.bool false)).heap[E.b]? = some (.cells ({ E with owed := false } : En).cs 100 (0, 0)) := blk_set h2.blk (by simp [En.cs])
 have h3 : ({ E with owed := false } : En).Ok (w2.setCell ⟨E.b, 5, none⟩ (.bool false)) B win room := { h with blk := hbl, oo := h2.oo.keep k (fun j hj e => h2.ne_o (by rw [<- e]; exact hj)), ii := h2.ii.keep k (fun j hj e => h2.ne_i (by rw [<- e]; exact hj)) }
 exact ⟨rfl, h3.still hb3, ((Kept.ofBelow hb _).step k (fun j hj => .inl (.inl hj))).step (Kept.ofBelow hb3 (fun _ => False)) (fun j hj => hj.elim), fun j hj => .inl hj⟩
theorem owed_no (h : M.Ok w B) {q : Int} (hq : M.at q = none) : Calls Try.prog 52 #[.pointer (some ⟨M.b, 0, none⟩), .int .i64 q] w fun e w' => e = .returned (.tuple #[.agg #[.int .i64 0, .int .i64 0, .int .i64 0, .int .i64 0, .int .i64 0], .bool false]) /\ Below w.heap.size w w' := by
 have HP : Hid (∀ w1, Below w.heap.size w w1 -> Calls Try.prog 60 #[.pointer (some ⟨M.b, 0, none⟩), .int .i64 q] w1 fun e w' => e = .returned (.pointer none) /\ w1 = w') := fun w1 hb => (show Calls _ _ _ _ _ from by have := peer_any (h.still hb) q; rw [hq] at this; exact this)
 generalize hW : w.alloc (.cells #[.int .i64 0, .int .i64 0, .int .i64 0, .int .i64 0, .int .i64 0] 74) = W
 have hbW := bW0 hW
 have hblk := hQ0 hW
 have HPW := HP.out W hbW
 have HPh : Hid (Calls _ _ _ _ _) := HPW
 have HBW : Hid (Below w.heap.size w W) := hbW
 have HT : Hid (W.there w.heap.size 0 5) := blk_there hblk rfl
 generalize hV : W.setCells w.heap.size 0 z5 = V
 have hVb : V.heap[w.heap.size]? = some (.cells z5.toArray 74 (0, 0)) := by rw [<- hV]; exact sets_whole hblk rfl
 have HBV : Hid (Below w.heap.size w V) := (show Below _ _ _ from by rw [<- hV]; exact bsets (Nat.le_refl _) _ _ hbW)
 have v0 : V.cell? ⟨w.heap.size, 0, none⟩ = some (.int .i64 0) := bC hVb 0
 have v1 : V.cell? ⟨w.heap.size, 1, none⟩ = some (.int .i64 0) := bC hVb 1
 have v2 : V.cell? ⟨w.heap.size, 2, none⟩ = some (.int .i64 0) := bC hVb 2
 have v3 : V.cell? ⟨w.heap.size, 3, none⟩ = some (.int .i64 0) := bC hVb 3
 have v4 : V.cell? ⟨w.heap.size, 4, none⟩ = some (.int .i64 0) := bC hVb 4
 clear h hq HPW hblk hbW hVb
 go_enter Try.func52, Try.ntmps52
 go_wp2_with (first | (go_at_call 60; refine HPh.out.mono ?_; rintro e w' ⟨rfl, rfl⟩) | (refine at_store 74 _ _ rfl ?_; refine wl_storeL rfl 74 _ _ rfl (L := z5) rfl rfl HT.out info_ack (ones5 0 0 0 0 0) ?_; rw [hV]) | fail)
 exact bodyPost_ret (v := .tuple #[.agg #[.int .i64 0, .int .i64 0, .int .i64 0, .int .i64 0, .int .i64 0], .bool false]) (by simp [results, Try.results52, go_sem, v0, v1, v2, v3, v4]) rfl ⟨rfl, HBV.out⟩
theorem owed_none (h : M.Ok w B) {q : Int} (hq : M.at q = some E) (ho : E.owed = false) : Calls Try.prog 52 #[.pointer (some ⟨M.b, 0, none⟩), .int .i64 q] w fun e w' => e = .returned (.tuple #[.agg #[.int .i64 0, .int .i64 0, .int .i64 0, .int .i64 0, .int .i64 0], .bool false]) /\ Below w.heap.size w w' := by
 have HP : Hid (∀ w1, Below w.heap.size w w1 -> Calls Try.prog 60 #[.pointer (some ⟨M.b, 0, none⟩), .int .i64 q] w1 fun e w' => e = .returned (.pointer (some ⟨E.b, 0, none⟩)) /\ w1 = w') := fun w1 hb => (show Calls _ _ _ _ _ from by have := peer_any (h.still hb) q; rw [hq] at this; exact this)
 obtain ⟨k, rfl, hk, he⟩ := at_es hq
 have hE := h.el k E he
 generalize hW : w.alloc (.cells #[.int .i64 0, .int .i64 0, .int .i64 0, .int .i64 0, .int .i64 0] 74) = W
 have hbW := bW0 hW
 have hblk := hQ0 hW
 have HPW := HP.out W hbW
 have HPh : Hid (Calls _ _ _ _ _) := HPW
 have HBW : Hid (Below w.heap.size w W) := hbW
 have HT : Hid (W.there w.heap.size 0 5) := blk_there hblk rfl
 generalize hV : W.setCells w.heap.size 0 z5 = V
 have hVb : V.heap[w.heap.size]? = some (.cells z5.toArray 74 (0, 0)) := by rw [<- hV]; exact sets_whole hblk rfl
 have HBV : Hid (Below w.heap.size w V) := (show Below _ _ _ from by rw [<- hV]; exact bsets (Nat.le_refl _) _ _ hbW)
 have v0 : V.cell? ⟨w.heap.size, 0, none⟩ = some (.int .i64 0) := bC hVb 0
 have v1 : V.cell? ⟨w.heap.size, 1, none⟩ = some (.int .i64 0) := bC hVb 1
 have v2 : V.cell? ⟨w.heap.size, 2, none⟩ = some (.int .i64 0) := bC hVb 2
 have v3 : V.cell? ⟨w.heap.size, 3, none⟩ = some (.int .i64 0) := bC hVb 3
 have v4 : V.cell? ⟨w.heap.size, 4, none⟩ = some (.int .i64 0) := bC hVb 4
 have c5 : W.cell? ⟨E.b, 5, none⟩ = some (.bool false) := (hE.still hbW).c 5 (by rw [<- ho]; rfl)
 clear h hq HPW hblk hbW hVb ho hE
 go_enter Try.func52, Try.ntmps52
 go_wp2_with (first | (go_at_call 60; refine HPh.out.mono ?_; rintro e w' ⟨rfl, rfl⟩) | (refine at_store 74 _ _ rfl ?_; refine wl_storeL rfl 74 _ _ rfl (L := z5) rfl rfl HT.out info_ack (ones5 0 0 0 0 0) ?_; rw [hV]) | fail)
 exact bodyPost_ret (v := .tuple #[.agg #[.int .i64 0, .int .i64 0, .int .i64 0, .int .i64 0, .int .i64 0], .bool false]) (by simp [results, Try.results52, go_sem, v0, v1, v2, v3, v4]) rfl ⟨rfl, HBV.out⟩
theorem owed_yes (h : M.Ok w B) {q : Int} (hq : M.at q = some E) (ho : E.owed = true) : Calls Try.prog 52 #[.pointer (some ⟨M.b, 0, none⟩), .int .i64 q] w fun e w' => e = .returned (.tuple #[.agg #[.int .i64 M.tag.e, .int .i64 M.tag.l, .int .i64 M.tag.i, .int .i64 M.tag.c, .int .i64 (E.i.p : Int)], .bool true]) /\ Estep w w' B M.win M.room E { E with owed := false } := by
 have HP : Hid (∀ w1, Below w.heap.size w w1 -> Calls Try.prog 60 #[.pointer (some ⟨M.b, 0, none⟩), .int .i64 q] w1 fun e w' => e = .returned (.pointer (some ⟨E.b, 0, none⟩)) /\ w1 = w') := fun w1 hb => (show Calls _ _ _ _ _ from by have := peer_any (h.still hb) q; rw [hq] at this; exact this)
 obtain ⟨k, rfl, hk, he⟩ := at_es hq
 have hE := h.el k E he
 generalize hW : w.alloc (.cells #[.int .i64 0, .int .i64 0, .int .i64 0, .int .i64 0, .int .i64 0] 74) = W
 have hbW := bW0 hW
 have hblk := hQ0 hW
 have HPW := HP.out W hbW
 have HPh : Hid (Calls _ _ _ _ _) := HPW
 have HBW : Hid (Below w.heap.size w W) := hbW
 have hEW := hE.still hbW
 have c5 : W.cell? ⟨E.b, 5, none⟩ = some (.bool true) := hEW.c 5 (by rw [<- ho]; rfl)
 have f5 := frozen_of_row W E.b 5 _ _ hEW.blk
 have hne : E.b ≠ w.heap.size := fun e => by have := hE.lt (.inl rfl); omega
 generalize hU : W.setCell ⟨E.b, 5, none⟩ (.bool false) = U
 have hUb : U.heap[w.heap.size]? = some (.cells #[.int .i64 0, .int .i64 0, .int .i64 0, .int .i64 0, .int .i64 0] 74 (0, 0)) := by rw [<- hU]; exact blk_set_ne hblk (fun e => hne e.symm)
 have hMb : M.b ≠ E.b := fun e => (h.ne_e he).1 (.inl e)
 have kU : Kept W U (fun j => j = E.b) := by rw [<- hU]; exact kset _ _ _ _ rfl
 have m3 : U.cell? ⟨M.b, 3, none⟩ = some (.int .i64 M.tag.e) := kC kU hMb ((h.still hbW).c 3 rfl)
 have m4 : U.cell? ⟨M.b, 4, none⟩ = some (.int .i64 M.tag.l) := kC kU hMb ((h.still hbW).c 4 rfl)
 have m5 : U.cell? ⟨M.b, 5, none⟩ = some (.int .i64 M.tag.i) := kC kU hMb ((h.still hbW).c 5 rfl)
 have m6 : U.cell? ⟨M.b, 6, none⟩ = some (.int .i64 M.tag.c) := kC kU hMb ((h.still hbW).c 6 rfl)
 have x3 : U.cell? ⟨E.b, 3, none⟩ = some (.int .i64 (E.i.p : Int)) := by rw [<- hU, bC (blk_set hEW.blk rfl)]; rfl
 have hbD : Below U.heap.size U U.drew := (Below.refl _ _).drew
 have hDb := (hbD.block _ (lt_heap hUb)).trans hUb
 have HT : Hid (U.drew.there w.heap.size 0 5) := blk_there hDb rfl
 generalize hV : U.drew.setCells w.heap.size 0 [.int .i64 M.tag.e, .int .i64 M.tag.l, .int .i64 M.tag.i, .int .i64 M.tag.c, .int .i64 (E.i.p : Int)] = V
 have hVb : V.heap[w.heap.size]? = some (.cells [.int .i64 M.tag.e, .int .i64 M.tag.l, .int .i64 M.tag.i, .int .i64 M.tag.c, .int .i64 (E.i.p : Int)].toArray 74 (0, 0)) := by rw [<- hV]; exact sets_whole hDb rfl
 have kV : Kept U.drew V (fun j => j = w.heap.size) := by rw [<- hV]; exact ksets (P := fun j => j = w.heap.size) rfl _ _ _
 have hMn : M.b ≠ w.heap.size := fun e => by have := lt_heap h.blk; omega
 have HXV : Hid (V.cell? ⟨M.b, 3, none⟩ = some (.int .i64 M.tag.e) /\ V.cell? ⟨M.b, 4, none⟩ = some (.int .i64 M.tag.l) /\ V.cell? ⟨M.b, 5, none⟩ = some (.int .i64 M.tag.i) /\ V.cell? ⟨M.b, 6, none⟩ = some (.int .i64 M.tag.c) /\ V.cell? ⟨E.b, 3, none⟩ = some (.int .i64 (E.i.p : Int))) := (show _ /\ _ from ⟨kC kV hMn (bA hbD m3), kC kV hMn (bA hbD m4), kC kV hMn (bA hbD m5), kC kV hMn (bA hbD m6), kC kV hne (bA hbD x3)⟩)
 have HF : Hid (Estep w V B M.win M.room E { E with owed := false }) := (show Estep _ _ _ _ _ _ _ from by
  have hWs : W.heap.size = w.heap.size + 1 := by rw [<- hW]; simp
  have hUs : U.heap.size = W.heap.size := by rw [<- hU]; simp
  have e1 := owe_fin hE hbW (w3 := U.drew) (by rw [hU]; exact hbD)
  have hok := e1.ok.keep kV (fun j hj e => by
   have e' : j = w.heap.size := e
   have : E.own j := by
    rcases hj with h1 | h1 | h1
    ·exact .inl h1
    ·exact .inr (.inl h1)
    ·exact .inr (.inr h1)
   have := hE.lt this; omega)
  exact ⟨rfl, hok, e1.kept.step kV (fun j hj => .inr (by have e' : j = w.heap.size := hj; omega)), e1.own⟩)
 have v0 : V.cell? ⟨w.heap.size, 0, none⟩ = some (.int .i64 M.tag.e) := bC hVb 0
 have v1 : V.cell? ⟨w.heap.size, 1, none⟩ = some (.int .i64 M.tag.l) := bC hVb 1
 have v2 : V.cell? ⟨w.heap.size, 2, none⟩ = some (.int .i64 M.tag.i) := bC hVb 2
 have v3 : V.cell? ⟨w.heap.size, 3, none⟩ = some (.int .i64 M.tag.c) := bC hVb 3
 have v4 : V.cell? ⟨w.heap.size, 4, none⟩ = some (.int .i64 (E.i.p : Int)) := bC hVb 4
 clear h hq HPW hblk hbW hVb ho hE hEW hne hUb hMb kU hbD hDb kV hMn
 go_enter Try.func52, Try.ntmps52
 go_wp2_with (first | (go_at_call 60; refine HPh.out.mono ?_; rintro e w' ⟨rfl, rfl⟩) | fail)
 refine wp_region_held_drew (S := (fun w' => w'.cell? ⟨M.b, 3, none⟩ = some (.int .i64 M.tag.e) /\ w'.cell? ⟨M.b, 4, none⟩ = some (.int .i64 M.tag.l) /\ w'.cell? ⟨M.b, 5, none⟩ = some (.int .i64 M.tag.i) /\ w'.cell? ⟨M.b, 6, none⟩ = some (.int .i64 M.tag.c) /\ w'.cell? ⟨E.b, 3, none⟩ = some (.int .i64 (E.i.p : Int)))) (by kernel_rfl) ⟨bA (Below.refl _ _).drew m3, bA (Below.refl _ _).drew m4, bA (Below.refl _ _).drew m5, bA (Below.refl _ _).drew m6, bA (Below.refl _ _).drew x3⟩ (fun hH => ?_)
 simp only [Act.put, lA, lC, lN, zA]
 refine wG 0 (.pointer (some ⟨M.b, 0, none⟩)) rfl hH ?_
 simp only [aP, gA, gZ, gC, sA, sZ, sC]
 refine wG 1 (.pointer (some ⟨M.b, 0, none⟩)) rfl hH ?_
 simp only [aP, gA, gZ, gC, sA, sZ, sC]
 refine wG 2 (.pointer (some ⟨M.b, 3, none⟩)) rfl hH ?_
 simp only [aP, gA, gZ, gC, sA, sZ, sC]
 refine wL 3 (.agg #[.int .i64 M.tag.e, .int .i64 M.tag.l, .int .i64 M.tag.i, .int .i64 M.tag.c]) rfl hH ?_
 simp only [aP, gA, gZ, gC, sA, sZ, sC]
 refine wG 4 (.pointer (some ⟨E.b, 0, none⟩)) rfl hH ?_
 simp only [aP, gA, gZ, gC, sA, sZ, sC]
 refine wG 5 (.pointer (some ⟨E.b, 0, none⟩)) rfl hH ?_
 simp only [aP, gA, gZ, gC, sA, sZ, sC]
 refine wG 6 (.pointer (some ⟨E.b, 3, none⟩)) rfl hH ?_
 simp only [aP, gA, gZ, gC, sA, sZ, sC]
 refine wG 7 (.pointer (some ⟨E.b, 3, none⟩)) rfl hH ?_
 simp only [aP, gA, gZ, gC, sA, sZ, sC]
 refine wL 8 (.int .i64 (E.i.p : Int)) rfl hH ?_
 simp only [aP, gA, gZ, gC, sA, sZ, sC]
 refine wG 9 (.agg #[.int .i64 M.tag.e, .int .i64 M.tag.l, .int .i64 M.tag.i, .int .i64 M.tag.c, .int .i64 (E.i.p : Int)]) rfl hH ?_
 simp only [aP, gA, gZ, gC, sA, sZ, sC]
 refine rY 10 rfl fun K hK => ?_
 refine step_storeL rfl 74 (.tmp 4) (.tmp 32) rfl (L := [.int .i64 M.tag.e, .int .i64 M.tag.l, .int .i64 M.tag.i, .int .i64 M.tag.c, .int .i64 (E.i.p : Int)]) rfl rfl HT.out info_ack (ones5 _ _ _ _ _) ?_
 rw [hV]
 refine hK.out _ _ (by exact HXV.out) (fun hH => ?_)
 clear hK K
 refine wG 11 (.bool true) rfl hH ?_
 simp only [aP, gA, gZ, gC, sA, sZ, sC]
 refine wpAnyH_done (by kernel_rfl) ?_ _
 clear hH
 go_wp2
 exact bodyPost_ret (v := .tuple #[.agg #[.int .i64 M.tag.e, .int .i64 M.tag.l, .int .i64 M.tag.i, .int .i64 M.tag.c, .int .i64 (E.i.p : Int)], .bool true]) (by simp [results, Try.results52, go_sem, v0, v1, v2, v3, v4]) rfl ⟨rfl, HF.out⟩
end
end Go.Proofs.Ythanifbimndhaaa.Ln
