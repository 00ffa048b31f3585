import Derived.Test.YthanifbimndhaaaM5
namespace Go.Proofs.Ythanifbimndhaaa.Ln
set_option maxHeartbeats 40000000
open Go.RowKit Mb
set_option linter.unusedVariables false
set_option maxRecDepth 100000
set_option linter.unusedSimpArgs false
section
variable {w w' W : World} {B win room : Nat} {S S' : St} {E E' : En} {M M' : Mx}
theorem dB (w : World) : Below w.heap.size w w.drew := (Below.refl _ _).drew
theorem rd_ends {D : World} {eb : Nat} {ao : Option Addr} {n c : Nat} {bs : List Int} {i : Nat} {v : Value} (hE : E.Ok D B win room) (hr : Rd D ao n c bs) (hn : 0 < n) : Rd (D.setCell ⟨E.b, i, none⟩ v) ao n c bs := by
 refine hr.keep (kset (P := fun j => j = E.b) _ _ _ _ rfl) fun b off he hb => ?_
 have hb' : b = E.b := hb
 rcases hr.at_ with h0 | ⟨b', off', h1, hc⟩
 ·omega
 ·rw [he] at h1
  cases h1
  have hcc := hc 0 (by omega)
  rw [hb', bC hE.blk] at hcc
  exact ends_byte E _ _ hcc
theorem take_far (h : M.Ok w B) {q : Int} (hq : M.at q = some E) (t : Tg) {u : Nat} {ao : Option Addr} {n c : Nat} (hu1 : 1 ≤ u) (hu : u ≤ 4611686018427387904) (hn : inR 1 300 (n : Int) = true) (ht : t = M.tag) (hf : E.i.p + M.win < u) : Calls Try.prog 28 #[.pointer (some ⟨M.b, 0, none⟩), .int .i64 q, .agg #[.int .i64 t.e, .int .i64 t.l, .int .i64 t.i, .int .i64 t.c, .int .i64 (u : Int), .slice ao n c]] w fun e w' => e = .returned (.tuple #[.slice none 0 0, .int .i64 43]) /\ Below w.heap.size w w' := by
 have HP : Hid (∀ w1, Below w.heap.size w w1 -> Calls Try.prog 60 #[.pointer (some ⟨M.b, 0, none⟩), .int .i64 q] w1 fun e w' => e = .returned (.pointer (some ⟨E.b, 0, none⟩)) /\ w1 = w') := fun w1 hb => (show Calls _ _ _ _ _ from by have := peer_any (h.still hb) q; rw [hq] at this; exact this)
 obtain ⟨k, rfl, hk, he⟩ := at_es hq
 have hE := h.el k E he
 generalize hW : w.alloc (.cells #[.int .i64 t.e, .int .i64 t.l, .int .i64 t.i, .int .i64 t.c, .int .i64 (u : Int), .slice ao n c] 55) = W
 have hbW := bW0 hW
 have hblk := hQ0 hW
 have a0 : W.cell? ⟨w.heap.size, 0, none⟩ = some (.int .i64 t.e) := bC hblk 0
 have a1 : W.cell? ⟨w.heap.size, 1, none⟩ = some (.int .i64 t.l) := bC hblk 1
 have a2 : W.cell? ⟨w.heap.size, 2, none⟩ = some (.int .i64 t.i) := bC hblk 2
 have a3 : W.cell? ⟨w.heap.size, 3, none⟩ = some (.int .i64 t.c) := bC hblk 3
 have a4 : W.cell? ⟨w.heap.size, 4, none⟩ = some (.int .i64 (u : Int)) := bC hblk 4
 have a5 : W.cell? ⟨w.heap.size, 5, none⟩ = some (.slice ao n c) := bC hblk 5
 have HPW := HP.out W hbW
 have HPh : Hid (Calls _ _ _ _ _) := HPW
 have HBW : Hid (Below w.heap.size w W) := hbW
 have HWi : Hid (Calls Try.prog 66 #[.int .i64 (u : Int), .int .i64 1, .int .i64 4611686018427387904] W fun e w' => e = .returned (.bool true) /\ W = w') := (show Calls _ _ _ _ _ from by have := within_any (w := W) (u : Int) 1 4611686018427387904; rw [inR_t (by omega) (by omega)] at this; exact this)
 have HBd : Hid (Calls Try.prog 69 #[.slice ao n c] W fun e w' => e = .returned (.bool true) /\ W = w') := (show Calls _ _ _ _ _ from by rw [<- hn]; exact body_any)
 have m3 : W.cell? ⟨M.b, 3, none⟩ = some (.int .i64 M.tag.e) := (h.still hbW).c 3 rfl
 have m4 : W.cell? ⟨M.b, 4, none⟩ = some (.int .i64 M.tag.l) := (h.still hbW).c 4 rfl
 have m5 : W.cell? ⟨M.b, 5, none⟩ = some (.int .i64 M.tag.i) := (h.still hbW).c 5 rfl
 have m6 : W.cell? ⟨M.b, 6, none⟩ = some (.int .i64 M.tag.c) := (h.still hbW).c 6 rfl
 have HQ : Hid (decide (t = M.tag) = true) := (show _ = _ from by rw [decide_eq_true_eq]; exact ht)
 have hp6 := hE.ii.p62
 have hw1 := h.w1
 have HE : Hid (E.Ok w B M.win M.room) := hE
 have hEW := hE.still hbW
 have b4 := bA (dB W) a4
 have b3 : W.drew.cell? ⟨E.b, 3, none⟩ = some (.int .i64 (E.i.p : Int)) := (hEW.still (dB W)).c 3 rfl
 have b1 : W.drew.cell? ⟨M.b, 1, none⟩ = some (.int .i64 (M.win : Int)) := ((h.still hbW).still (dB W)).c 1 rfl
 have HM : Hid (M.Ok w B) := h
 have hne : M.b ≠ E.b := fun e => (h.ne_e he).1 (.inl e)
 have Hne : Hid (M.b ≠ E.b) := hne
 clear h hq HPW hblk hbW ht hE hEW hn hne
 go_enter Try.func28, Try.ntmps28
 go_wp2_with (first | (go_at_call 60; refine HPh.out.mono ?_; rintro e w' ⟨rfl, rfl⟩) | (go_at_call 66; refine HWi.out.mono ?_; rintro e w' ⟨rfl, rfl⟩) | (go_at_call 69; refine HBd.out.mono ?_; rintro e w' ⟨rfl, rfl⟩) | fail)
 refine wp_region_held_drew (S := (fun w' => w'.cell? ⟨w.heap.size, 0, none⟩ = some (.int .i64 t.e) /\ w'.cell? ⟨w.heap.size, 1, none⟩ = some (.int .i64 t.l) /\ w'.cell? ⟨w.heap.size, 2, none⟩ = some (.int .i64 t.i) /\ w'.cell? ⟨w.heap.size, 3, none⟩ = some (.int .i64 t.c) /\ w'.cell? ⟨M.b, 3, none⟩ = some (.int .i64 M.tag.e) /\ w'.cell? ⟨M.b, 4, none⟩ = some (.int .i64 M.tag.l) /\ w'.cell? ⟨M.b, 5, none⟩ = some (.int .i64 M.tag.i) /\ w'.cell? ⟨M.b, 6, none⟩ = some (.int .i64 M.tag.c))) (by kernel_rfl) ⟨bA (Below.refl _ _).drew a0, bA (Below.refl _ _).drew a1, bA (Below.refl _ _).drew a2, bA (Below.refl _ _).drew a3, bA (Below.refl _ _).drew m3, bA (Below.refl _ _).drew m4, bA (Below.refl _ _).drew m5, bA (Below.refl _ _).drew m6⟩ (fun hH => ?_)
 simp only [Act.put, lA, lC, lN, zA]
 refine wG 0 (.pointer (some ⟨w.heap.size, 0, none⟩)) rfl hH ?_
 simp only [aP, gA, gZ, gC, sA, sZ, sC]
 refine wL 1 (.agg #[.int .i64 t.e, .int .i64 t.l, .int .i64 t.i, .int .i64 t.c]) rfl hH ?_
 simp only [aP, gA, gZ, gC, sA, sZ, sC]
 refine wG 2 (.pointer (some ⟨M.b, 0, none⟩)) rfl hH ?_
 simp only [aP, gA, gZ, gC, sA, sZ, sC]
 refine wG 3 (.pointer (some ⟨M.b, 0, none⟩)) rfl hH ?_
 simp only [aP, gA, gZ, gC, sA, sZ, sC]
 refine wG 4 (.pointer (some ⟨M.b, 3, none⟩)) rfl hH ?_
 simp only [aP, gA, gZ, gC, sA, sZ, sC]
 refine wL 5 (.agg #[.int .i64 M.tag.e, .int .i64 M.tag.l, .int .i64 M.tag.i, .int .i64 M.tag.c]) rfl hH ?_
 simp only [aP, gA, gZ, gC, sA, sZ, sC]
 refine wX 6 (.bool (!(true))) rfl (Or.inl ⟨by rfl, fun w' hS => run_neqop 39 (.tmp 26) (.tmp 30) 39 rfl _ _ (by rfl) (by rfl) guard_id _ (by have e1 := eq_tag (w := w') t M.tag; rw [HQ.out] at e1; exact e1)⟩) hH ?_
 simp only [aP, gA, gZ, gC, sA, sZ, sC]
 refine wpAnyH_done (by kernel_rfl) ?_ _
 clear hH
 go_wp2
 refine wp_region_held_drew (S := (fun w' => w'.cell? ⟨w.heap.size, 4, none⟩ = some (.int .i64 (u : Int)) /\ w'.cell? ⟨E.b, 3, none⟩ = some (.int .i64 (E.i.p : Int)) /\ w'.cell? ⟨M.b, 1, none⟩ = some (.int .i64 (M.win : Int)))) (by kernel_rfl) ⟨bA (Below.refl _ _).drew b4, bA (Below.refl _ _).drew b3, bA (Below.refl _ _).drew b1⟩ (fun hH => ?_)
 simp only [Act.put, lA, lC, lN, zA]
 refine wG 0 (.pointer (some ⟨w.heap.size, 4, none⟩)) rfl hH ?_
 simp only [aP, gA, gZ, gC, sA, sZ, sC]
 refine wL 1 (.int .i64 (u : Int)) rfl hH ?_
 simp only [aP, gA, gZ, gC, sA, sZ, sC]
 refine wG 2 (.pointer (some ⟨E.b, 0, none⟩)) rfl hH ?_
 simp only [aP, gA, gZ, gC, sA, sZ, sC]
 refine wG 3 (.pointer (some ⟨E.b, 0, none⟩)) rfl hH ?_
 simp only [aP, gA, gZ, gC, sA, sZ, sC]
 refine wG 4 (.pointer (some ⟨E.b, 3, none⟩)) rfl hH ?_
 simp only [aP, gA, gZ, gC, sA, sZ, sC]
 refine wG 5 (.pointer (some ⟨E.b, 3, none⟩)) rfl hH ?_
 simp only [aP, gA, gZ, gC, sA, sZ, sC]
 refine wL 6 (.int .i64 (E.i.p : Int)) rfl hH ?_
 simp only [aP, gA, gZ, gC, sA, sZ, sC]
 refine wG 7 (.pointer (some ⟨M.b, 0, none⟩)) rfl hH ?_
 simp only [aP, gA, gZ, gC, sA, sZ, sC]
 refine wG 8 (.pointer (some ⟨M.b, 0, none⟩)) rfl hH ?_
 simp only [aP, gA, gZ, gC, sA, sZ, sC]
 refine wG 9 (.pointer (some ⟨M.b, 1, none⟩)) rfl hH ?_
 simp only [aP, gA, gZ, gC, sA, sZ, sC]
 refine wL 10 (.int .i64 (M.win : Int)) rfl hH ?_
 simp only [aP, gA, gZ, gC, sA, sZ, sC]
 refine wX 11 (.int .i64 ((E.i.p : Int) + (M.win : Int))) rfl (Or.inl ⟨by rfl, fun w' hS => by (go_simp; exact wrap_id (by omega) (by omega))⟩) hH ?_
 simp only [aP, gA, gZ, gC, sA, sZ, sC]
 refine wX 12 (.bool true) rfl (Or.inl ⟨by rfl, fun w' hS => by (go_simp <;> omega)⟩) hH ?_
 simp only [aP, gA, gZ, gC, sA, sZ, sC]
 refine wpAnyH_done (by kernel_rfl) ?_ _
 clear hH
 go_wp2
 exact bodyPost_ret (v := .tuple #[.slice none 0 0, .int .i64 43]) (by simp [results, Try.results28, go_sem]) rfl ⟨rfl, HBW.out.drew.drew⟩
theorem take_old1 (h : M.Ok w B) {q : Int} (hq : M.at q = some E) (t : Tg) {u : Nat} {ao : Option Addr} {n c : Nat} (hu1 : 1 ≤ u) (hu : u ≤ 4611686018427387904) (hn : inR 1 300 (n : Int) = true) (ht : t = M.tag) (hf : u ≤ E.i.p) : Calls Try.prog 28 #[.pointer (some ⟨M.b, 0, none⟩), .int .i64 q, .agg #[.int .i64 t.e, .int .i64 t.l, .int .i64 t.i, .int .i64 t.c, .int .i64 (u : Int), .slice ao n c]] w fun e w' => e = .returned (.tuple #[.slice none 0 0, .int .i64 0]) /\ Estep w w' B M.win M.room E E.ow := by
 have HP : Hid (∀ w1, Below w.heap.size w w1 -> Calls Try.prog 60 #[.pointer (some ⟨M.b, 0, none⟩), .int .i64 q] w1 fun e w' => e = .returned (.pointer (some ⟨E.b, 0, none⟩)) /\ w1 = w') := fun w1 hb => (show Calls _ _ _ _ _ from by have := peer_any (h.still hb) q; rw [hq] at this; exact this)
 obtain ⟨k, rfl, hk, he⟩ := at_es hq
 have hE := h.el k E he
 generalize hW : w.alloc (.cells #[.int .i64 t.e, .int .i64 t.l, .int .i64 t.i, .int .i64 t.c, .int .i64 (u : Int), .slice ao n c] 55) = W
 have hbW := bW0 hW
 have hblk := hQ0 hW
 have a0 : W.cell? ⟨w.heap.size, 0, none⟩ = some (.int .i64 t.e) := bC hblk 0
 have a1 : W.cell? ⟨w.heap.size, 1, none⟩ = some (.int .i64 t.l) := bC hblk 1
 have a2 : W.cell? ⟨w.heap.size, 2, none⟩ = some (.int .i64 t.i) := bC hblk 2
 have a3 : W.cell? ⟨w.heap.size, 3, none⟩ = some (.int .i64 t.c) := bC hblk 3
 have a4 : W.cell? ⟨w.heap.size, 4, none⟩ = some (.int .i64 (u : Int)) := bC hblk 4
 have a5 : W.cell? ⟨w.heap.size, 5, none⟩ = some (.slice ao n c) := bC hblk 5
 have HPW := HP.out W hbW
 have HPh : Hid (Calls _ _ _ _ _) := HPW
 have HBW : Hid (Below w.heap.size w W) := hbW
 have HWi : Hid (Calls Try.prog 66 #[.int .i64 (u : Int), .int .i64 1, .int .i64 4611686018427387904] W fun e w' => e = .returned (.bool true) /\ W = w') := (show Calls _ _ _ _ _ from by have := within_any (w := W) (u : Int) 1 4611686018427387904; rw [inR_t (by omega) (by omega)] at this; exact this)
 have HBd : Hid (Calls Try.prog 69 #[.slice ao n c] W fun e w' => e = .returned (.bool true) /\ W = w') := (show Calls _ _ _ _ _ from by rw [<- hn]; exact body_any)
 have m3 : W.cell? ⟨M.b, 3, none⟩ = some (.int .i64 M.tag.e) := (h.still hbW).c 3 rfl
 have m4 : W.cell? ⟨M.b, 4, none⟩ = some (.int .i64 M.tag.l) := (h.still hbW).c 4 rfl
 have m5 : W.cell? ⟨M.b, 5, none⟩ = some (.int .i64 M.tag.i) := (h.still hbW).c 5 rfl
 have m6 : W.cell? ⟨M.b, 6, none⟩ = some (.int .i64 M.tag.c) := (h.still hbW).c 6 rfl
 have HQ : Hid (decide (t = M.tag) = true) := (show _ = _ from by rw [decide_eq_true_eq]; exact ht)
 have hp6 := hE.ii.p62
 have hw1 := h.w1
 have HE : Hid (E.Ok w B M.win M.room) := hE
 have hEW := hE.still hbW
 have b4 := bA (dB W) a4
 have b3 : W.drew.cell? ⟨E.b, 3, none⟩ = some (.int .i64 (E.i.p : Int)) := (hEW.still (dB W)).c 3 rfl
 have b1 : W.drew.cell? ⟨M.b, 1, none⟩ = some (.int .i64 (M.win : Int)) := ((h.still hbW).still (dB W)).c 1 rfl
 have HM : Hid (M.Ok w B) := h
 have hne : M.b ≠ E.b := fun e => (h.ne_e he).1 (.inl e)
 have Hne : Hid (M.b ≠ E.b) := hne
 clear h hq HPW hblk hbW ht hE hEW hn hne
 go_enter Try.func28, Try.ntmps28
 go_wp2_with (first | (go_at_call 60; refine HPh.out.mono ?_; rintro e w' ⟨rfl, rfl⟩) | (go_at_call 66; refine HWi.out.mono ?_; rintro e w' ⟨rfl, rfl⟩) | (go_at_call 69; refine HBd.out.mono ?_; rintro e w' ⟨rfl, rfl⟩) | fail)
 refine wp_region_held_drew (S := (fun w' => w'.cell? ⟨w.heap.size, 0, none⟩ = some (.int .i64 t.e) /\ w'.cell? ⟨w.heap.size, 1, none⟩ = some (.int .i64 t.l) /\ w'.cell? ⟨w.heap.size, 2, none⟩ = some (.int .i64 t.i) /\ w'.cell? ⟨w.heap.size, 3, none⟩ = some (.int .i64 t.c) /\ w'.cell? ⟨M.b, 3, none⟩ = some (.int .i64 M.tag.e) /\ w'.cell? ⟨M.b, 4, none⟩ = some (.int .i64 M.tag.l) /\ w'.cell? ⟨M.b, 5, none⟩ = some (.int .i64 M.tag.i) /\ w'.cell? ⟨M.b, 6, none⟩ = some (.int .i64 M.tag.c))) (by kernel_rfl) ⟨bA (Below.refl _ _).drew a0, bA (Below.refl _ _).drew a1, bA (Below.refl _ _).drew a2, bA (Below.refl _ _).drew a3, bA (Below.refl _ _).drew m3, bA (Below.refl _ _).drew m4, bA (Below.refl _ _).drew m5, bA (Below.refl _ _).drew m6⟩ (fun hH => ?_)
 simp only [Act.put, lA, lC, lN, zA]
 refine wG 0 (.pointer (some ⟨w.heap.size, 0, none⟩)) rfl hH ?_
 simp only [aP, gA, gZ, gC, sA, sZ, sC]
 refine wL 1 (.agg #[.int .i64 t.e, .int .i64 t.l, .int .i64 t.i, .int .i64 t.c]) rfl hH ?_
 simp only [aP, gA, gZ, gC, sA, sZ, sC]
 refine wG 2 (.pointer (some ⟨M.b, 0, none⟩)) rfl hH ?_
 simp only [aP, gA, gZ, gC, sA, sZ, sC]
 refine wG 3 (.pointer (some ⟨M.b, 0, none⟩)) rfl hH ?_
 simp only [aP, gA, gZ, gC, sA, sZ, sC]
 refine wG 4 (.pointer (some ⟨M.b, 3, none⟩)) rfl hH ?_
 simp only [aP, gA, gZ, gC, sA, sZ, sC]
 refine wL 5 (.agg #[.int .i64 M.tag.e, .int .i64 M.tag.l, .int .i64 M.tag.i, .int .i64 M.tag.c]) rfl hH ?_
 simp only [aP, gA, gZ, gC, sA, sZ, sC]
 refine wX 6 (.bool (!(true))) rfl (Or.inl ⟨by rfl, fun w' hS => run_neqop 39 (.tmp 26) (.tmp 30) 39 rfl _ _ (by rfl) (by rfl) guard_id _ (by have e1 := eq_tag (w := w') t M.tag; rw [HQ.out] at e1; exact e1)⟩) hH ?_
 simp only [aP, gA, gZ, gC, sA, sZ, sC]
 refine wpAnyH_done (by kernel_rfl) ?_ _
 clear hH
 go_wp2
 refine wp_region_held_drew (S := (fun w' => w'.cell? ⟨w.heap.size, 4, none⟩ = some (.int .i64 (u : Int)) /\ w'.cell? ⟨E.b, 3, none⟩ = some (.int .i64 (E.i.p : Int)) /\ w'.cell? ⟨M.b, 1, none⟩ = some (.int .i64 (M.win : Int)))) (by kernel_rfl) ⟨bA (Below.refl _ _).drew b4, bA (Below.refl _ _).drew b3, bA (Below.refl _ _).drew b1⟩ (fun hH => ?_)
 simp only [Act.put, lA, lC, lN, zA]
 refine wG 0 (.pointer (some ⟨w.heap.size, 4, none⟩)) rfl hH ?_
 simp only [aP, gA, gZ, gC, sA, sZ, sC]
 refine wL 1 (.int .i64 (u : Int)) rfl hH ?_
 simp only [aP, gA, gZ, gC, sA, sZ, sC]
 refine wG 2 (.pointer (some ⟨E.b, 0, none⟩)) rfl hH ?_
 simp only [aP, gA, gZ, gC, sA, sZ, sC]
 refine wG 3 (.pointer (some ⟨E.b, 0, none⟩)) rfl hH ?_
 simp only [aP, gA, gZ, gC, sA, sZ, sC]
 refine wG 4 (.pointer (some ⟨E.b, 3, none⟩)) rfl hH ?_
 simp only [aP, gA, gZ, gC, sA, sZ, sC]
 refine wG 5 (.pointer (some ⟨E.b, 3, none⟩)) rfl hH ?_
 simp only [aP, gA, gZ, gC, sA, sZ, sC]
 refine wL 6 (.int .i64 (E.i.p : Int)) rfl hH ?_
 simp only [aP, gA, gZ, gC, sA, sZ, sC]
 refine wG 7 (.pointer (some ⟨M.b, 0, none⟩)) rfl hH ?_
 simp only [aP, gA, gZ, gC, sA, sZ, sC]
 refine wG 8 (.pointer (some ⟨M.b, 0, none⟩)) rfl hH ?_
 simp only [aP, gA, gZ, gC, sA, sZ, sC]
 refine wG 9 (.pointer (some ⟨M.b, 1, none⟩)) rfl hH ?_
 simp only [aP, gA, gZ, gC, sA, sZ, sC]
 refine wL 10 (.int .i64 (M.win : Int)) rfl hH ?_
 simp only [aP, gA, gZ, gC, sA, sZ, sC]
 refine wX 11 (.int .i64 ((E.i.p : Int) + (M.win : Int))) rfl (Or.inl ⟨by rfl, fun w' hS => by (go_simp; exact wrap_id (by omega) (by omega))⟩) hH ?_
 simp only [aP, gA, gZ, gC, sA, sZ, sC]
 refine wX 12 (.bool false) rfl (Or.inl ⟨by rfl, fun w' hS => by (go_simp <;> omega)⟩) hH ?_
 simp only [aP, gA, gZ, gC, sA, sZ, sC]
 refine wpAnyH_done (by kernel_rfl) ?_ _
 clear hH
 have HBD : Hid (Below w.heap.size w W.drew.drew) := HBW.out.drew.drew
 have x4 := bA (dB _) b4
 have x5 := bA (dB _) (dW0 a5)
 generalize W.drew.drew = D0 at *
 have hED := HE.out.still HBD.out
 have HED : Hid (E.Ok D0 B M.win M.room) := hED
 have f5 := frozen_of_row D0 E.b 5 _ _ hED.blk
 have z5' : D0.cell? ⟨E.b, 5, none⟩ = some (.bool E.owed) := hED.c 5 rfl
 have hFE : w.heap.size ≠ E.b := fun e => by have := HE.out.lt (.inl rfl); omega
 generalize hU : D0.setCell ⟨E.b, 5, none⟩ (.bool true) = U
 have kU : Kept D0 U (fun j => j = E.b) := by rw [<- hU]; exact kset _ _ _ _ rfl
 have hOU : E.ow.Ok U B M.win M.room := by rw [<- hU]; exact ow_ok hED
 have y4 : U.cell? ⟨w.heap.size, 4, none⟩ = some (.int .i64 (u : Int)) := kC kU hFE x4
 have y5 : U.cell? ⟨w.heap.size, 5, none⟩ = some (.slice ao n c) := kC kU hFE x5
 have y3 : U.cell? ⟨E.b, 3, none⟩ = some (.int .i64 (E.i.p : Int)) := hOU.c 3 rfl
 have HOU : Hid (E.ow.Ok U B M.win M.room) := hOU
 have HUb : Hid (Below (D0.setCell ⟨E.b, 5, none⟩ (.bool true)).heap.size (D0.setCell ⟨E.b, 5, none⟩ (.bool true)) U.drew) := (show Below _ _ _ from by rw [hU]; exact dB U)
 have HFo : Hid (Estep w U.drew B M.win M.room E E.ow) := ow_fin HE.out HBD.out HUb.out
 clear hED hOU x4 x5 b4 b3 b1
 go_wp2
 refine wp_region_held_drew (S := (fun w' => w'.cell? ⟨w.heap.size, 4, none⟩ = some (.int .i64 (u : Int)) /\ w'.cell? ⟨E.b, 3, none⟩ = some (.int .i64 (E.i.p : Int)))) (by kernel_rfl) ⟨bA (Below.refl _ _).drew y4, bA (Below.refl _ _).drew y3⟩ (fun hH => ?_)
 simp only [Act.put, lA, lC, lN, zA]
 refine wG 0 (.pointer (some ⟨w.heap.size, 4, none⟩)) rfl hH ?_
 simp only [aP, gA, gZ, gC, sA, sZ, sC]
 refine wL 1 (.int .i64 (u : Int)) rfl hH ?_
 simp only [aP, gA, gZ, gC, sA, sZ, sC]
 refine wG 2 (.pointer (some ⟨E.b, 0, none⟩)) rfl hH ?_
 simp only [aP, gA, gZ, gC, sA, sZ, sC]
 refine wG 3 (.pointer (some ⟨E.b, 0, none⟩)) rfl hH ?_
 simp only [aP, gA, gZ, gC, sA, sZ, sC]
 refine wG 4 (.pointer (some ⟨E.b, 3, none⟩)) rfl hH ?_
 simp only [aP, gA, gZ, gC, sA, sZ, sC]
 refine wG 5 (.pointer (some ⟨E.b, 3, none⟩)) rfl hH ?_
 simp only [aP, gA, gZ, gC, sA, sZ, sC]
 refine wL 6 (.int .i64 (E.i.p : Int)) rfl hH ?_
 simp only [aP, gA, gZ, gC, sA, sZ, sC]
 refine wX 7 (.bool true) rfl (Or.inl ⟨by rfl, fun w' hS => by (go_simp <;> omega)⟩) hH ?_
 simp only [aP, gA, gZ, gC, sA, sZ, sC]
 refine wG 8 (.bool true) rfl hH ?_
 simp only [aP, gA, gZ, gC, sA, sZ, sC]
 refine wS 9 rfl hH ?_
 simp only [aP, gA, gZ, gC, sA, sZ, sC]
 refine wS 10 rfl hH ?_
 simp only [aP, gA, gZ, gC, sA, sZ, sC]
 refine wS 11 rfl hH ?_
 simp only [aP, gA, gZ, gC, sA, sZ, sC]
 refine wS 12 rfl hH ?_
 simp only [aP, gA, gZ, gC, sA, sZ, sC]
 refine wS 13 rfl hH ?_
 simp only [aP, gA, gZ, gC, sA, sZ, sC]
 refine wS 14 rfl hH ?_
 simp only [aP, gA, gZ, gC, sA, sZ, sC]
 refine wG 15 (.bool true) rfl hH ?_
 simp only [aP, gA, gZ, gC, sA, sZ, sC]
 refine wpAnyH_done (by kernel_rfl) ?_ _
 clear hH
 go_wp2
 exact bodyPost_ret (v := .tuple #[.slice none 0 0, .int .i64 0]) (by simp [results, Try.results28, go_sem]) rfl ⟨rfl, HFo.out⟩
theorem take_old2 (h : M.Ok w B) {q : Int} (hq : M.at q = some E) (t : Tg) {u : Nat} {ao : Option Addr} {n c : Nat} (hu1 : 1 ≤ u) (hu : u ≤ 4611686018427387904) (hn : inR 1 300 (n : Int) = true) (ht : t = M.tag) (hf : u ≤ E.i.p + M.win) (hf2 : E.i.p < u) {b0 : Bd} (hh : E.i.f u = some b0) : Calls Try.prog 28 #[.pointer (some ⟨M.b, 0, none⟩), .int .i64 q, .agg #[.int .i64 t.e, .int .i64 t.l, .int .i64 t.i, .int .i64 t.c, .int .i64 (u : Int), .slice ao n c]] w fun e w' => e = .returned (.tuple #[.slice none 0 0, .int .i64 0]) /\ Estep w w' B M.win M.room E E.ow := by
 have HP : Hid (∀ w1, Below w.heap.size w w1 -> Calls Try.prog 60 #[.pointer (some ⟨M.b, 0, none⟩), .int .i64 q] w1 fun e w' => e = .returned (.pointer (some ⟨E.b, 0, none⟩)) /\ w1 = w') := fun w1 hb => (show Calls _ _ _ _ _ from by have := peer_any (h.still hb) q; rw [hq] at this; exact this)
 obtain ⟨k, rfl, hk, he⟩ := at_es hq
 have hE := h.el k E he
 generalize hW : w.alloc (.cells #[.int .i64 t.e, .int .i64 t.l, .int .i64 t.i, .int .i64 t.c, .int .i64 (u : Int), .slice ao n c] 55) = W
 have hbW := bW0 hW
 have hblk := hQ0 hW
 have a0 : W.cell? ⟨w.heap.size, 0, none⟩ = some (.int .i64 t.e) := bC hblk 0
 have a1 : W.cell? ⟨w.heap.size, 1, none⟩ = some (.int .i64 t.l) := bC hblk 1
 have a2 : W.cell? ⟨w.heap.size, 2, none⟩ = some (.int .i64 t.i) := bC hblk 2
 have a3 : W.cell? ⟨w.heap.size, 3, none⟩ = some (.int .i64 t.c) := bC hblk 3
 have a4 : W.cell? ⟨w.heap.size, 4, none⟩ = some (.int .i64 (u : Int)) := bC hblk 4
 have a5 : W.cell? ⟨w.heap.size, 5, none⟩ = some (.slice ao n c) := bC hblk 5
 have HPW := HP.out W hbW
 have HPh : Hid (Calls _ _ _ _ _) := HPW
 have HBW : Hid (Below w.heap.size w W) := hbW
 have HWi : Hid (Calls Try.prog 66 #[.int .i64 (u : Int), .int .i64 1, .int .i64 4611686018427387904] W fun e w' => e = .returned (.bool true) /\ W = w') := (show Calls _ _ _ _ _ from by have := within_any (w := W) (u : Int) 1 4611686018427387904; rw [inR_t (by omega) (by omega)] at this; exact this)
 have HBd : Hid (Calls Try.prog 69 #[.slice ao n c] W fun e w' => e = .returned (.bool true) /\ W = w') := (show Calls _ _ _ _ _ from by rw [<- hn]; exact body_any)
 have m3 : W.cell? ⟨M.b, 3, none⟩ = some (.int .i64 M.tag.e) := (h.still hbW).c 3 rfl
 have m4 : W.cell? ⟨M.b, 4, none⟩ = some (.int .i64 M.tag.l) := (h.still hbW).c 4 rfl
 have m5 : W.cell? ⟨M.b, 5, none⟩ = some (.int .i64 M.tag.i) := (h.still hbW).c 5 rfl
 have m6 : W.cell? ⟨M.b, 6, none⟩ = some (.int .i64 M.tag.c) := (h.still hbW).c 6 rfl
 have HQ : Hid (decide (t = M.tag) = true) := (show _ = _ from by rw [decide_eq_true_eq]; exact ht)
 have hp6 := hE.ii.p62
 have hw1 := h.w1
 have HE : Hid (E.Ok w B M.win M.room) := hE
 have hEW := hE.still hbW
 have b4 := bA (dB W) a4
 have b3 : W.drew.cell? ⟨E.b, 3, none⟩ = some (.int .i64 (E.i.p : Int)) := (hEW.still (dB W)).c 3 rfl
 have b1 : W.drew.cell? ⟨M.b, 1, none⟩ = some (.int .i64 (M.win : Int)) := ((h.still hbW).still (dB W)).c 1 rfl
 have HM : Hid (M.Ok w B) := h
 have hne : M.b ≠ E.b := fun e => (h.ne_e he).1 (.inl e)
 have Hne : Hid (M.b ≠ E.b) := hne
 clear h hq HPW hblk hbW ht hE hEW hn hne
 go_enter Try.func28, Try.ntmps28
 go_wp2_with (first | (go_at_call 60; refine HPh.out.mono ?_; rintro e w' ⟨rfl, rfl⟩) | (go_at_call 66; refine HWi.out.mono ?_; rintro e w' ⟨rfl, rfl⟩) | (go_at_call 69; refine HBd.out.mono ?_; rintro e w' ⟨rfl, rfl⟩) | fail)
 refine wp_region_held_drew (S := (fun w' => w'.cell? ⟨w.heap.size, 0, none⟩ = some (.int .i64 t.e) /\ w'.cell? ⟨w.heap.size, 1, none⟩ = some (.int .i64 t.l) /\ w'.cell? ⟨w.heap.size, 2, none⟩ = some (.int .i64 t.i) /\ w'.cell? ⟨w.heap.size, 3, none⟩ = some (.int .i64 t.c) /\ w'.cell? ⟨M.b, 3, none⟩ = some (.int .i64 M.tag.e) /\ w'.cell? ⟨M.b, 4, none⟩ = some (.int .i64 M.tag.l) /\ w'.cell? ⟨M.b, 5, none⟩ = some (.int .i64 M.tag.i) /\ w'.cell? ⟨M.b, 6, none⟩ = some (.int .i64 M.tag.c))) (by kernel_rfl) ⟨bA (Below.refl _ _).drew a0, bA (Below.refl _ _).drew a1, bA (Below.refl _ _).drew a2, bA (Below.refl _ _).drew a3, bA (Below.refl _ _).drew m3, bA (Below.refl _ _).drew m4, bA (Below.refl _ _).drew m5, bA (Below.refl _ _).drew m6⟩ (fun hH => ?_)
 simp only [Act.put, lA, lC, lN, zA]
 refine wG 0 (.pointer (some ⟨w.heap.size, 0, none⟩)) rfl hH ?_
 simp only [aP, gA, gZ, gC, sA, sZ, sC]
 refine wL 1 (.agg #[.int .i64 t.e, .int .i64 t.l, .int .i64 t.i, .int .i64 t.c]) rfl hH ?_
 simp only [aP, gA, gZ, gC, sA, sZ, sC]
 refine wG 2 (.pointer (some ⟨M.b, 0, none⟩)) rfl hH ?_
 simp only [aP, gA, gZ, gC, sA, sZ, sC]
 refine wG 3 (.pointer (some ⟨M.b, 0, none⟩)) rfl hH ?_
 simp only [aP, gA, gZ, gC, sA, sZ, sC]
 refine wG 4 (.pointer (some ⟨M.b, 3, none⟩)) rfl hH ?_
 simp only [aP, gA, gZ, gC, sA, sZ, sC]
 refine wL 5 (.agg #[.int .i64 M.tag.e, .int .i64 M.tag.l, .int .i64 M.tag.i, .int .i64 M.tag.c]) rfl hH ?_
 simp only [aP, gA, gZ, gC, sA, sZ, sC]
 refine wX 6 (.bool (!(true))) rfl (Or.inl ⟨by rfl, fun w' hS => run_neqop 39 (.tmp 26) (.tmp 30) 39 rfl _ _ (by rfl) (by rfl) guard_id _ (by have e1 := eq_tag (w := w') t M.tag; rw [HQ.out] at e1; exact e1)⟩) hH ?_
 simp only [aP, gA, gZ, gC, sA, sZ, sC]
 refine wpAnyH_done (by kernel_rfl) ?_ _
 clear hH
 go_wp2
 refine wp_region_held_drew (S := (fun w' => w'.cell? ⟨w.heap.size, 4, none⟩ = some (.int .i64 (u : Int)) /\ w'.cell? ⟨E.b, 3, none⟩ = some (.int .i64 (E.i.p : Int)) /\ w'.cell? ⟨M.b, 1, none⟩ = some (.int .i64 (M.win : Int)))) (by kernel_rfl) ⟨bA (Below.refl _ _).drew b4, bA (Below.refl _ _).drew b3, bA (Below.refl _ _).drew b1⟩ (fun hH => ?_)
 simp only [Act.put, lA, lC, lN, zA]
 refine wG 0 (.pointer (some ⟨w.heap.size, 4, none⟩)) rfl hH ?_
 simp only [aP, gA, gZ, gC, sA, sZ, sC]
 refine wL 1 (.int .i64 (u : Int)) rfl hH ?_
 simp only [aP, gA, gZ, gC, sA, sZ, sC]
 refine wG 2 (.pointer (some ⟨E.b, 0, none⟩)) rfl hH ?_
 simp only [aP, gA, gZ, gC, sA, sZ, sC]
 refine wG 3 (.pointer (some ⟨E.b, 0, none⟩)) rfl hH ?_
 simp only [aP, gA, gZ, gC, sA, sZ, sC]
 refine wG 4 (.pointer (some ⟨E.b, 3, none⟩)) rfl hH ?_
 simp only [aP, gA, gZ, gC, sA, sZ, sC]
 refine wG 5 (.pointer (some ⟨E.b, 3, none⟩)) rfl hH ?_
 simp only [aP, gA, gZ, gC, sA, sZ, sC]
 refine wL 6 (.int .i64 (E.i.p : Int)) rfl hH ?_
 simp only [aP, gA, gZ, gC, sA, sZ, sC]
 refine wG 7 (.pointer (some ⟨M.b, 0, none⟩)) rfl hH ?_
 simp only [aP, gA, gZ, gC, sA, sZ, sC]
 refine wG 8 (.pointer (some ⟨M.b, 0, none⟩)) rfl hH ?_
 simp only [aP, gA, gZ, gC, sA, sZ, sC]
 refine wG 9 (.pointer (some ⟨M.b, 1, none⟩)) rfl hH ?_
 simp only [aP, gA, gZ, gC, sA, sZ, sC]
 refine wL 10 (.int .i64 (M.win : Int)) rfl hH ?_
 simp only [aP, gA, gZ, gC, sA, sZ, sC]
 refine wX 11 (.int .i64 ((E.i.p : Int) + (M.win : Int))) rfl (Or.inl ⟨by rfl, fun w' hS => by (go_simp; exact wrap_id (by omega) (by omega))⟩) hH ?_
 simp only [aP, gA, gZ, gC, sA, sZ, sC]
 refine wX 12 (.bool false) rfl (Or.inl ⟨by rfl, fun w' hS => by (go_simp <;> omega)⟩) hH ?_
 simp only [aP, gA, gZ, gC, sA, sZ, sC]
 refine wpAnyH_done (by kernel_rfl) ?_ _
 clear hH
 have HBD : Hid (Below w.heap.size w W.drew.drew) := HBW.out.drew.drew
 have x4 := bA (dB _) b4
 have x5 := bA (dB _) (dW0 a5)
 generalize W.drew.drew = D0 at *
 have hED := HE.out.still HBD.out
 have HED : Hid (E.Ok D0 B M.win M.room) := hED
 have f5 := frozen_of_row D0 E.b 5 _ _ hED.blk
 have z5' : D0.cell? ⟨E.b, 5, none⟩ = some (.bool E.owed) := hED.c 5 rfl
 have hFE : w.heap.size ≠ E.b := fun e => by have := HE.out.lt (.inl rfl); omega
 generalize hU : D0.setCell ⟨E.b, 5, none⟩ (.bool true) = U
 have kU : Kept D0 U (fun j => j = E.b) := by rw [<- hU]; exact kset _ _ _ _ rfl
 have hOU : E.ow.Ok U B M.win M.room := by rw [<- hU]; exact ow_ok hED
 have y4 : U.cell? ⟨w.heap.size, 4, none⟩ = some (.int .i64 (u : Int)) := kC kU hFE x4
 have y5 : U.cell? ⟨w.heap.size, 5, none⟩ = some (.slice ao n c) := kC kU hFE x5
 have y3 : U.cell? ⟨E.b, 3, none⟩ = some (.int .i64 (E.i.p : Int)) := hOU.c 3 rfl
 have HOU : Hid (E.ow.Ok U B M.win M.room) := hOU
 have HUb : Hid (Below (D0.setCell ⟨E.b, 5, none⟩ (.bool true)).heap.size (D0.setCell ⟨E.b, 5, none⟩ (.bool true)) U.drew) := (show Below _ _ _ from by rw [hU]; exact dB U)
 have HFo : Hid (Estep w U.drew B M.win M.room E E.ow) := ow_fin HE.out HBD.out HUb.out
 clear hED hOU x4 x5 b4 b3 b1
 have HHas : Hid (Calls Try.prog 72 #[.pointer (some ⟨E.b, 3, none⟩), .int .i64 (u : Int)] U.drew fun e w2 => e = .returned (.bool true) /\ U.drew = w2) := (show Calls _ _ _ _ _ from by
  have e1 := has_any (eb := E.b) (off := 3) (n := u) (HOU.out.still (dB U)).ii (bA (dB U) (HOU.out.c 4 rfl)) (show E.i.p < u by omega) (by omega)
  rw [show E.ow.i.f u = some b0 from hh] at e1
  exact e1)
 clear hh
 go_wp2
 refine wp_region_held_drew (S := (fun w' => w'.cell? ⟨w.heap.size, 4, none⟩ = some (.int .i64 (u : Int)) /\ w'.cell? ⟨E.b, 3, none⟩ = some (.int .i64 (E.i.p : Int)))) (by kernel_rfl) ⟨bA (Below.refl _ _).drew y4, bA (Below.refl _ _).drew y3⟩ (fun hH => ?_)
 simp only [Act.put, lA, lC, lN, zA]
 refine wG 0 (.pointer (some ⟨w.heap.size, 4, none⟩)) rfl hH ?_
 simp only [aP, gA, gZ, gC, sA, sZ, sC]
 refine wL 1 (.int .i64 (u : Int)) rfl hH ?_
 simp only [aP, gA, gZ, gC, sA, sZ, sC]
 refine wG 2 (.pointer (some ⟨E.b, 0, none⟩)) rfl hH ?_
 simp only [aP, gA, gZ, gC, sA, sZ, sC]
 refine wG 3 (.pointer (some ⟨E.b, 0, none⟩)) rfl hH ?_
 simp only [aP, gA, gZ, gC, sA, sZ, sC]
 refine wG 4 (.pointer (some ⟨E.b, 3, none⟩)) rfl hH ?_
 simp only [aP, gA, gZ, gC, sA, sZ, sC]
 refine wG 5 (.pointer (some ⟨E.b, 3, none⟩)) rfl hH ?_
 simp only [aP, gA, gZ, gC, sA, sZ, sC]
 refine wL 6 (.int .i64 (E.i.p : Int)) rfl hH ?_
 simp only [aP, gA, gZ, gC, sA, sZ, sC]
 refine wX 7 (.bool false) rfl (Or.inl ⟨by rfl, fun w' hS => by (go_simp <;> omega)⟩) hH ?_
 simp only [aP, gA, gZ, gC, sA, sZ, sC]
 refine wG 8 (.bool false) rfl hH ?_
 simp only [aP, gA, gZ, gC, sA, sZ, sC]
 refine wG 9 (.pointer (some ⟨E.b, 0, none⟩)) rfl hH ?_
 simp only [aP, gA, gZ, gC, sA, sZ, sC]
 refine wG 10 (.pointer (some ⟨E.b, 0, none⟩)) rfl hH ?_
 simp only [aP, gA, gZ, gC, sA, sZ, sC]
 refine wG 11 (.pointer (some ⟨E.b, 3, none⟩)) rfl hH ?_
 simp only [aP, gA, gZ, gC, sA, sZ, sC]
 refine wG 12 (.pointer (some ⟨w.heap.size, 4, none⟩)) rfl hH ?_
 simp only [aP, gA, gZ, gC, sA, sZ, sC]
 refine wL 13 (.int .i64 (u : Int)) rfl hH ?_
 simp only [aP, gA, gZ, gC, sA, sZ, sC]
 refine rY 14 rfl fun K hK => ?_
 go_simp
 refine (HHas.out).mono ?_
 rintro e w2 ⟨rfl, rfl⟩
 refine hK.out _ _ ⟨bA (Below.refl _ _).drew y4, bA (Below.refl _ _).drew y3⟩ (fun hH => ?_)
 clear hK K
 refine wG 15 (.bool true) rfl hH ?_
 simp only [aP, gA, gZ, gC, sA, sZ, sC]
 refine wpAnyH_done (by kernel_rfl) ?_ _
 clear hH
 go_wp2
 exact bodyPost_ret (v := .tuple #[.slice none 0 0, .int .i64 0]) (by simp [results, Try.results28, go_sem]) rfl ⟨rfl, HFo.out⟩
theorem take_new (h : M.Ok w B) (hB : B ≤ w.heap.size) {q : Int} (hq : M.at q = some E) (t : Tg) {u : Nat} {ao : Option Addr} {c : Nat} {bs : List Int} (hr : Rd w ao bs.length c bs) (hu1 : 1 ≤ u) (hu : u ≤ 4611686018427387904) (hn : inR 1 300 (bs.length : Int) = true) (ht : t = M.tag) (hf : u ≤ E.i.p + M.win) (hf2 : E.i.p < u) (hh : E.i.f u = none) : Calls Try.prog 28 #[.pointer (some ⟨M.b, 0, none⟩), .int .i64 q, .agg #[.int .i64 t.e, .int .i64 t.l, .int .i64 t.i, .int .i64 t.c, .int .i64 (u : Int), .slice ao bs.length c]] w fun e w' => TookO w w' B M.win M.room E u bs e := by
 have hn' : 1 ≤ bs.length /\ bs.length ≤ 300 := by simp [inR] at hn; omega
 have Hr : Hid (Rd w ao bs.length c bs) := hr
 have HB : Hid (B ≤ w.heap.size) := hB
 clear hr hB
 have HP : Hid (∀ w1, Below w.heap.size w w1 -> Calls Try.prog 60 #[.pointer (some ⟨M.b, 0, none⟩), .int .i64 q] w1 fun e w' => e = .returned (.pointer (some ⟨E.b, 0, none⟩)) /\ w1 = w') := fun w1 hb => (show Calls _ _ _ _ _ from by have := peer_any (h.still hb) q; rw [hq] at this; exact this)
 obtain ⟨k, rfl, hk, he⟩ := at_es hq
 have hE := h.el k E he
 generalize hW : w.alloc (.cells #[.int .i64 t.e, .int .i64 t.l, .int .i64 t.i, .int .i64 t.c, .int .i64 (u : Int), .slice ao bs.length c] 55) = W
 have hbW := bW0 hW
 have hblk := hQ0 hW
 have a0 : W.cell? ⟨w.heap.size, 0, none⟩ = some (.int .i64 t.e) := bC hblk 0
 have a1 : W.cell? ⟨w.heap.size, 1, none⟩ = some (.int .i64 t.l) := bC hblk 1
 have a2 : W.cell? ⟨w.heap.size, 2, none⟩ = some (.int .i64 t.i) := bC hblk 2
 have a3 : W.cell? ⟨w.heap.size, 3, none⟩ = some (.int .i64 t.c) := bC hblk 3
 have a4 : W.cell? ⟨w.heap.size, 4, none⟩ = some (.int .i64 (u : Int)) := bC hblk 4
 have a5 : W.cell? ⟨w.heap.size, 5, none⟩ = some (.slice ao bs.length c) := bC hblk 5
 have HPW := HP.out W hbW
 have HPh : Hid (Calls _ _ _ _ _) := HPW
 have HBW : Hid (Below w.heap.size w W) := hbW
 have HWi : Hid (Calls Try.prog 66 #[.int .i64 (u : Int), .int .i64 1, .int .i64 4611686018427387904] W fun e w' => e = .returned (.bool true) /\ W = w') := (show Calls _ _ _ _ _ from by have := within_any (w := W) (u : Int) 1 4611686018427387904; rw [inR_t (by omega) (by omega)] at this; exact this)
 have HBd : Hid (Calls Try.prog 69 #[.slice ao bs.length c] W fun e w' => e = .returned (.bool true) /\ W = w') := (show Calls _ _ _ _ _ from by rw [<- hn]; exact body_any)
 have m3 : W.cell? ⟨M.b, 3, none⟩ = some (.int .i64 M.tag.e) := (h.still hbW).c 3 rfl
 have m4 : W.cell? ⟨M.b, 4, none⟩ = some (.int .i64 M.tag.l) := (h.still hbW).c 4 rfl
 have m5 : W.cell? ⟨M.b, 5, none⟩ = some (.int .i64 M.tag.i) := (h.still hbW).c 5 rfl
 have m6 : W.cell? ⟨M.b, 6, none⟩ = some (.int .i64 M.tag.c) := (h.still hbW).c 6 rfl
 have HQ : Hid (decide (t = M.tag) = true) := (show _ = _ from by rw [decide_eq_true_eq]; exact ht)
 have hp6 := hE.ii.p62
 have hw1 := h.w1
 have HE : Hid (E.Ok w B M.win M.room) := hE
 have hEW := hE.still hbW
 have b4 := bA (dB W) a4
 have b3 : W.drew.cell? ⟨E.b, 3, none⟩ = some (.int .i64 (E.i.p : Int)) := (hEW.still (dB W)).c 3 rfl
 have b1 : W.drew.cell? ⟨M.b, 1, none⟩ = some (.int .i64 (M.win : Int)) := ((h.still hbW).still (dB W)).c 1 rfl
 have HM : Hid (M.Ok w B) := h
 have hne : M.b ≠ E.b := fun e => (h.ne_e he).1 (.inl e)
 have Hne : Hid (M.b ≠ E.b) := hne
 clear h hq HPW hblk hbW ht hE hEW hn hne
 go_enter Try.func28, Try.ntmps28
 go_wp2_with (first | (go_at_call 60; refine HPh.out.mono ?_; rintro e w' ⟨rfl, rfl⟩) | (go_at_call 66; refine HWi.out.mono ?_; rintro e w' ⟨rfl, rfl⟩) | (go_at_call 69; refine HBd.out.mono ?_; rintro e w' ⟨rfl, rfl⟩) | fail)
 refine wp_region_held_drew (S := (fun w' => w'.cell? ⟨w.heap.size, 0, none⟩ = some (.int .i64 t.e) /\ w'.cell? ⟨w.heap.size, 1, none⟩ = some (.int .i64 t.l) /\ w'.cell? ⟨w.heap.size, 2, none⟩ = some (.int .i64 t.i) /\ w'.cell? ⟨w.heap.size, 3, none⟩ = some (.int .i64 t.c) /\ w'.cell? ⟨M.b, 3, none⟩ = some (.int .i64 M.tag.e) /\ w'.cell? ⟨M.b, 4, none⟩ = some (.int .i64 M.tag.l) /\ w'.cell? ⟨M.b, 5, none⟩ = some (.int .i64 M.tag.i) /\ w'.cell? ⟨M.b, 6, none⟩ = some (.int .i64 M.tag.c))) (by kernel_rfl) ⟨bA (Below.refl _ _).drew a0, bA (Below.refl _ _).drew a1, bA (Below.refl _ _).drew a2, bA (Below.refl _ _).drew a3, bA (Below.refl _ _).drew m3, bA (Below.refl _ _).drew m4, bA (Below.refl _ _).drew m5, bA (Below.refl _ _).drew m6⟩ (fun hH => ?_)
 simp only [Act.put, lA, lC, lN, zA]
 refine wG 0 (.pointer (some ⟨w.heap.size, 0, none⟩)) rfl hH ?_
 simp only [aP, gA, gZ, gC, sA, sZ, sC]
 refine wL 1 (.agg #[.int .i64 t.e, .int .i64 t.l, .int .i64 t.i, .int .i64 t.c]) rfl hH ?_
 simp only [aP, gA, gZ, gC, sA, sZ, sC]
 refine wG 2 (.pointer (some ⟨M.b, 0, none⟩)) rfl hH ?_
 simp only [aP, gA, gZ, gC, sA, sZ, sC]
 refine wG 3 (.pointer (some ⟨M.b, 0, none⟩)) rfl hH ?_
 simp only [aP, gA, gZ, gC, sA, sZ, sC]
 refine wG 4 (.pointer (some ⟨M.b, 3, none⟩)) rfl hH ?_
 simp only [aP, gA, gZ, gC, sA, sZ, sC]
 refine wL 5 (.agg #[.int .i64 M.tag.e, .int .i64 M.tag.l, .int .i64 M.tag.i, .int .i64 M.tag.c]) rfl hH ?_
 simp only [aP, gA, gZ, gC, sA, sZ, sC]
 refine wX 6 (.bool (!(true))) rfl (Or.inl ⟨by rfl, fun w' hS => run_neqop 39 (.tmp 26) (.tmp 30) 39 rfl _ _ (by rfl) (by rfl) guard_id _ (by have e1 := eq_tag (w := w') t M.tag; rw [HQ.out] at e1; exact e1)⟩) hH ?_
 simp only [aP, gA, gZ, gC, sA, sZ, sC]
 refine wpAnyH_done (by kernel_rfl) ?_ _
 clear hH
 go_wp2
 refine wp_region_held_drew (S := (fun w' => w'.cell? ⟨w.heap.size, 4, none⟩ = some (.int .i64 (u : Int)) /\ w'.cell? ⟨E.b, 3, none⟩ = some (.int .i64 (E.i.p : Int)) /\ w'.cell? ⟨M.b, 1, none⟩ = some (.int .i64 (M.win : Int)))) (by kernel_rfl) ⟨bA (Below.refl _ _).drew b4, bA (Below.refl _ _).drew b3, bA (Below.refl _ _).drew b1⟩ (fun hH => ?_)
 simp only [Act.put, lA, lC, lN, zA]
 refine wG 0 (.pointer (some ⟨w.heap.size, 4, none⟩)) rfl hH ?_
 simp only [aP, gA, gZ, gC, sA, sZ, sC]
 refine wL 1 (.int .i64 (u : Int)) rfl hH ?_
 simp only [aP, gA, gZ, gC, sA, sZ, sC]
 refine wG 2 (.pointer (some ⟨E.b, 0, none⟩)) rfl hH ?_
 simp only [aP, gA, gZ, gC, sA, sZ, sC]
 refine wG 3 (.pointer (some ⟨E.b, 0, none⟩)) rfl hH ?_
 simp only [aP, gA, gZ, gC, sA, sZ, sC]
 refine wG 4 (.pointer (some ⟨E.b, 3, none⟩)) rfl hH ?_
 simp only [aP, gA, gZ, gC, sA, sZ, sC]
 refine wG 5 (.pointer (some ⟨E.b, 3, none⟩)) rfl hH ?_
 simp only [aP, gA, gZ, gC, sA, sZ, sC]
 refine wL 6 (.int .i64 (E.i.p : Int)) rfl hH ?_
 simp only [aP, gA, gZ, gC, sA, sZ, sC]
 refine wG 7 (.pointer (some ⟨M.b, 0, none⟩)) rfl hH ?_
 simp only [aP, gA, gZ, gC, sA, sZ, sC]
 refine wG 8 (.pointer (some ⟨M.b, 0, none⟩)) rfl hH ?_
 simp only [aP, gA, gZ, gC, sA, sZ, sC]
 refine wG 9 (.pointer (some ⟨M.b, 1, none⟩)) rfl hH ?_
 simp only [aP, gA, gZ, gC, sA, sZ, sC]
 refine wL 10 (.int .i64 (M.win : Int)) rfl hH ?_
 simp only [aP, gA, gZ, gC, sA, sZ, sC]
 refine wX 11 (.int .i64 ((E.i.p : Int) + (M.win : Int))) rfl (Or.inl ⟨by rfl, fun w' hS => by (go_simp; exact wrap_id (by omega) (by omega))⟩) hH ?_
 simp only [aP, gA, gZ, gC, sA, sZ, sC]
 refine wX 12 (.bool false) rfl (Or.inl ⟨by rfl, fun w' hS => by (go_simp <;> omega)⟩) hH ?_
 simp only [aP, gA, gZ, gC, sA, sZ, sC]
 refine wpAnyH_done (by kernel_rfl) ?_ _
 clear hH
 have HBD : Hid (Below w.heap.size w W.drew.drew) := HBW.out.drew.drew
 have x4 := bA (dB _) b4
 have x5 := bA (dB _) (dW0 a5)
 generalize W.drew.drew = D0 at *
 have hED := HE.out.still HBD.out
 have HED : Hid (E.Ok D0 B M.win M.room) := hED
 have f5 := frozen_of_row D0 E.b 5 _ _ hED.blk
 have z5' : D0.cell? ⟨E.b, 5, none⟩ = some (.bool E.owed) := hED.c 5 rfl
 have hFE : w.heap.size ≠ E.b := fun e => by have := HE.out.lt (.inl rfl); omega
 generalize hU : D0.setCell ⟨E.b, 5, none⟩ (.bool true) = U
 have kU : Kept D0 U (fun j => j = E.b) := by rw [<- hU]; exact kset _ _ _ _ rfl
 have hOU : E.ow.Ok U B M.win M.room := by rw [<- hU]; exact ow_ok hED
 have y4 : U.cell? ⟨w.heap.size, 4, none⟩ = some (.int .i64 (u : Int)) := kC kU hFE x4
 have y5 : U.cell? ⟨w.heap.size, 5, none⟩ = some (.slice ao bs.length c) := kC kU hFE x5
 have y3 : U.cell? ⟨E.b, 3, none⟩ = some (.int .i64 (E.i.p : Int)) := hOU.c 3 rfl
 have HOU : Hid (E.ow.Ok U B M.win M.room) := hOU
 have HUb : Hid (Below (D0.setCell ⟨E.b, 5, none⟩ (.bool true)).heap.size (D0.setCell ⟨E.b, 5, none⟩ (.bool true)) U.drew) := (show Below _ _ _ from by rw [hU]; exact dB U)
 have HFo : Hid (Estep w U.drew B M.win M.room E E.ow) := ow_fin HE.out HBD.out HUb.out
 clear hED hOU x4 x5 b4 b3 b1
 have HHas : Hid (Calls Try.prog 72 #[.pointer (some ⟨E.b, 3, none⟩), .int .i64 (u : Int)] U.drew fun e w2 => e = .returned (.bool false) /\ U.drew = w2) := (show Calls _ _ _ _ _ from by
  have e1 := has_any (eb := E.b) (off := 3) (n := u) (HOU.out.still (dB U)).ii (bA (dB U) (HOU.out.c 4 rfl)) (show E.i.p < u by omega) (by omega)
  rw [show E.ow.i.f u = none from hh] at e1
  exact e1)
 have HHN : Hid (E.i.f u = none) := hh
 clear hh
 go_wp2
 refine wp_region_held_drew (S := (fun w' => w'.cell? ⟨w.heap.size, 4, none⟩ = some (.int .i64 (u : Int)) /\ w'.cell? ⟨E.b, 3, none⟩ = some (.int .i64 (E.i.p : Int)))) (by kernel_rfl) ⟨bA (Below.refl _ _).drew y4, bA (Below.refl _ _).drew y3⟩ (fun hH => ?_)
 simp only [Act.put, lA, lC, lN, zA]
 refine wG 0 (.pointer (some ⟨w.heap.size, 4, none⟩)) rfl hH ?_
 simp only [aP, gA, gZ, gC, sA, sZ, sC]
 refine wL 1 (.int .i64 (u : Int)) rfl hH ?_
 simp only [aP, gA, gZ, gC, sA, sZ, sC]
 refine wG 2 (.pointer (some ⟨E.b, 0, none⟩)) rfl hH ?_
 simp only [aP, gA, gZ, gC, sA, sZ, sC]
 refine wG 3 (.pointer (some ⟨E.b, 0, none⟩)) rfl hH ?_
 simp only [aP, gA, gZ, gC, sA, sZ, sC]
 refine wG 4 (.pointer (some ⟨E.b, 3, none⟩)) rfl hH ?_
 simp only [aP, gA, gZ, gC, sA, sZ, sC]
 refine wG 5 (.pointer (some ⟨E.b, 3, none⟩)) rfl hH ?_
 simp only [aP, gA, gZ, gC, sA, sZ, sC]
 refine wL 6 (.int .i64 (E.i.p : Int)) rfl hH ?_
 simp only [aP, gA, gZ, gC, sA, sZ, sC]
 refine wX 7 (.bool false) rfl (Or.inl ⟨by rfl, fun w' hS => by (go_simp <;> omega)⟩) hH ?_
 simp only [aP, gA, gZ, gC, sA, sZ, sC]
 refine wG 8 (.bool false) rfl hH ?_
 simp only [aP, gA, gZ, gC, sA, sZ, sC]
 refine wG 9 (.pointer (some ⟨E.b, 0, none⟩)) rfl hH ?_
 simp only [aP, gA, gZ, gC, sA, sZ, sC]
 refine wG 10 (.pointer (some ⟨E.b, 0, none⟩)) rfl hH ?_
 simp only [aP, gA, gZ, gC, sA, sZ, sC]
 refine wG 11 (.pointer (some ⟨E.b, 3, none⟩)) rfl hH ?_
 simp only [aP, gA, gZ, gC, sA, sZ, sC]
 refine wG 12 (.pointer (some ⟨w.heap.size, 4, none⟩)) rfl hH ?_
 simp only [aP, gA, gZ, gC, sA, sZ, sC]
 refine wL 13 (.int .i64 (u : Int)) rfl hH ?_
 simp only [aP, gA, gZ, gC, sA, sZ, sC]
 refine rY 14 rfl fun K hK => ?_
 go_simp
 refine (HHas.out).mono ?_
 rintro e w2 ⟨rfl, rfl⟩
 refine hK.out _ _ ⟨bA (Below.refl _ _).drew y4, bA (Below.refl _ _).drew y3⟩ (fun hH => ?_)
 clear hK K
 refine wG 15 (.bool false) rfl hH ?_
 simp only [aP, gA, gZ, gC, sA, sZ, sC]
 refine wpAnyH_done (by kernel_rfl) ?_ _
 clear hH
 have HbV : Hid (Below U.heap.size U U.drew) := dB U
 have z4 := bA (dB U) y4
 have z5 := bA (dB U) y5
 clear HFo HUb HHas y4 y5 y3 kU
 generalize U.drew = V at *
 have HC : Hid (∀ D, Below U.heap.size U D -> Calls Try.prog 62 #[.slice ao bs.length c] D fun e w' => e = .returned (.slice (some ⟨D.heap.size, 0, none⟩) bs.length bs.length) /\ Bk w' D.heap.size bs /\ Below D.heap.size D w') := fun D hb => copy_any ((show Rd U ao bs.length c bs from by rw [<- hU]; exact rd_ends (eb := 0) HED.out (Hr.out.still HBD.out) (by omega)).still hb) (by omega)
 have HPu : Hid (∀ D w3, Below U.heap.size U D -> Bk w3 D.heap.size bs -> Below D.heap.size D w3 -> Calls Try.prog 71 #[.pointer (some ⟨E.b, 3, none⟩), .int .i64 (u : Int), .slice (some ⟨D.heap.size, 0, none⟩) bs.length bs.length] w3 fun e w' => e = .returned (.tuple #[]) /\ PutO w3 w' B E.i E.b 3 u ⟨D.heap.size, bs⟩ E.ow.cs) := fun D w3 hbD hbk hb3 => by
  obtain ⟨g2, g3, g4, g5, g6, _⟩ := tput_fin (n := u) (w4 := w3) HE.out HB.out HBD.out (by rw [hU]; exact hbD) hb3 (by omega) (by omega) Hr.out.by_ hbk
  exact put_any (n := u) g2 g3 g4 rfl rfl (by omega) (by omega) hu g5 g6
 have HF : Hid (∀ D w3 w4, Below U.heap.size U D -> Bk w3 D.heap.size bs -> Below D.heap.size D w3 -> PutO w3 w4 B E.i E.b 3 u ⟨D.heap.size, bs⟩ E.ow.cs -> ∃ S', TPut w w4 B M.win M.room E u bs S') := fun D w3 w4 hbD hbk hb3 hp => by
  obtain ⟨_, _, _, _, _, g7⟩ := tput_fin (n := u) (w4 := w4) HE.out HB.out HBD.out (by rw [hU]; exact hbD) hb3 (by omega) (by omega) Hr.out.by_ hbk
  exact g7 hp
 go_wp2
 refine wp_region_held_drew (S := (fun w' => w'.cell? ⟨w.heap.size, 4, none⟩ = some (.int .i64 (u : Int)) /\ w'.cell? ⟨w.heap.size, 5, none⟩ = some (.slice ao bs.length c))) (by kernel_rfl) ⟨bA (Below.refl _ _).drew z4, bA (Below.refl _ _).drew z5⟩ (fun hH => ?_)
 simp only [Act.put, lA, lC, lN, zA]
 refine wG 0 (.pointer (some ⟨E.b, 0, none⟩)) rfl hH ?_
 simp only [aP, gA, gZ, gC, sA, sZ, sC]
 refine wG 1 (.pointer (some ⟨E.b, 0, none⟩)) rfl hH ?_
 simp only [aP, gA, gZ, gC, sA, sZ, sC]
 refine wG 2 (.pointer (some ⟨E.b, 3, none⟩)) rfl hH ?_
 simp only [aP, gA, gZ, gC, sA, sZ, sC]
 refine wG 3 (.pointer (some ⟨w.heap.size, 4, none⟩)) rfl hH ?_
 simp only [aP, gA, gZ, gC, sA, sZ, sC]
 refine wL 4 (.int .i64 (u : Int)) rfl hH ?_
 simp only [aP, gA, gZ, gC, sA, sZ, sC]
 refine wG 5 (.pointer (some ⟨w.heap.size, 5, none⟩)) rfl hH ?_
 simp only [aP, gA, gZ, gC, sA, sZ, sC]
 refine wL 6 (.slice ao bs.length c) rfl hH ?_
 simp only [aP, gA, gZ, gC, sA, sZ, sC]
 have hbV : Below U.heap.size U V.drew := bstep HbV.out (dB V)
 have q4 := bA (dB V) z4
 have q5 := bA (dB V) z5
 generalize V.drew = D4 at *
 refine rY 7 rfl fun K hK => ?_
 go_simp
 refine (HC.out D4 hbV).mono ?_
 rintro e w3 ⟨rfl, hbk, hb3⟩
 refine hK.out _ _ ⟨bA hb3 q4, bA hb3 q5⟩ (fun hH => ?_)
 clear hK K
 refine rY 8 rfl fun K hK => ?_
 go_simp
 refine (HPu.out D4 w3 hbV hbk hb3).mono ?_
 rintro e w4 ⟨rfl, hp4⟩
 obtain ⟨S', ht4⟩ := HF.out D4 w3 w4 hbV hbk hb3 hp4
 have k4 : Kept w3 w4 (fun j => j = E.b ∨ (0 < E.i.L /\ j = E.i.rb)) := hp4.out.choose_spec.choose_spec.choose_spec.2.2.2.2.2.2.2.2
 have hn4 : ¬ (w.heap.size = E.b ∨ (0 < E.i.L /\ w.heap.size = E.i.rb)) := fun e => by
  rcases e with e | ⟨e1, e2⟩
  ·have := HE.out.lt (.inl rfl); omega
  ·have := HE.out.ii.lt (.inl ⟨e1, rfl⟩); omega
 refine hK.out _ _ ⟨kC k4 hn4 (bA hb3 q4), kC k4 hn4 (bA hb3 q5)⟩ (fun hH => ?_)
 clear hK K k4 hn4 hp4 q4 q5
 refine wpAnyH_done (by kernel_rfl) ?_ _
 clear hH
 have HT4 : Hid (TPut w w4 B M.win M.room E u bs S') := ht4
 have hMb : ¬ E.own M.b := HE.out.ne_t HM.out.blk (by decide) (by decide) (by decide)
 have m1 : w4.cell? ⟨M.b, 1, none⟩ = some (.int .i64 (M.win : Int)) := kC ht4.kept hMb (HM.out.c 1 rfl)
 have HNx : Hid (Calls Try.prog 61 #[.pointer (some ⟨E.b, 3, none⟩), .int .i64 (M.win : Int)] w4.drew fun e w' => NextO w4.drew w' S' M.win e) := next_any (ht4.ok.still (dB w4)) (bA (dB w4) ((bC ht4.blk 3).trans rfl)) (bA (dB w4) ((bC ht4.blk 4).trans rfl)) (by omega)
 clear ht4 hMb HF HPu HC hbk hb3
 go_wp2
 refine wp_region_held_drew (S := (fun w' => w'.cell? ⟨M.b, 1, none⟩ = some (.int .i64 (M.win : Int)))) (by kernel_rfl) (bA (Below.refl _ _).drew m1) (fun hH => ?_)
 simp only [Act.put, lA, lC, lN, zA]
 refine wG 0 (.pointer (some ⟨E.b, 0, none⟩)) rfl hH ?_
 simp only [aP, gA, gZ, gC, sA, sZ, sC]
 refine wG 1 (.pointer (some ⟨E.b, 0, none⟩)) rfl hH ?_
 simp only [aP, gA, gZ, gC, sA, sZ, sC]
 refine wG 2 (.pointer (some ⟨E.b, 3, none⟩)) rfl hH ?_
 simp only [aP, gA, gZ, gC, sA, sZ, sC]
 refine wG 3 (.pointer (some ⟨M.b, 0, none⟩)) rfl hH ?_
 simp only [aP, gA, gZ, gC, sA, sZ, sC]
 refine wG 4 (.pointer (some ⟨M.b, 0, none⟩)) rfl hH ?_
 simp only [aP, gA, gZ, gC, sA, sZ, sC]
 refine wG 5 (.pointer (some ⟨M.b, 1, none⟩)) rfl hH ?_
 simp only [aP, gA, gZ, gC, sA, sZ, sC]
 refine wX 6 (.int .i64 (M.win : Int)) rfl (Or.inl ⟨by rfl, fun w' hS => by (have s0 := hS; go_simp)⟩) hH ?_
 simp only [aP, gA, gZ, gC, sA, sZ, sC]
 refine rY 7 rfl fun K hK => ?_
 go_simp
 refine HNx.out.mono ?_
 rintro e w5 ⟨⟨a, cc, rfl, hrow, hb5⟩⟩
 refine hK.out _ _ (bA hb5 (bA (dB w4) m1)) (fun hH => ?_)
 clear hK K
 refine wG 8 (.slice a (takeN S'.f S'.p M.win).length cc) rfl hH ?_
 simp only [aP, gA, gZ, gC, sA, sZ, sC]
 refine wpAnyH_done (by kernel_rfl) ?_ _
 clear hH
 have hb45 : Below w4.heap.size w4 w5 := bstep (dB w4) hb5
 have hb45d : Below w4.heap.size w4 w5.drew := bstep hb45 (dB w5)
 have hrow4 : w5.ownsRow w4.heap.size 40 1 (.slice a (takeN S'.f S'.p M.win).length cc) (takeN S'.f S'.p M.win).length ((takeN S'.f S'.p M.win).map Bd.v) := own_lower hrow (dB w4).size
 have hrow5 := own_still hrow4 (dB w5)
 have n3 : w5.cell? ⟨E.b, 3, none⟩ = some (.int .i64 (S'.p : Int)) := bA hb45 ((bC HT4.out.blk 3).trans rfl)
 have hE5 : w5.drew.heap[E.b]? = some (.cells ({ E with i := S', owed := true } : En).cs 100 (0, 0)) := (hb45d.block _ (lt_heap HT4.out.blk)).trans HT4.out.blk
 obtain ⟨g1, g2, _⟩ := tpass_fin (w6 := w5) HE.out hf hu HT4.out hb45d hrow5
 have HPa0 := pass_any (eb := E.b) (off := 3) (HT4.out.ok.still hb45d) hE5 rfl rfl g1 g2
 have HT60 : ∀ w6, PassO w5.drew w6 B S' E.b 3 (S'.p + (takeN S'.f S'.p M.win).length) ({ E with i := S', owed := true } : En).cs -> TookO w w6 B M.win M.room E u bs (.returned (.tuple #[.slice a (takeN S'.f S'.p M.win).length cc, .int .i64 0])) := fun w6 hp => (tpass_fin (w6 := w6) HE.out hf hu HT4.out hb45d hrow5).2.2 hp
 obtain ⟨ln, hln⟩ : ∃ ln, (takeN S'.f S'.p M.win).length = ln := ⟨_, rfl⟩
 rw [hln] at HPa0 HT60 g1 g2 ⊢
 have HPa : Hid (Calls Try.prog 73 #[.pointer (some ⟨E.b, 3, none⟩), .int .i64 ((S'.p : Int) + (ln : Int))] w5.drew fun e w' => e = .returned (.tuple #[]) /\ PassO w5.drew w' B S' E.b 3 (S'.p + ln) ({ E with i := S', owed := true } : En).cs) := (show Calls _ _ _ _ _ from by rw [show (S'.p : Int) + (ln : Int) = ((S'.p + ln : Nat) : Int) by omega]; exact HPa0)
 have HT6 : Hid (∀ w6, PassO w5.drew w6 B S' E.b 3 (S'.p + ln) ({ E with i := S', owed := true } : En).cs -> Hid (TookO w w6 B M.win M.room E u bs (.returned (.tuple #[.slice a ln cc, .int .i64 0])))) := fun w6 hp => HT60 w6 hp
 clear HPa0 HT60 hln hrow hb5 hb45 hb45d hrow4 hrow5 hE5
 go_wp2
 refine wp_region_held_drew (S := (fun w' => True)) (by kernel_rfl) trivial (fun hH => ?_)
 simp only [Act.put, lA, lC, lN, zA]
 refine wG 0 (.pointer (some ⟨E.b, 0, none⟩)) rfl hH ?_
 simp only [aP, gA, gZ, gC, sA, sZ, sC]
 refine wG 1 (.pointer (some ⟨E.b, 0, none⟩)) rfl hH ?_
 simp only [aP, gA, gZ, gC, sA, sZ, sC]
 refine wG 2 (.pointer (some ⟨E.b, 3, none⟩)) rfl hH ?_
 simp only [aP, gA, gZ, gC, sA, sZ, sC]
 refine wG 3 (.pointer (some ⟨E.b, 0, none⟩)) rfl hH ?_
 simp only [aP, gA, gZ, gC, sA, sZ, sC]
 refine wG 4 (.pointer (some ⟨E.b, 0, none⟩)) rfl hH ?_
 simp only [aP, gA, gZ, gC, sA, sZ, sC]
 refine wG 5 (.pointer (some ⟨E.b, 3, none⟩)) rfl hH ?_
 simp only [aP, gA, gZ, gC, sA, sZ, sC]
 refine wG 6 (.pointer (some ⟨E.b, 3, none⟩)) rfl hH ?_
 simp only [aP, gA, gZ, gC, sA, sZ, sC]
 refine wG 8 (.slice a ln cc) rfl hH ?_
 simp only [aP, gA, gZ, gC, sA, sZ, sC]
 refine wG 9 (.int .i64 (ln : Int)) rfl hH ?_
 simp only [aP, gA, gZ, gC, sA, sZ, sC]
 have n3d := bA (dB w5) n3
 refine rY 7 rfl fun K hK => ?_
 go_simp
 refine hK.out _ _ trivial (fun hH => ?_)
 clear hK K
 refine wX 10 (.int .i64 ((S'.p : Int) + (ln : Int))) rfl (Or.inl ⟨by rfl, fun w' hS => by (go_simp; exact wrap_id (by omega) (by omega))⟩) hH ?_
 simp only [aP, gA, gZ, gC, sA, sZ, sC]
 refine rY 11 rfl fun K hK => ?_
 go_simp
 refine HPa.out.mono ?_
 rintro e w6 ⟨rfl, hp6⟩
 refine hK.out _ _ trivial (fun hH => ?_)
 have HX := HT6.out w6 hp6
 clear hK K hp6
 refine wpAnyH_done (by kernel_rfl) ?_ _
 clear hH
 go_wp2
 exact bodyPost_ret (v := .tuple #[.slice a ln cc, .int .i64 0]) (by simp [results, Try.results28, go_sem]) rfl HX.out
end
end Go.Proofs.Ythanifbimndhaaa.Ln
