import Derived.Test.YtghihdenbdnnjaaLk4
namespace Go.Proofs.Ytghihdenbdnnjaa.Ln
open Go.RowKit Mb Oe
set_option linter.unusedVariables false
set_option maxRecDepth 100000
set_option linter.unusedSimpArgs false
section
variable {w w' W : World} {B : Nat} {X X' : Wr} {P : Px}
theorem RdA.still {a : Option Addr} {n : Nat} {xs : List Ac} (h : RdA w a n xs) (hb : Below w.heap.size w w') : RdA w' a n xs :=
  ⟨h.1, h.2.elim .inl fun ⟨b, off, e, hc⟩ => .inr ⟨b, off, e, fun i x hx => by
    obtain ⟨⟨aa, m, c, h1, h2⟩, h3, h4⟩ := hc i x hx
    exact ⟨⟨aa, m, c, fun j hj => by
      have h5 := h1 j hj
      have h6 : j = 0 ∨ j = 1 ∨ j = 2 ∨ j = 3 := by omega
      rcases h6 with rfl | rfl | rfl | rfl
      all_goals exact below_at hb h5, h2.still hb⟩, h3, h4⟩⟩⟩
theorem takeP_one (k : Nat) (c : List Int) : takeP (upd (fun _ => none) 1 (some c)) 0 (k + 1) = [c] := by
  have h2 : takeP (upd (fun _ => none) 1 (some c)) 1 k = [] := by
    cases k with
    | zero => rfl
    | succ k => simp [takeP, upd]
  simp only [takeP, Nat.zero_add, upd_same, h2]
def a1 : Ac := ⟨0, 1, 0, [4, 2]⟩
def a2 : Ac := ⟨0, 2, 0, []⟩
def a4 : Ac := ⟨0, 4, 0, []⟩
theorem act1 (P : Px) : P.act a1 = P.push 0 (cutB [4, 2]) := by simp [Px.act, a1, Ac.s, absI]
theorem act2 (P : Px) : P.act a2 = P.show 0 := by simp [Px.act, a2, Ac.s, absI]
theorem act4 (P : Px) : P.act a4 = P.carry 0 0 := by simp [Px.act, a4, Ac.s, absI]
theorem three {win space : Nat} (h1 : 1 ≤ win) (h2 : win ≤ space) : (runA (px0 win space) [a1, a2, a4]).o 1 = [cutB [4, 2]] := by
  obtain ⟨k, rfl⟩ : ∃ k, win = k + 1 := ⟨win - 1, by omega⟩
  generalize hc : cutB [4, 2] = c
  have e1 : (px0 (k + 1) space).push 0 c = { px0 (k + 1) space with E := upd (fun _ => ep0) 0 (ep0.push c), p := upd (fun _ => []) 0 [c] } := by
    unfold Px.push
    rw [if_pos (show ((px0 (k + 1) space).E 0).sent < ((px0 (k + 1) space).E 0).op + (px0 (k + 1) space).space from by show 0 < 0 + space; omega)]
    rfl
  have e2 : ((px0 (k + 1) space).push 0 c).show 0 = { (px0 (k + 1) space).push 0 c with f := upd (fun _ => []) 0 [(1, c)] } := by
    unfold Px.show Px.shown
    rw [e1]
    have h9 : takeP (ep0.push c).ob (ep0.push c).op (k + 1) = [c] := takeP_one k c
    simp only [px0, upd_same, h9]
    rfl
  show ((((px0 (k + 1) space).act a1).act a2).act a4).o 1 = _
  rw [act1, act2, act4, hc, e2]
  unfold Px.carry
  simp only [upd_same]
  rw [if_neg (by simp)]
  show (Px.take _ 1 (([(1, c)] : List (Nat × List Int)).getD (pick 0 1) (0, []))).o 1 = _
  rw [show pick 0 1 = 0 from by unfold pick; omega]
  unfold Px.take
  have e3 : ((px0 (k + 1) space).push 0 c).E 1 = ep0 := by rw [e1]; simp [upd]
  have e4 : ((px0 (k + 1) space).push 0 c).o 1 = [] := by rw [e1]; rfl
  have e5 : ((px0 (k + 1) space).push 0 c).win = k + 1 := by rw [e1]; rfl
  simp only [List.getD_cons_zero]
  rw [if_neg (by simp only [e3]; simp [ep0])]
  simp only [upd_same, e3, e4, e5, List.nil_append]
  exact takeP_one k c
set_option maxHeartbeats 4000000 in
theorem fifo_any {t : Tk} (ht : TkIn w t) : Calls Try.prog 3 #[.agg #[.int .i64 t.wi, .int .i64 t.rm, .slice t.ba t.bn t.bc, .slice t.aa t.an t.ac, .int .i64 t.o0, .int .i64 t.o1, .int .i64 t.o2, .int .i64 t.o3, .int .i64 t.sq, .slice t.da t.dn t.dc]] w fun e w' => e = .returned (.bool true) ∧ Below w.heap.size w w' := by
  obtain ⟨win, hwin⟩ : ∃ k, 1 + (absI t.wi).toNat % 5 = k := ⟨_, rfl⟩
  obtain ⟨space, hsp⟩ : ∃ k, win + (absI t.rm).toNat % 9 = k := ⟨_, rfl⟩
  have hw1 : 1 ≤ win ∧ win ≤ 5 ∧ win ≤ space := by have := Nat.mod_lt (absI t.wi).toNat (show 0 < 5 by omega); omega
  generalize hW0 : w.alloc (.cells #[.int .i64 t.wi, .int .i64 t.rm, .slice t.ba t.bn t.bc, .slice t.aa t.an t.ac, .int .i64 t.o0, .int .i64 t.o1, .int .i64 t.o2, .int .i64 t.o3, .int .i64 t.sq, .slice t.da t.dn t.dc] 27) = W0
  have hbW : Below w.heap.size w W0 := by rw [← hW0]; exact balloc (Below.refl _ _)
  have hblk : W0.heap[w.heap.size]? = some (.cells #[.int .i64 t.wi, .int .i64 t.rm, .slice t.ba t.bn t.bc, .slice t.aa t.an t.ac, .int .i64 t.o0, .int .i64 t.o1, .int .i64 t.o2, .int .i64 t.o3, .int .i64 t.sq, .slice t.da t.dn t.dc] 27 (0, 0)) := by rw [← hW0]; exact heap_alloc_new _ _
  have c0 : W0.cell? ⟨w.heap.size, 0, none⟩ = some (.int .i64 t.wi) := blk_cell hblk 0
  have c1 : W0.cell? ⟨w.heap.size, 1, none⟩ = some (.int .i64 t.rm) := blk_cell hblk 1
  have c3 : W0.cell? ⟨w.heap.size, 3, none⟩ = some (.slice t.aa t.an t.ac) := blk_cell hblk 3
  have HT : Hid (TkIn w t) := ht
  have HbW : Hid (Below w.heap.size w W0) := hbW
  have HTl : Hid (∀ D a n c xs, RdA D a n xs → n ≤ 140737488351232 → Calls Try.prog 7 #[.int .i64 t.wi, .int .i64 t.rm, .slice a n c] D fun e w' => TlO D w' (runA (px0 win space) (xs.take 400)) e) := fun D a n c xs h1 h2 => (show Calls _ _ _ _ _ from by have := talked_any (w := D) HT.out.wi HT.out.rm (c := c) h1 h2; rw [hwin, hsp] at this; exact this)
  have HP : Hid (∀ xs : List Ac, xs.length ≤ 400 → (∀ x ∈ xs, By x.bs) → (runA (px0 win space) xs).Inv ∧ (runA (px0 win space) xs).Sz 400) := fun xs hl hb => (show _ ∧ _ from ⟨run_inv _ _ (px0_inv _ _) hb, by
    have h1 := run_sz xs (px0 win space) 0 (px0_sz _ _) hw1.2.1
    intro s hs
    have h2 := h1 s hs
    omega⟩)
  have H0 : Hid (Calls Try.prog 7 #[.int .i64 t.wi, .int .i64 t.rm, .slice none 0 0] W0 fun e w' => TlO W0 w' (runA (px0 win space) []) e) := HTl.out W0 none 0 0 [] ⟨rfl, .inl rfl⟩ (by omega)
  clear hwin hsp ht hbW hblk
  go_enter Try.func3, Try.ntmps3
  go_wp2_with (first | (go_at_call 7; refine H0.out.mono ?_) | fail)
  rintro e w1 hx
  obtain ⟨X1, he, hok, hpu, hbel⟩ := hx.out
  subst he
  obtain ⟨b0, hb0⟩ : ∃ b0, X1.b = b0 := ⟨_, rfl⟩
  have hS1 : TlS W0 w1 b0 (runA (px0 win space) []) X1 := ⟨hok, hpu, hbel, hb0⟩
  rw [hb0]
  clear hx hok hpu hbel hb0 H0
  generalize hW1 : w1.alloc (.cells #[.int .u8 4, .int .u8 2] 5) = W1
  have hb1 : Below w1.heap.size w1 W1 := by rw [← hW1]; exact balloc (Below.refl _ _)
  have hk1 : W1.heap[w1.heap.size]? = some (.cells #[.int .u8 4, .int .u8 2] 5 (0, 0)) := by rw [← hW1]; exact heap_alloc_new _ _
  have hS1' := hS1.step (Xstep.below hS1.ok hb1) hS1.pu
  have hrd : Rd W1 (some ⟨w1.heap.size, 0, none⟩) 2 2 [4, 2] := ⟨rfl, Nat.le_refl _, fun e => (by cases e), .inr ⟨w1.heap.size, 0, rfl, fun i hi => by
    have : i = 0 ∨ i = 1 := by omega
    rcases this with rfl | rfl
    · exact blk_cell hk1 0
    · exact blk_cell hk1 1⟩, fun i => by
    have : i = 0 ∨ i = 1 ∨ 2 ≤ i := by omega
    rcases this with rfl | rfl | h
    · simp
    · simp
    · simp [List.getD, List.getElem?_eq_none (show ([4, 2] : List Int).length ≤ i by simpa using h)]⟩
  have hq0 := HP.out [] (by simp) (fun x hx => by cases hx)
  have HPu : Hid (Calls Try.prog 8 #[.pointer (some ⟨b0, 0, none⟩), .int .i64 0, .slice (some ⟨w1.heap.size, 0, none⟩) 2 2] W1 fun e w' => XO W1 w' X1 W0.heap.size (X1.pu.push 0 (cutB [4, 2])) e) := (show Calls _ _ _ _ _ from by
    have := wpush_any hS1'.ok (by rw [hS1'.pu]; exact hq0.1) (T := 400) (by rw [hS1'.pu]; exact hq0.2) (by omega) (s := 0) (by omega) hrd (fun _ b off e ho => by cases e; have := hS1.ok.lt ho; omega) hS1'.bel.size
    rw [hS1'.b] at this
    exact this)
  have HS1 : Hid (TlS W0 W1 b0 (runA (px0 win space) []) X1) := hS1'
  clear hS1 hS1' hrd hk1 hb1 hq0
  go_wp2_with (first | (go_at_call 8; refine HPu.out.mono ?_) | fail)
  rintro e w2 hx2
  obtain ⟨he, X2, hxs, hpu⟩ := hx2
  subst he
  have hby : ∀ x ∈ [a1, a2, a4], By x.bs := fun x hx => by
    simp only [List.mem_cons, List.not_mem_nil, or_false] at hx
    rcases hx with rfl | rfl | rfl
    · intro i
      have : i = 0 ∨ i = 1 ∨ 2 ≤ i := by omega
      rcases this with rfl | rfl | h
      · simp [a1]
      · simp [a1]
      · simp [a1, List.getD, List.getElem?_eq_none (show ([4, 2] : List Int).length ≤ i by simpa using h)]
    · intro i; simp [a2]
    · intro i; simp [a4]
  have hS2 : TlS W0 w2 b0 (runA (px0 win space) [a1]) X2 := HS1.out.step hxs (by rw [hpu, HS1.out.pu, ← act1]; rfl)
  have hq1 := HP.out [a1] (by simp) (fun x hx => hby x (by simp at hx; simp [hx]))
  have hq2 := HP.out [a1, a2] (by simp) (fun x hx => hby x (by simp at hx; simp; rcases hx with h | h <;> simp [h]))
  have HSh : Hid (Calls Try.prog 9 #[.pointer (some ⟨b0, 0, none⟩), .int .i64 0] w2 fun e w' => XO w2 w' X2 W0.heap.size (X2.pu.show 0) e) := (show Calls _ _ _ _ _ from by
    have := wshow_any hS2.ok (by rw [hS2.pu]; exact hq1.1) (T := 400) (by rw [hS2.pu]; exact hq1.2) (by omega) hS2.bel.size (s := 0) (by omega)
    rw [hS2.b] at this
    exact this)
  have HS2 : Hid (TlS W0 w2 b0 (runA (px0 win space) [a1]) X2) := hS2
  have HQ2 : Hid ((runA (px0 win space) [a1, a2]).Inv ∧ (runA (px0 win space) [a1, a2]).Sz 400) := hq2
  clear hS2 hxs hpu hby hq1 hq2 HPu HS1 HP
  go_wp2_with (first | (go_at_call 9; refine HSh.out.mono ?_) | fail)
  rintro e w3 hx3
  obtain ⟨he, X3, hxs, hpu⟩ := hx3
  subst he
  have hS3 : TlS W0 w3 b0 (runA (px0 win space) [a1, a2]) X3 := HS2.out.step hxs (by rw [hpu, HS2.out.pu, ← act2]; rfl)
  have HCa : Hid (Calls Try.prog 10 #[.pointer (some ⟨b0, 0, none⟩), .int .i64 0, .int .i64 0] w3 fun e w' => XO w3 w' X3 W0.heap.size (X3.pu.carry 0 0) e) := (show Calls _ _ _ _ _ from by
    have := wcarry_any hS3.ok (by rw [hS3.pu]; exact HQ2.out.1) (T := 400) (by rw [hS3.pu]; exact HQ2.out.2) (by omega) hS3.bel.size (s := 0) (by omega) (n := 0) (by omega) (by omega)
    rw [hS3.b] at this
    exact this)
  have HS3 : Hid (TlS W0 w3 b0 (runA (px0 win space) [a1, a2]) X3) := hS3
  clear hS3 hxs hpu HS2 HSh HQ2
  go_wp2_with (first | (go_at_call 10; refine HCa.out.mono ?_) | fail)
  rintro e w4 hx4
  obtain ⟨he, X4, hxs, hpu⟩ := hx4
  subst he
  have hS4 : TlS W0 w4 b0 (runA (px0 win space) [a1, a2, a4]) X4 := HS3.out.step hxs (by rw [hpu, HS3.out.pu, ← act4]; rfl)
  obtain ⟨oa, oc, hov⟩ := row_shape (hS4.ok.rowo (s := 1) (by omega))
  have hlen : (X4.o 1).length = 1 := by
    have e1 : X4.pu.o 1 = [cutB [4, 2]] := by rw [hS4.pu]; exact three hw1.1 hw1.2.2
    have e2 : (X4.o 1).map Bn.bs = [cutB [4, 2]] := e1
    have e3 := congrArg List.length e2
    rw [List.length_map] at e3
    exact e3
  rw [hlen] at hov
  have d7 : w4.cell? ⟨b0, 7, none⟩ = some (.slice oa 1 oc) := by have := hS4.ok.cr (i := 7) (by omega) (by omega); rw [hS4.b] at this; rw [this]; exact congrArg some hov
  have d0 := below_at hS4.bel c0
  have d1 := below_at hS4.bel c1
  have d3 := below_at hS4.bel c3
  have hb4 : Below w.heap.size w w4 := bstep HbW.out hS4.bel
  have HL : Hid (Calls Try.prog 7 #[.int .i64 t.wi, .int .i64 t.rm, .slice t.aa t.an t.ac] w4 fun e w' => TlO w4 w' (runA (px0 win space) (t.ax.take 400)) e) := HTl.out w4 _ _ _ _ (HT.out.ax.still hb4) HT.out.an
  have Hb4 : Hid (Below w.heap.size w w4) := hb4
  clear hS4 hxs hpu HS3 HCa hov hlen hb4 c0 c1 c3 HTl HT hW0 hW1
  go_wp2_with (first | (go_at_call 7; refine HL.out.mono ?_) | fail)
  rintro e w5 hx5
  obtain ⟨X5, he, hok, hpu, hbel⟩ := hx5.out
  subst he
  have HZ : Hid (Below w.heap.size w w5) := (show Below _ _ _ from bstep Hb4.out hbel)
  clear hx5 hok hpu hbel
  go_wp2
  go_ret
  exact ⟨rfl, HZ.out⟩
end
end Go.Proofs.Ytghihdenbdnnjaa.Ln
