import Derived.Test.YtgpehjkogfbnkaaLk7
import Derived.Deep.MidRow
namespace Go.Proofs.Ytgpehjkogfbnkaa.Ln
open Go.RowKit Mb Oe
set_option linter.unusedVariables false
set_option maxRecDepth 100000
set_option linter.unusedSimpArgs false
section
variable {w w' W : World} {B : Nat} {X X' : Wr} {P : Px}
theorem range_still {w w' : World} {b o : Nat} {cs : List Value} (hb : Below w.heap.size w w') (h : w.rangeAt b o cs) : w'.rangeAt b o cs := fun j v hv => below_at hb (h j v hv)
structure RfO (W0 w5 : World) (b1 win space s pm : Nat) : Prop where
  out : ∃ X : Wr, FrT W0 w5 b1 win space (s + 1) X ∧ (X.m s).b = pm
structure FoO (D w' : World) (e : Ending) : Prop where
  out : ∃ fb, e = .returned (.slice (some ⟨fb, 0, none⟩) 0 0) ∧ Below D.heap.size D w'
set_option maxHeartbeats 8000000 in
theorem fresh_any {t : Tk} (ht : TkIn w t) : Calls Try.prog 5 #[.agg #[.int .i64 t.wi, .int .i64 t.rm, .slice t.ba t.bn t.bc, .slice t.aa t.an t.ac, .int .i64 t.o0, .int .i64 t.o1, .int .i64 t.o2, .int .i64 t.o3, .int .i64 t.sq, .slice t.da t.dn t.dc]] w fun e w' => e = .returned (.bool true) ∧ Below w.heap.size w w' := by
  obtain ⟨win, hwin⟩ : ∃ k, 1 + (absI t.wi).toNat % 5 = k := ⟨_, rfl⟩
  obtain ⟨space, hsp⟩ : ∃ k, win + (absI t.rm).toNat % 9 = k := ⟨_, rfl⟩
  have hw1 : 1 ≤ win ∧ win ≤ 5 ∧ win ≤ space := by have := Nat.mod_lt (absI t.wi).toNat (show 0 < 5 by omega); omega
  generalize hW0 : w.alloc (.cells #[.int .i64 t.wi, .int .i64 t.rm, .slice t.ba t.bn t.bc, .slice t.aa t.an t.ac, .int .i64 t.o0, .int .i64 t.o1, .int .i64 t.o2, .int .i64 t.o3, .int .i64 t.sq, .slice t.da t.dn t.dc] 27) = W0
  have hbW : Below w.heap.size w W0 := by rw [← hW0]; exact balloc (Below.refl _ _)
  have hblk : W0.heap[w.heap.size]? = some (.cells #[.int .i64 t.wi, .int .i64 t.rm, .slice t.ba t.bn t.bc, .slice t.aa t.an t.ac, .int .i64 t.o0, .int .i64 t.o1, .int .i64 t.o2, .int .i64 t.o3, .int .i64 t.sq, .slice t.da t.dn t.dc] 27 (0, 0)) := by rw [← hW0]; exact heap_alloc_new _ _
  have c0 : W0.cell? ⟨w.heap.size, 0, none⟩ = some (.int .i64 t.wi) := blk_cell hblk 0
  have c1 : W0.cell? ⟨w.heap.size, 1, none⟩ = some (.int .i64 t.rm) := blk_cell hblk 1
  have c2 : W0.cell? ⟨w.heap.size, 2, none⟩ = some (.slice t.ba t.bn t.bc) := blk_cell hblk 2
  have c3 : W0.cell? ⟨w.heap.size, 3, none⟩ = some (.slice t.aa t.an t.ac) := blk_cell hblk 3
  have HbW : Hid (Below w.heap.size w W0) := hbW
  have HAx : Hid (RdA W0 t.aa t.an t.ax) := ht.ax.still hbW
  have HI : Hid (∀ i, (runA (px0 win space) (t.ax.take i)).Inv) := fun i => run_inv _ _ (px0_inv _ _) (fun x hx => ht.ax.bys x (List.mem_of_mem_take hx))
  have HT : Hid (∀ i, i ≤ 400 → (runA (px0 win space) (t.ax.take i)).Sz 400) := fun i hi => (show Px.Sz _ _ from by
    have h1 := run_sz (t.ax.take i) (px0 win space) 0 (px0_sz _ _) hw1.2.1
    intro s hs
    have h2 := h1 s hs
    have h3 : (t.ax.take i).length ≤ 400 := by rw [List.length_take]; omega
    omega)
  have H0 : Hid (Calls Try.prog 7 #[.int .i64 t.wi, .int .i64 t.rm, .slice t.ba t.bn t.bc] W0 fun e w' => TlO W0 w' (runA (px0 win space) (t.bx.take 400)) e) := (show Calls _ _ _ _ _ from by have := talked_any (w := W0) ht.wi ht.rm (c := t.bc) (ht.bx.still hbW) ht.bn; rw [hwin, hsp] at this; exact this)
  have han : t.an ≤ 140737488351232 := ht.an
  clear hwin hsp ht hbW hblk
  go_enter Try.func5, Try.ntmps5
  go_wp2_with (first | (go_at_call 7; refine H0.out.mono ?_) | fail)
  rintro e w1 hx
  obtain ⟨X0, he, hok, hpu, hbel⟩ := hx.out
  subst he
  have hxw : X0.win = win := (show X0.pu.win = win from by rw [hpu]; exact (run_win _ _).1)
  have hxs : X0.space = space := (show X0.pu.space = space from by rw [hpu]; exact (run_win _ _).2)
  obtain ⟨b0, hb0⟩ : ∃ b0, X0.b = b0 := ⟨_, rfl⟩
  obtain ⟨m0, hm0⟩ : ∃ m, (X0.m 0).b = m := ⟨_, rfl⟩
  obtain ⟨m1, hm1⟩ : ∃ m, (X0.m 1).b = m := ⟨_, rfl⟩
  have d0 : w1.cell? ⟨b0, 0, none⟩ = some (.pointer (some ⟨m0, 0, none⟩)) := by have := hok.cm (s := 0) (by omega); rw [hb0, hm0] at this; exact this
  have d1 : w1.cell? ⟨b0, 1, none⟩ = some (.pointer (some ⟨m1, 0, none⟩)) := by have := hok.cm (s := 1) (by omega); rw [hb0, hm1] at this; exact this
  have d2 : w1.cell? ⟨b0, 2, none⟩ = some (.int .i64 (win : Int)) := by have : w1.cell? ⟨X0.b, 2, none⟩ = some (.int .i64 (X0.win : Int)) := hok.c 2 rfl; rw [hb0, hxw] at this; exact this
  have d3 : w1.cell? ⟨b0, 3, none⟩ = some (.int .i64 (space : Int)) := by have : w1.cell? ⟨X0.b, 3, none⟩ = some (.int .i64 (X0.space : Int)) := hok.c 3 rfl; rw [hb0, hxs] at this; exact this
  have HRg : Hid (w1.rangeAt b0 0 [.pointer (some ⟨m0, 0, none⟩), .pointer (some ⟨m1, 0, none⟩)]) := fun j v hv => (show _ = _ from by
    match j, hv with
    | 0, hv => cases hv; exact d0
    | 1, hv => cases hv; exact d1)
  have HX0 : Hid (X0.Ok w1 W0.heap.size ∧ X0.win = win ∧ X0.space = space ∧ (X0.m 0).b = m0 ∧ (X0.m 1).b = m1 ∧ Below W0.heap.size W0 w1) := (show _ ∧ _ from ⟨hok, hxw, hxs, hm0, hm1, hbel⟩)
  rw [hb0]
  clear hx hok hpu hbel hb0 hm0 hm1 hxw hxs H0 d0 d1 hW0
  go_wp2
  refine wp_region_held_drew (S := (fun w' => w'.rangeAt b0 0 [.pointer (some ⟨m0, 0, none⟩), .pointer (some ⟨m1, 0, none⟩)] ∧ w'.cell? ⟨b0, 2, none⟩ = some (.int .i64 (win : Int)) ∧ w'.cell? ⟨b0, 3, none⟩ = some (.int .i64 (space : Int)))) (by kernel_rfl) ⟨(range_still (drew_bel _) HRg.out), below_at (drew_bel _) d2, below_at (drew_bel _) d3⟩ (fun hHeld => ?_)
  simp only [Act.put, List.size_toArray, List.length_cons, List.length_nil, Nat.zero_add]
  refine wpAnyH_take (i := 0) (v := .pointer (some ⟨b0, 0, none⟩)) rfl (by kernel_rfl) (by kernel_rfl) (by kernel_rfl) (fun _ _ _ h => h) (Or.inl ⟨by rfl, fun w' hS => by go_simp⟩) hHeld ?_
  simp only [Act.put, List.getElem_toArray, List.getElem_cons_zero, List.getElem_cons_succ, List.setIfInBounds_toArray, List.set_cons_zero, List.set_cons_succ]
  refine wpAnyH_take (i := 1) (v := .pointer (some ⟨b0, 0, none⟩)) rfl (by kernel_rfl) (by kernel_rfl) (by kernel_rfl) (fun _ _ _ h => h) (Or.inl ⟨by rfl, fun w' hS => by go_simp⟩) hHeld ?_
  simp only [Act.put, List.getElem_toArray, List.getElem_cons_zero, List.getElem_cons_succ, List.setIfInBounds_toArray, List.set_cons_zero, List.set_cons_succ]
  refine wpAnyH_take (i := 2) (v := .pointer (some ⟨b0, 0, none⟩)) rfl (by kernel_rfl) (by kernel_rfl) (by kernel_rfl) (fun _ _ _ h => h) (Or.inl ⟨by rfl, fun w' hS => by go_simp⟩) hHeld ?_
  simp only [Act.put, List.getElem_toArray, List.getElem_cons_zero, List.getElem_cons_succ, List.setIfInBounds_toArray, List.set_cons_zero, List.set_cons_succ]
  refine wpAnyH_take (i := 3) (v := .agg [.pointer (some ⟨m0, 0, none⟩), .pointer (some ⟨m1, 0, none⟩)].toArray) rfl (by kernel_rfl) (by kernel_rfl) (by kernel_rfl) (fun _ _ _ h => h) (yieldsIf_load_mid (by rfl) 35 (.tmp 21) rfl b0 0 (by rfl) [.pointer (some ⟨m0, 0, none⟩), .pointer (some ⟨m1, 0, none⟩)] _ (fun w' hS => hS.1) Try.underlying35 rfl (by kernel_rfl)) hHeld ?_
  simp only [Act.put, List.getElem_toArray, List.getElem_cons_zero, List.getElem_cons_succ, List.setIfInBounds_toArray, List.set_cons_zero, List.set_cons_succ]
  refine wpAnyH_take (i := 4) (v := .pointer (some ⟨b0, 0, none⟩)) rfl (by kernel_rfl) (by kernel_rfl) (by kernel_rfl) (fun _ _ _ h => h) (Or.inl ⟨by rfl, fun w' hS => by go_simp⟩) hHeld ?_
  simp only [Act.put, List.getElem_toArray, List.getElem_cons_zero, List.getElem_cons_succ, List.setIfInBounds_toArray, List.set_cons_zero, List.set_cons_succ]
  refine wpAnyH_take (i := 5) (v := .pointer (some ⟨b0, 0, none⟩)) rfl (by kernel_rfl) (by kernel_rfl) (by kernel_rfl) (fun _ _ _ h => h) (Or.inl ⟨by rfl, fun w' hS => by go_simp⟩) hHeld ?_
  simp only [Act.put, List.getElem_toArray, List.getElem_cons_zero, List.getElem_cons_succ, List.setIfInBounds_toArray, List.set_cons_zero, List.set_cons_succ]
  refine wpAnyH_take (i := 6) (v := .pointer (some ⟨b0, 2, none⟩)) rfl (by kernel_rfl) (by kernel_rfl) (by kernel_rfl) (fun _ _ _ h => h) (Or.inl ⟨by rfl, fun w' hS => by go_simp⟩) hHeld ?_
  simp only [Act.put, List.getElem_toArray, List.getElem_cons_zero, List.getElem_cons_succ, List.setIfInBounds_toArray, List.set_cons_zero, List.set_cons_succ]
  refine wpAnyH_take (i := 7) (v := .int .i64 (win : Int)) rfl (by kernel_rfl) (by kernel_rfl) (by kernel_rfl) (fun _ _ _ h => h) (Or.inl ⟨by rfl, fun w' hS => by (obtain ⟨s0, s1, s2⟩ := hS; go_simp)⟩) hHeld ?_
  simp only [Act.put, List.getElem_toArray, List.getElem_cons_zero, List.getElem_cons_succ, List.setIfInBounds_toArray, List.set_cons_zero, List.set_cons_succ]
  refine wpAnyH_take (i := 8) (v := .pointer (some ⟨b0, 0, none⟩)) rfl (by kernel_rfl) (by kernel_rfl) (by kernel_rfl) (fun _ _ _ h => h) (Or.inl ⟨by rfl, fun w' hS => by go_simp⟩) hHeld ?_
  simp only [Act.put, List.getElem_toArray, List.getElem_cons_zero, List.getElem_cons_succ, List.setIfInBounds_toArray, List.set_cons_zero, List.set_cons_succ]
  refine wpAnyH_take (i := 9) (v := .pointer (some ⟨b0, 0, none⟩)) rfl (by kernel_rfl) (by kernel_rfl) (by kernel_rfl) (fun _ _ _ h => h) (Or.inl ⟨by rfl, fun w' hS => by go_simp⟩) hHeld ?_
  simp only [Act.put, List.getElem_toArray, List.getElem_cons_zero, List.getElem_cons_succ, List.setIfInBounds_toArray, List.set_cons_zero, List.set_cons_succ]
  refine wpAnyH_take (i := 10) (v := .pointer (some ⟨b0, 3, none⟩)) rfl (by kernel_rfl) (by kernel_rfl) (by kernel_rfl) (fun _ _ _ h => h) (Or.inl ⟨by rfl, fun w' hS => by go_simp⟩) hHeld ?_
  simp only [Act.put, List.getElem_toArray, List.getElem_cons_zero, List.getElem_cons_succ, List.setIfInBounds_toArray, List.set_cons_zero, List.set_cons_succ]
  refine wpAnyH_take (i := 11) (v := .int .i64 (space : Int)) rfl (by kernel_rfl) (by kernel_rfl) (by kernel_rfl) (fun _ _ _ h => h) (Or.inl ⟨by rfl, fun w' hS => by (obtain ⟨s0, s1, s2⟩ := hS; go_simp)⟩) hHeld ?_
  simp only [Act.put, List.getElem_toArray, List.getElem_cons_zero, List.getElem_cons_succ, List.setIfInBounds_toArray, List.set_cons_zero, List.set_cons_succ]
  refine wpAnyH_take (i := 12) (v := .agg #[.pointer (some ⟨m0, 0, none⟩), .pointer (some ⟨m1, 0, none⟩), .int .i64 (win : Int), .int .i64 (space : Int), .slice none 0 0, .slice none 0 0, .slice none 0 0, .slice none 0 0, .slice none 0 0, .slice none 0 0, .slice none 0 0, .slice none 0 0]) rfl (by kernel_rfl) (by kernel_rfl) (by kernel_rfl) (fun _ _ _ h => h) (Or.inl ⟨by rfl, fun w' hS => by go_simp⟩) hHeld ?_
  simp only [Act.put, List.getElem_toArray, List.getElem_cons_zero, List.getElem_cons_succ, List.setIfInBounds_toArray, List.set_cons_zero, List.set_cons_succ]
  have hbD : Below w1.heap.size w1 w1.drew := drew_bel _
  have q0 := range_still hbD HRg.out
  have q2 := below_at hbD d2
  have q3 := below_at hbD d3
  generalize w1.drew = D1 at *
  generalize hW2 : D1.alloc (.cells #[.pointer (some ⟨m0, 0, none⟩), .pointer (some ⟨m1, 0, none⟩), .int .i64 (win : Int), .int .i64 (space : Int), .slice none 0 0, .slice none 0 0, .slice none 0 0, .slice none 0 0, .slice none 0 0, .slice none 0 0, .slice none 0 0, .slice none 0 0] 42) = W2
  have hbW2 : Below D1.heap.size D1 W2 := by rw [← hW2]; exact balloc (Below.refl _ _)
  have hk2 : W2.heap[D1.heap.size]? = some (.cells #[.pointer (some ⟨m0, 0, none⟩), .pointer (some ⟨m1, 0, none⟩), .int .i64 (win : Int), .int .i64 (space : Int), .slice none 0 0, .slice none 0 0, .slice none 0 0, .slice none 0 0, .slice none 0 0, .slice none 0 0, .slice none 0 0, .slice none 0 0] 42 (0, 0)) := by rw [← hW2]; exact heap_alloc_new _ _
  refine wpAnyH_ready (rs := [13]) (by kernel_rfl) (by simp) ?_
  refine AllReadyH.cons rfl (fun K hK => ?_) AllReadyH.nil
  go_simp
  refine hK.out _ _ ⟨(range_still hbW2 q0), below_at hbW2 q2, below_at hbW2 q3⟩ (fun hHeld => ?_)
  clear hK K
  refine wpAnyH_take (i := 14) (v := .pointer (some ⟨D1.heap.size, 0, none⟩)) rfl (by kernel_rfl) (by kernel_rfl) (by kernel_rfl) (fun _ _ _ h => h) (Or.inl ⟨by rfl, fun w' hS => by go_simp⟩) hHeld ?_
  simp only [Act.put, List.getElem_toArray, List.getElem_cons_zero, List.getElem_cons_succ, List.setIfInBounds_toArray, List.set_cons_zero, List.set_cons_succ]
  refine wpAnyH_done (by kernel_rfl) ?_ _
  clear hHeld
  obtain ⟨b1, hb1⟩ : ∃ b, D1.heap.size = b := ⟨_, rfl⟩
  have HF0 : Hid (∃ Y, FrT W0 W2 b1 win space 0 Y) := (show ∃ Y, FrT _ _ _ _ _ _ Y from ⟨_, FrT.first HX0.out.1 HX0.out.2.2.2.2.2 (bstep hbD hbW2) (by rw [← hb1, hk2]; unfold mp; rw [HX0.out.2.1, HX0.out.2.2.1, HX0.out.2.2.2.1, HX0.out.2.2.2.2.1]) (by rw [← hb1]; exact Nat.le_trans HX0.out.2.2.2.2.2.size hbD.size) HX0.out.2.1 HX0.out.2.2.1⟩)
  rw [hb1]
  clear hb1 hk2 hbW2 hbD q0 q2 q3 d2 d3 HRg HX0 hW2
  go_wp2
  go_loopw [5, 6, 7] (fun v5 _ _ wr => ∃ s : Nat, s ≤ 2 ∧ v5 = .int .i64 (s : Int) ∧ Hid (∃ Y, FrT W0 wr b1 win space s Y)) (fun v5 _ _ _ => 2 - (intOf v5).toNat)
  case atStart => exact ⟨0, by omega, rfl, HF0⟩
  case round =>
    clear HF0
    obtain ⟨s, hs2, rfl, hst⟩ := hrel
    obtain ⟨Y, hY⟩ := hst.out
    clear hst
    by_cases hs : s < 2
    · have i1 : (0 : Int) ≤ (s : Int) := Int.natCast_nonneg _
      have i2 : (s : Int) < 2 := by omega
      have j1 : (0 : Int) ≤ 1 - (s : Int) := by omega
      have j2 : 1 - (s : Int) ≤ 1 := by omega
      obtain ⟨pm, hpm⟩ : ∃ p, (Y.m s).b = p := ⟨_, rfl⟩
      have cm : wr.cell? ⟨b1, s, none⟩ = some (.pointer (some ⟨pm, 0, none⟩)) := by have := hY.ok.cm hs; rw [hY.b, hpm] at this; exact this
      have cs : wr.cell? ⟨b1, 3, none⟩ = some (.int .i64 (space : Int)) := by have : wr.cell? ⟨Y.b, 3, none⟩ = some (.int .i64 (Y.space : Int)) := hY.ok.c 3 rfl; rw [hY.b, hY.ws.2] at this; exact this
      have HRs : Hid (∀ w3, Below wr.heap.size wr w3 → Calls Try.prog 22 #[.pointer (some ⟨pm, 0, none⟩), .agg #[.int .i64 3, .int .i64 2, .int .i64 4, .int .i64 9], .slice (some ⟨w3.heap.size, 0, none⟩) 1 1] (w3.alloc (.cells #[.int .i64 (2 + 3 * (1 - (s : Int)))] 3)) fun e w' => e = .returned (.int .i64 0) ∧ RfO W0 w' b1 win space s pm) := fun w3 hb3 => (show Calls _ _ _ _ _ from by
        have hY3 := hY.still hb3
        have hA : Below w3.heap.size w3 (w3.alloc (.cells #[.int .i64 (2 + 3 * (1 - (s : Int)))] 3)) := balloc (Below.refl _ _)
        have hY4 := hY3.still hA
        have hrd : RdI (w3.alloc (.cells #[.int .i64 (2 + 3 * (1 - (s : Int)))] 3)) (some ⟨w3.heap.size, 0, none⟩) 1 1 [2 + 3 * (1 - (s : Int))] := ⟨rfl, Nat.le_refl _, by simp, .inr ⟨w3.heap.size, 0, rfl, fun i hi => by
          obtain rfl : i = 0 := by omega
          exact blk_cell (heap_alloc_new _ _) 0⟩⟩
        have hap : In (some ⟨w3.heap.size, 0, none⟩) fun b => ¬ (Y.m s).own b := fun b off e hb => by cases e; have := (hY3.ok.mo s hs).lt hb; omega
        have := reset_ok (hY4.ok.mo s hs) hY4.bel.size tg9 hrd hap (by omega) (by decide) (okp_ok hY4.ok hs)
        rw [hpm] at this
        refine this.mono ?_
        rintro e w5 ⟨rfl, hr⟩
        obtain ⟨X, hX, hXb⟩ := hY4.reset hs hr
        exact ⟨rfl, X, hX, hXb.trans hpm⟩)
      clear hY hpm
      go_wp2
      refine wp_region_held_drew (S := (fun w' => w'.cell? ⟨b1, s, none⟩ = some (.pointer (some ⟨pm, 0, none⟩)) ∧ w'.cell? ⟨b1, 3, none⟩ = some (.int .i64 (space : Int)))) (by kernel_rfl) ⟨below_at (drew_bel _) cm, below_at (drew_bel _) cs⟩ (fun hHeld => ?_)
      simp only [Act.put, List.size_toArray, List.length_cons, List.length_nil, Nat.zero_add]
      refine wpAnyH_take (i := 0) (v := .pointer (some ⟨b1, 0, none⟩)) rfl (by kernel_rfl) (by kernel_rfl) (by kernel_rfl) (fun _ _ _ h => h) (Or.inl ⟨by rfl, fun w' hS => by go_simp⟩) hHeld ?_
      simp only [Act.put, List.getElem_toArray, List.getElem_cons_zero, List.getElem_cons_succ, List.setIfInBounds_toArray, List.set_cons_zero, List.set_cons_succ]
      refine wpAnyH_take (i := 1) (v := .int .i64 (s : Int)) rfl (by kernel_rfl) (by kernel_rfl) (by kernel_rfl) (fun _ _ _ h => h) (Or.inl ⟨by rfl, fun w' hS => by go_simp⟩) hHeld ?_
      simp only [Act.put, List.getElem_toArray, List.getElem_cons_zero, List.getElem_cons_succ, List.setIfInBounds_toArray, List.set_cons_zero, List.set_cons_succ]
      refine wpAnyH_take (i := 2) (v := .pointer (some ⟨b1, 0, none⟩)) rfl (by kernel_rfl) (by kernel_rfl) (by kernel_rfl) (fun _ _ _ h => h) (Or.inl ⟨by rfl, fun w' hS => by go_simp⟩) hHeld ?_
      simp only [Act.put, List.getElem_toArray, List.getElem_cons_zero, List.getElem_cons_succ, List.setIfInBounds_toArray, List.set_cons_zero, List.set_cons_succ]
      refine wpAnyH_take (i := 3) (v := .pointer (some ⟨b1, 0, none⟩)) rfl (by kernel_rfl) (by kernel_rfl) (by kernel_rfl) (fun _ _ _ h => h) (Or.inl ⟨by rfl, fun w' hS => by go_simp⟩) hHeld ?_
      simp only [Act.put, List.getElem_toArray, List.getElem_cons_zero, List.getElem_cons_succ, List.setIfInBounds_toArray, List.set_cons_zero, List.set_cons_succ]
      refine wpAnyH_take (i := 4) (v := .pointer (some ⟨b1, s, none⟩)) rfl (by kernel_rfl) (by kernel_rfl) (by kernel_rfl) (fun _ _ _ h => h) (Or.inl ⟨by rfl, fun w' hS => by go_simp⟩) hHeld ?_
      simp only [Act.put, List.getElem_toArray, List.getElem_cons_zero, List.getElem_cons_succ, List.setIfInBounds_toArray, List.set_cons_zero, List.set_cons_succ]
      refine wpAnyH_take (i := 5) (v := .pointer (some ⟨pm, 0, none⟩)) rfl (by kernel_rfl) (by kernel_rfl) (by kernel_rfl) (fun _ _ _ h => h) (Or.inl ⟨by rfl, fun w' hS => by (obtain ⟨s0, s1⟩ := hS; go_simp)⟩) hHeld ?_
      simp only [Act.put, List.getElem_toArray, List.getElem_cons_zero, List.getElem_cons_succ, List.setIfInBounds_toArray, List.set_cons_zero, List.set_cons_succ]
      refine wpAnyH_take (i := 7) (v := .int .i64 (s : Int)) rfl (by kernel_rfl) (by kernel_rfl) (by kernel_rfl) (fun _ _ _ h => h) (Or.inl ⟨by rfl, fun w' hS => by go_simp⟩) hHeld ?_
      simp only [Act.put, List.getElem_toArray, List.getElem_cons_zero, List.getElem_cons_succ, List.setIfInBounds_toArray, List.set_cons_zero, List.set_cons_succ]
      refine wpAnyH_take (i := 8) (v := .int .i64 (1 - (s : Int))) rfl (by kernel_rfl) (by kernel_rfl) (by kernel_rfl) (fun _ _ _ h => h) (Or.inl ⟨by rfl, fun w' hS => by (go_simp <;> exact wrap_id (by omega) (by omega))⟩) hHeld ?_
      simp only [Act.put, List.getElem_toArray, List.getElem_cons_zero, List.getElem_cons_succ, List.setIfInBounds_toArray, List.set_cons_zero, List.set_cons_succ]
      have hbD2 : Below wr.heap.size wr wr.drew := drew_bel _
      have qm := below_at hbD2 cm
      have qs := below_at hbD2 cs
      generalize wr.drew = D2 at *
      refine wpAnyH_ready (rs := [6]) (by kernel_rfl) (by simp) ?_
      refine AllReadyH.cons rfl (fun K hK => ?_) AllReadyH.nil
      go_simp
      refine (tag_any).mono ?_
      rintro e w2 ⟨rfl, hb2⟩
      refine hK.out _ _ ⟨below_at hb2 qm, below_at hb2 qs⟩ (fun hHeld => ?_)
      clear hK K
      refine wpAnyH_ready (rs := [9]) (by kernel_rfl) (by simp) ?_
      refine AllReadyH.cons rfl (fun K hK => ?_) AllReadyH.nil
      go_simp
      refine (pid_any j1 j2).mono ?_
      rintro e w3 ⟨rfl, rfl⟩
      refine hK.out _ _ ⟨below_at hb2 qm, below_at hb2 qs⟩ (fun hHeld => ?_)
      clear hK K
      refine wpAnyH_ready (rs := [10]) (by kernel_rfl) (by simp) ?_
      refine AllReadyH.cons rfl (fun K hK => ?_) AllReadyH.nil
      go_simp
      refine hK.out _ _ ⟨below_at (balloc (Below.refl _ _)) (below_at hb2 qm), below_at (balloc (Below.refl _ _)) (below_at hb2 qs)⟩ (fun hHeld => ?_)
      clear hK K
      refine wpAnyH_ready (rs := [11]) (by kernel_rfl) (by simp) ?_
      refine AllReadyH.cons rfl (fun K hK => ?_) AllReadyH.nil
      go_simp
      refine (HRs.out w2 (bstep hbD2 hb2)).mono ?_
      rintro e w5 ⟨rfl, hfr⟩
      obtain ⟨X, hX, hXb⟩ := hfr.out
      have k1 : w5.cell? ⟨b1, s, none⟩ = some (.pointer (some ⟨pm, 0, none⟩)) := by have := hX.ok.cm hs; rw [hX.b, hXb] at this; exact this
      have k2 : w5.cell? ⟨b1, 3, none⟩ = some (.int .i64 (space : Int)) := by have : w5.cell? ⟨X.b, 3, none⟩ = some (.int .i64 (X.space : Int)) := hX.ok.c 3 rfl; rw [hX.b, hX.ws.2] at this; exact this
      obtain ⟨f1, f2, f3, f4, f5⟩ := ep_facts (hX.em s (Or.inl (Nat.lt_succ_self s)))
      have HX : Hid (FrT W0 w5 b1 win space (s + 1) X) := hX
      have HXb : Hid ((X.m s).b = pm) := hXb
      have HF : Hid ((X.e s).o.p = 0 ∧ (X.e s).sent = 0 ∧ (X.e s).i.p = 0 ∧ (X.e s).owed = false ∧ ∀ n, (X.e s).o.f n = none) := (show _ ∧ _ from ⟨f1, f2, f3, f4, f5⟩)
      clear hX hXb f1 f2 f3 f4 f5 hfr
      have HSn : Hid (Calls Try.prog 23 #[.pointer (some ⟨pm, 0, none⟩), .int .i64 (2 + 3 * (1 - (s : Int)))] w5 fun e w' => e = .returned (.int .i64 0) ∧ w5 = w') := (show Calls _ _ _ _ _ from by have := sent_yes (HX.out.ok.mo s hs) (qat HX.out.ok hs); rw [HXb.out, HF.out.2.1] at this; exact this)
      have HGt : Hid (Calls Try.prog 20 #[.pointer (some ⟨pm, 0, none⟩), .int .i64 (2 + 3 * (1 - (s : Int)))] w5 fun e w' => e = .returned (.int .i64 0) ∧ w5 = w') := (show Calls _ _ _ _ _ from by have := got_yes (HX.out.ok.mo s hs) (qat HX.out.ok hs); rw [HXb.out, HF.out.2.2.1] at this; exact this)
      have HRm : Hid (Calls Try.prog 19 #[.pointer (some ⟨pm, 0, none⟩), .int .i64 (2 + 3 * (1 - (s : Int)))] w5 fun e w' => e = .returned (.int .i64 (space : Int)) ∧ Below w5.heap.size w5 w') := (show Calls _ _ _ _ _ from by have := room_yes (HX.out.ok.mo s hs) (qat HX.out.ok hs); rw [HXb.out, HF.out.1, HF.out.2.1, (HX.out.ok.mt s hs).2.2, HX.out.ws.2, show (space : Int) - (((0 : Nat) : Int) - ((0 : Nat) : Int)) = (space : Int) from by omega] at this; exact this)
      refine hK.out _ _ ⟨k1, k2⟩ (fun hHeld => ?_)
      clear hK K
      refine wpAnyH_ready (rs := [12]) (by kernel_rfl) (by simp) ?_
      refine AllReadyH.cons rfl (fun K hK => ?_) AllReadyH.nil
      go_simp
      refine (num_any 0).mono ?_
      rintro e w6 ⟨rfl, rfl⟩
      refine hK.out _ _ ⟨k1, k2⟩ (fun hHeld => ?_)
      clear hK K
      refine wpAnyH_take (i := 13) (v := .bool false) rfl (by kernel_rfl) (by kernel_rfl) (by kernel_rfl) (fun _ _ _ h => h) (Or.inl ⟨by rfl, fun w' hS => by go_simp⟩) hHeld ?_
      simp only [Act.put, List.getElem_toArray, List.getElem_cons_zero, List.getElem_cons_succ, List.setIfInBounds_toArray, List.set_cons_zero, List.set_cons_succ]
      refine wpAnyH_take (i := 14) (v := .bool false) rfl (by kernel_rfl) (by kernel_rfl) (by kernel_rfl) (fun _ _ _ h => h) (Or.inl ⟨by rfl, fun w' hS => by go_simp⟩) hHeld ?_
      simp only [Act.put, List.getElem_toArray, List.getElem_cons_zero, List.getElem_cons_succ, List.setIfInBounds_toArray, List.set_cons_zero, List.set_cons_succ]
      refine wpAnyH_take (i := 15) (v := .pointer (some ⟨b1, 0, none⟩)) rfl (by kernel_rfl) (by kernel_rfl) (by kernel_rfl) (fun _ _ _ h => h) (Or.inl ⟨by rfl, fun w' hS => by go_simp⟩) hHeld ?_
      simp only [Act.put, List.getElem_toArray, List.getElem_cons_zero, List.getElem_cons_succ, List.setIfInBounds_toArray, List.set_cons_zero, List.set_cons_succ]
      refine wpAnyH_take (i := 16) (v := .int .i64 (s : Int)) rfl (by kernel_rfl) (by kernel_rfl) (by kernel_rfl) (fun _ _ _ h => h) (Or.inl ⟨by rfl, fun w' hS => by go_simp⟩) hHeld ?_
      simp only [Act.put, List.getElem_toArray, List.getElem_cons_zero, List.getElem_cons_succ, List.setIfInBounds_toArray, List.set_cons_zero, List.set_cons_succ]
      refine wpAnyH_take (i := 17) (v := .pointer (some ⟨b1, 0, none⟩)) rfl (by kernel_rfl) (by kernel_rfl) (by kernel_rfl) (fun _ _ _ h => h) (Or.inl ⟨by rfl, fun w' hS => by go_simp⟩) hHeld ?_
      simp only [Act.put, List.getElem_toArray, List.getElem_cons_zero, List.getElem_cons_succ, List.setIfInBounds_toArray, List.set_cons_zero, List.set_cons_succ]
      refine wpAnyH_take (i := 18) (v := .pointer (some ⟨b1, 0, none⟩)) rfl (by kernel_rfl) (by kernel_rfl) (by kernel_rfl) (fun _ _ _ h => h) (Or.inl ⟨by rfl, fun w' hS => by go_simp⟩) hHeld ?_
      simp only [Act.put, List.getElem_toArray, List.getElem_cons_zero, List.getElem_cons_succ, List.setIfInBounds_toArray, List.set_cons_zero, List.set_cons_succ]
      refine wpAnyH_take (i := 19) (v := .pointer (some ⟨b1, s, none⟩)) rfl (by kernel_rfl) (by kernel_rfl) (by kernel_rfl) (fun _ _ _ h => h) (Or.inl ⟨by rfl, fun w' hS => by go_simp⟩) hHeld ?_
      simp only [Act.put, List.getElem_toArray, List.getElem_cons_zero, List.getElem_cons_succ, List.setIfInBounds_toArray, List.set_cons_zero, List.set_cons_succ]
      refine wpAnyH_take (i := 20) (v := .pointer (some ⟨pm, 0, none⟩)) rfl (by kernel_rfl) (by kernel_rfl) (by kernel_rfl) (fun _ _ _ h => h) (Or.inl ⟨by rfl, fun w' hS => by (obtain ⟨s0, s1⟩ := hS; go_simp)⟩) hHeld ?_
      simp only [Act.put, List.getElem_toArray, List.getElem_cons_zero, List.getElem_cons_succ, List.setIfInBounds_toArray, List.set_cons_zero, List.set_cons_succ]
      refine wpAnyH_take (i := 21) (v := .int .i64 (s : Int)) rfl (by kernel_rfl) (by kernel_rfl) (by kernel_rfl) (fun _ _ _ h => h) (Or.inl ⟨by rfl, fun w' hS => by go_simp⟩) hHeld ?_
      simp only [Act.put, List.getElem_toArray, List.getElem_cons_zero, List.getElem_cons_succ, List.setIfInBounds_toArray, List.set_cons_zero, List.set_cons_succ]
      refine wpAnyH_take (i := 22) (v := .int .i64 (1 - (s : Int))) rfl (by kernel_rfl) (by kernel_rfl) (by kernel_rfl) (fun _ _ _ h => h) (Or.inl ⟨by rfl, fun w' hS => by (go_simp <;> exact wrap_id (by omega) (by omega))⟩) hHeld ?_
      simp only [Act.put, List.getElem_toArray, List.getElem_cons_zero, List.getElem_cons_succ, List.setIfInBounds_toArray, List.set_cons_zero, List.set_cons_succ]
      refine wpAnyH_ready (rs := [23]) (by kernel_rfl) (by simp) ?_
      refine AllReadyH.cons rfl (fun K hK => ?_) AllReadyH.nil
      go_simp
      refine (pid_any j1 j2).mono ?_
      rintro e w6 ⟨rfl, rfl⟩
      refine hK.out _ _ ⟨k1, k2⟩ (fun hHeld => ?_)
      clear hK K
      refine wpAnyH_ready (rs := [24]) (by kernel_rfl) (by simp) ?_
      refine AllReadyH.cons rfl (fun K hK => ?_) AllReadyH.nil
      go_simp
      refine (HSn.out).mono ?_
      rintro e w6 ⟨rfl, rfl⟩
      refine hK.out _ _ ⟨k1, k2⟩ (fun hHeld => ?_)
      clear hK K
      refine wpAnyH_take (i := 25) (v := .bool false) rfl (by kernel_rfl) (by kernel_rfl) (by kernel_rfl) (fun _ _ _ h => h) (Or.inl ⟨by rfl, fun w' hS => by go_simp⟩) hHeld ?_
      simp only [Act.put, List.getElem_toArray, List.getElem_cons_zero, List.getElem_cons_succ, List.setIfInBounds_toArray, List.set_cons_zero, List.set_cons_succ]
      refine wpAnyH_take (i := 26) (v := .bool false) rfl (by kernel_rfl) (by kernel_rfl) (by kernel_rfl) (fun _ _ _ h => h) (Or.inl ⟨by rfl, fun w' hS => by go_simp⟩) hHeld ?_
      simp only [Act.put, List.getElem_toArray, List.getElem_cons_zero, List.getElem_cons_succ, List.setIfInBounds_toArray, List.set_cons_zero, List.set_cons_succ]
      refine wpAnyH_take (i := 27) (v := .bool false) rfl (by kernel_rfl) (by kernel_rfl) (by kernel_rfl) (fun _ _ _ h => h) (Or.inl ⟨by rfl, fun w' hS => by go_simp⟩) hHeld ?_
      simp only [Act.put, List.getElem_toArray, List.getElem_cons_zero, List.getElem_cons_succ, List.setIfInBounds_toArray, List.set_cons_zero, List.set_cons_succ]
      refine wpAnyH_take (i := 28) (v := .pointer (some ⟨b1, 0, none⟩)) rfl (by kernel_rfl) (by kernel_rfl) (by kernel_rfl) (fun _ _ _ h => h) (Or.inl ⟨by rfl, fun w' hS => by go_simp⟩) hHeld ?_
      simp only [Act.put, List.getElem_toArray, List.getElem_cons_zero, List.getElem_cons_succ, List.setIfInBounds_toArray, List.set_cons_zero, List.set_cons_succ]
      refine wpAnyH_take (i := 29) (v := .int .i64 (s : Int)) rfl (by kernel_rfl) (by kernel_rfl) (by kernel_rfl) (fun _ _ _ h => h) (Or.inl ⟨by rfl, fun w' hS => by go_simp⟩) hHeld ?_
      simp only [Act.put, List.getElem_toArray, List.getElem_cons_zero, List.getElem_cons_succ, List.setIfInBounds_toArray, List.set_cons_zero, List.set_cons_succ]
      refine wpAnyH_take (i := 30) (v := .pointer (some ⟨b1, 0, none⟩)) rfl (by kernel_rfl) (by kernel_rfl) (by kernel_rfl) (fun _ _ _ h => h) (Or.inl ⟨by rfl, fun w' hS => by go_simp⟩) hHeld ?_
      simp only [Act.put, List.getElem_toArray, List.getElem_cons_zero, List.getElem_cons_succ, List.setIfInBounds_toArray, List.set_cons_zero, List.set_cons_succ]
      refine wpAnyH_take (i := 31) (v := .pointer (some ⟨b1, 0, none⟩)) rfl (by kernel_rfl) (by kernel_rfl) (by kernel_rfl) (fun _ _ _ h => h) (Or.inl ⟨by rfl, fun w' hS => by go_simp⟩) hHeld ?_
      simp only [Act.put, List.getElem_toArray, List.getElem_cons_zero, List.getElem_cons_succ, List.setIfInBounds_toArray, List.set_cons_zero, List.set_cons_succ]
      refine wpAnyH_take (i := 32) (v := .pointer (some ⟨b1, s, none⟩)) rfl (by kernel_rfl) (by kernel_rfl) (by kernel_rfl) (fun _ _ _ h => h) (Or.inl ⟨by rfl, fun w' hS => by go_simp⟩) hHeld ?_
      simp only [Act.put, List.getElem_toArray, List.getElem_cons_zero, List.getElem_cons_succ, List.setIfInBounds_toArray, List.set_cons_zero, List.set_cons_succ]
      refine wpAnyH_take (i := 33) (v := .pointer (some ⟨pm, 0, none⟩)) rfl (by kernel_rfl) (by kernel_rfl) (by kernel_rfl) (fun _ _ _ h => h) (Or.inl ⟨by rfl, fun w' hS => by (obtain ⟨s0, s1⟩ := hS; go_simp)⟩) hHeld ?_
      simp only [Act.put, List.getElem_toArray, List.getElem_cons_zero, List.getElem_cons_succ, List.setIfInBounds_toArray, List.set_cons_zero, List.set_cons_succ]
      refine wpAnyH_take (i := 34) (v := .int .i64 (s : Int)) rfl (by kernel_rfl) (by kernel_rfl) (by kernel_rfl) (fun _ _ _ h => h) (Or.inl ⟨by rfl, fun w' hS => by go_simp⟩) hHeld ?_
      simp only [Act.put, List.getElem_toArray, List.getElem_cons_zero, List.getElem_cons_succ, List.setIfInBounds_toArray, List.set_cons_zero, List.set_cons_succ]
      refine wpAnyH_take (i := 35) (v := .int .i64 (1 - (s : Int))) rfl (by kernel_rfl) (by kernel_rfl) (by kernel_rfl) (fun _ _ _ h => h) (Or.inl ⟨by rfl, fun w' hS => by (go_simp <;> exact wrap_id (by omega) (by omega))⟩) hHeld ?_
      simp only [Act.put, List.getElem_toArray, List.getElem_cons_zero, List.getElem_cons_succ, List.setIfInBounds_toArray, List.set_cons_zero, List.set_cons_succ]
      refine wpAnyH_ready (rs := [36]) (by kernel_rfl) (by simp) ?_
      refine AllReadyH.cons rfl (fun K hK => ?_) AllReadyH.nil
      go_simp
      refine (pid_any j1 j2).mono ?_
      rintro e w6 ⟨rfl, rfl⟩
      refine hK.out _ _ ⟨k1, k2⟩ (fun hHeld => ?_)
      clear hK K
      refine wpAnyH_ready (rs := [37]) (by kernel_rfl) (by simp) ?_
      refine AllReadyH.cons rfl (fun K hK => ?_) AllReadyH.nil
      go_simp
      refine (HGt.out).mono ?_
      rintro e w6 ⟨rfl, rfl⟩
      refine hK.out _ _ ⟨k1, k2⟩ (fun hHeld => ?_)
      clear hK K
      refine wpAnyH_take (i := 38) (v := .bool false) rfl (by kernel_rfl) (by kernel_rfl) (by kernel_rfl) (fun _ _ _ h => h) (Or.inl ⟨by rfl, fun w' hS => by go_simp⟩) hHeld ?_
      simp only [Act.put, List.getElem_toArray, List.getElem_cons_zero, List.getElem_cons_succ, List.setIfInBounds_toArray, List.set_cons_zero, List.set_cons_succ]
      refine wpAnyH_take (i := 39) (v := .bool false) rfl (by kernel_rfl) (by kernel_rfl) (by kernel_rfl) (fun _ _ _ h => h) (Or.inl ⟨by rfl, fun w' hS => by go_simp⟩) hHeld ?_
      simp only [Act.put, List.getElem_toArray, List.getElem_cons_zero, List.getElem_cons_succ, List.setIfInBounds_toArray, List.set_cons_zero, List.set_cons_succ]
      refine wpAnyH_take (i := 40) (v := .bool false) rfl (by kernel_rfl) (by kernel_rfl) (by kernel_rfl) (fun _ _ _ h => h) (Or.inl ⟨by rfl, fun w' hS => by go_simp⟩) hHeld ?_
      simp only [Act.put, List.getElem_toArray, List.getElem_cons_zero, List.getElem_cons_succ, List.setIfInBounds_toArray, List.set_cons_zero, List.set_cons_succ]
      refine wpAnyH_take (i := 41) (v := .pointer (some ⟨b1, 0, none⟩)) rfl (by kernel_rfl) (by kernel_rfl) (by kernel_rfl) (fun _ _ _ h => h) (Or.inl ⟨by rfl, fun w' hS => by go_simp⟩) hHeld ?_
      simp only [Act.put, List.getElem_toArray, List.getElem_cons_zero, List.getElem_cons_succ, List.setIfInBounds_toArray, List.set_cons_zero, List.set_cons_succ]
      refine wpAnyH_take (i := 42) (v := .int .i64 (s : Int)) rfl (by kernel_rfl) (by kernel_rfl) (by kernel_rfl) (fun _ _ _ h => h) (Or.inl ⟨by rfl, fun w' hS => by go_simp⟩) hHeld ?_
      simp only [Act.put, List.getElem_toArray, List.getElem_cons_zero, List.getElem_cons_succ, List.setIfInBounds_toArray, List.set_cons_zero, List.set_cons_succ]
      refine wpAnyH_take (i := 43) (v := .pointer (some ⟨b1, 0, none⟩)) rfl (by kernel_rfl) (by kernel_rfl) (by kernel_rfl) (fun _ _ _ h => h) (Or.inl ⟨by rfl, fun w' hS => by go_simp⟩) hHeld ?_
      simp only [Act.put, List.getElem_toArray, List.getElem_cons_zero, List.getElem_cons_succ, List.setIfInBounds_toArray, List.set_cons_zero, List.set_cons_succ]
      refine wpAnyH_take (i := 44) (v := .pointer (some ⟨b1, 0, none⟩)) rfl (by kernel_rfl) (by kernel_rfl) (by kernel_rfl) (fun _ _ _ h => h) (Or.inl ⟨by rfl, fun w' hS => by go_simp⟩) hHeld ?_
      simp only [Act.put, List.getElem_toArray, List.getElem_cons_zero, List.getElem_cons_succ, List.setIfInBounds_toArray, List.set_cons_zero, List.set_cons_succ]
      refine wpAnyH_take (i := 45) (v := .pointer (some ⟨b1, s, none⟩)) rfl (by kernel_rfl) (by kernel_rfl) (by kernel_rfl) (fun _ _ _ h => h) (Or.inl ⟨by rfl, fun w' hS => by go_simp⟩) hHeld ?_
      simp only [Act.put, List.getElem_toArray, List.getElem_cons_zero, List.getElem_cons_succ, List.setIfInBounds_toArray, List.set_cons_zero, List.set_cons_succ]
      refine wpAnyH_take (i := 46) (v := .pointer (some ⟨pm, 0, none⟩)) rfl (by kernel_rfl) (by kernel_rfl) (by kernel_rfl) (fun _ _ _ h => h) (Or.inl ⟨by rfl, fun w' hS => by (obtain ⟨s0, s1⟩ := hS; go_simp)⟩) hHeld ?_
      simp only [Act.put, List.getElem_toArray, List.getElem_cons_zero, List.getElem_cons_succ, List.setIfInBounds_toArray, List.set_cons_zero, List.set_cons_succ]
      refine wpAnyH_take (i := 47) (v := .int .i64 (s : Int)) rfl (by kernel_rfl) (by kernel_rfl) (by kernel_rfl) (fun _ _ _ h => h) (Or.inl ⟨by rfl, fun w' hS => by go_simp⟩) hHeld ?_
      simp only [Act.put, List.getElem_toArray, List.getElem_cons_zero, List.getElem_cons_succ, List.setIfInBounds_toArray, List.set_cons_zero, List.set_cons_succ]
      refine wpAnyH_take (i := 48) (v := .int .i64 (1 - (s : Int))) rfl (by kernel_rfl) (by kernel_rfl) (by kernel_rfl) (fun _ _ _ h => h) (Or.inl ⟨by rfl, fun w' hS => by (go_simp <;> exact wrap_id (by omega) (by omega))⟩) hHeld ?_
      simp only [Act.put, List.getElem_toArray, List.getElem_cons_zero, List.getElem_cons_succ, List.setIfInBounds_toArray, List.set_cons_zero, List.set_cons_succ]
      refine wpAnyH_take (i := 51) (v := .pointer (some ⟨b1, 0, none⟩)) rfl (by kernel_rfl) (by kernel_rfl) (by kernel_rfl) (fun _ _ _ h => h) (Or.inl ⟨by rfl, fun w' hS => by go_simp⟩) hHeld ?_
      simp only [Act.put, List.getElem_toArray, List.getElem_cons_zero, List.getElem_cons_succ, List.setIfInBounds_toArray, List.set_cons_zero, List.set_cons_succ]
      refine wpAnyH_take (i := 52) (v := .pointer (some ⟨b1, 0, none⟩)) rfl (by kernel_rfl) (by kernel_rfl) (by kernel_rfl) (fun _ _ _ h => h) (Or.inl ⟨by rfl, fun w' hS => by go_simp⟩) hHeld ?_
      simp only [Act.put, List.getElem_toArray, List.getElem_cons_zero, List.getElem_cons_succ, List.setIfInBounds_toArray, List.set_cons_zero, List.set_cons_succ]
      refine wpAnyH_take (i := 53) (v := .pointer (some ⟨b1, 3, none⟩)) rfl (by kernel_rfl) (by kernel_rfl) (by kernel_rfl) (fun _ _ _ h => h) (Or.inl ⟨by rfl, fun w' hS => by go_simp⟩) hHeld ?_
      simp only [Act.put, List.getElem_toArray, List.getElem_cons_zero, List.getElem_cons_succ, List.setIfInBounds_toArray, List.set_cons_zero, List.set_cons_succ]
      refine wpAnyH_take (i := 54) (v := .int .i64 (space : Int)) rfl (by kernel_rfl) (by kernel_rfl) (by kernel_rfl) (fun _ _ _ h => h) (Or.inl ⟨by rfl, fun w' hS => by (obtain ⟨s0, s1⟩ := hS; go_simp)⟩) hHeld ?_
      simp only [Act.put, List.getElem_toArray, List.getElem_cons_zero, List.getElem_cons_succ, List.setIfInBounds_toArray, List.set_cons_zero, List.set_cons_succ]
      refine wpAnyH_ready (rs := [49]) (by kernel_rfl) (by simp) ?_
      refine AllReadyH.cons rfl (fun K hK => ?_) AllReadyH.nil
      go_simp
      refine (pid_any j1 j2).mono ?_
      rintro e w6 ⟨rfl, rfl⟩
      refine hK.out _ _ ⟨k1, k2⟩ (fun hHeld => ?_)
      clear hK K
      refine wpAnyH_ready (rs := [50]) (by kernel_rfl) (by simp) ?_
      refine AllReadyH.cons rfl (fun K hK => ?_) AllReadyH.nil
      go_simp
      refine (HRm.out).mono ?_
      rintro e w7 ⟨rfl, hb7⟩
      refine hK.out _ _ ⟨below_at hb7 k1, below_at hb7 k2⟩ (fun hHeld => ?_)
      clear hK K
      refine wpAnyH_take (i := 55) (v := .bool false) rfl (by kernel_rfl) (by kernel_rfl) (by kernel_rfl) (fun _ _ _ h => h) (Or.inl ⟨by rfl, fun w' hS => by go_simp⟩) hHeld ?_
      simp only [Act.put, List.getElem_toArray, List.getElem_cons_zero, List.getElem_cons_succ, List.setIfInBounds_toArray, List.set_cons_zero, List.set_cons_succ]
      refine wpAnyH_take (i := 56) (v := .bool false) rfl (by kernel_rfl) (by kernel_rfl) (by kernel_rfl) (fun _ _ _ h => h) (Or.inl ⟨by rfl, fun w' hS => by go_simp⟩) hHeld ?_
      simp only [Act.put, List.getElem_toArray, List.getElem_cons_zero, List.getElem_cons_succ, List.setIfInBounds_toArray, List.set_cons_zero, List.set_cons_succ]
      refine wpAnyH_done (by kernel_rfl) ?_ _
      clear hHeld
      have HX0 : Hid (X.Ok w7 W0.heap.size) := HX.out.ok.still hb7
      have HX7 : Hid (FrT W0 w7 b1 win space (s + 1) X) := HX.out.still hb7
      have cm := below_at hb7 k1
      clear HRs HX HSn HGt HRm k1 k2 qm qs hb2 hb7 hbD2 cs
      obtain ⟨x0, hx0⟩ : ∃ x : Int, x = 0 := ⟨_, rfl⟩
      obtain ⟨x1, hx1⟩ : ∃ x : Int, x = 0 := ⟨_, rfl⟩
      obtain ⟨x2, hx2⟩ : ∃ x : Int, x = 0 := ⟨_, rfl⟩
      obtain ⟨x3, hx3⟩ : ∃ x : Int, x = 0 := ⟨_, rfl⟩
      obtain ⟨x4, hx4⟩ : ∃ x : Int, x = 0 := ⟨_, rfl⟩
      obtain ⟨bb, hbb⟩ : ∃ b, b = false := ⟨_, rfl⟩
      obtain ⟨X1, hX1⟩ : ∃ Y, Y = X := ⟨_, rfl⟩
      have HO : Hid (∀ D0 D', Below D0.heap.size D0 D' → X.Ok D0 W0.heap.size → Calls Try.prog 24 #[.pointer (some ⟨pm, 0, none⟩), .int .i64 (2 + 3 * (1 - (s : Int)))] D' fun e w' => e = .returned (.tuple #[.agg #[.int .i64 x0, .int .i64 x1, .int .i64 x2, .int .i64 x3, .int .i64 x4], .bool bb]) ∧ Xstep D' w' X X1 W0.heap.size) := fun D0 D' hb h0 => by
        have h1 := h0.still hb
        have := owed_none (h1.mo s hs) (qat h1 hs) HF.out.2.2.2.1
        rw [HXb.out] at this
        refine this.mono ?_
        rintro e w' ⟨rfl, hb2⟩
        rw [hx0, hx1, hx2, hx3, hx4, hbb, hX1]
        exact ⟨rfl, Xstep.below h1 hb2⟩
      have HCM : Hid (∀ w3 : World, X1.Ok w3 W0.heap.size → X1.b = X.b → w3.cell? ⟨b1, s, none⟩ = some (.pointer (some ⟨pm, 0, none⟩))) := fun w3 h3 _ => by rw [hX1] at h3; have := h3.cm hs; rw [HX7.out.b, HXb.out] at this; exact this
      have HE : Hid (bb = false ∧ X1 = X) := (show _ ∧ _ from ⟨hbb, hX1⟩)
      have HFm : Hid (∀ wc, X.Ok wc W0.heap.size → ∀ D, Below wc.heap.size wc D → Calls Try.prog 25 #[.pointer (some ⟨pm, 0, none⟩), .int .i64 (2 + 3 * (1 - (s : Int)))] D fun e w' => FoO D w' e) := fun wc h0 D hb => (show Calls _ _ _ _ _ from by
        have h1 := h0.still hb
        have := frames_yes (h1.mo s hs) (qat h1 hs)
        rw [HXb.out] at this
        refine this.mono fun e w' hfo => ?_
        obtain ⟨fb, n, bl, ks, he, hbl, hn, _, hfs⟩ := hfo.out
        rw [takeN_none _ HF.out.2.2.2.2] at hbl
        rw [hbl] at hn
        obtain rfl : n = 0 := hn.symm
        exact ⟨fb, he, hfs.bel⟩)
      clear hx0 hx1 hx2 hx3 hx4 hbb hX1
      go_upto_region 10 with (fail)
      go_cut [6, 7] (fun va vb wx => ∃ kd : Nat, va = .pointer (some ⟨kd, 0, none⟩) ∧ vb = .bool bb ∧ Hid (wx.heap[kd]? = some (.cells [.int .i64 x0, .int .i64 x1, .int .i64 x2, .int .i64 x3, .int .i64 x4].toArray 57 (0, 0))) ∧ Hid (Xstep w7 wx X X1 W0.heap.size) ∧ Hid (¬ X1.own kd))
      case first =>
        go_wp2_with (fail)
        refine wp_region_held_drew (S := (fun w' => w'.cell? ⟨b1, s, none⟩ = some (.pointer (some ⟨pm, 0, none⟩)))) (by kernel_rfl) (below_at (drew_bel _) cm) (fun hHeld => ?_)
        simp only [Act.put, List.size_toArray, List.length_cons, List.length_nil, Nat.zero_add]
        refine wpAnyH_take (i := 0) (v := .pointer (some ⟨b1, 0, none⟩)) rfl (by kernel_rfl) (by kernel_rfl) (by kernel_rfl) (fun _ _ _ h => h) (Or.inl ⟨by rfl, fun w' hS => by go_simp⟩) hHeld ?_
        simp only [Act.put, List.getElem_toArray, List.getElem_cons_zero, List.getElem_cons_succ, List.setIfInBounds_toArray, List.set_cons_zero, List.set_cons_succ]
        refine wpAnyH_take (i := 1) (v := .int .i64 (s : Int)) rfl (by kernel_rfl) (by kernel_rfl) (by kernel_rfl) (fun _ _ _ h => h) (Or.inl ⟨by rfl, fun w' hS => by go_simp⟩) hHeld ?_
        simp only [Act.put, List.getElem_toArray, List.getElem_cons_zero, List.getElem_cons_succ, List.setIfInBounds_toArray, List.set_cons_zero, List.set_cons_succ]
        refine wpAnyH_take (i := 2) (v := .pointer (some ⟨b1, 0, none⟩)) rfl (by kernel_rfl) (by kernel_rfl) (by kernel_rfl) (fun _ _ _ h => h) (Or.inl ⟨by rfl, fun w' hS => by go_simp⟩) hHeld ?_
        simp only [Act.put, List.getElem_toArray, List.getElem_cons_zero, List.getElem_cons_succ, List.setIfInBounds_toArray, List.set_cons_zero, List.set_cons_succ]
        refine wpAnyH_take (i := 3) (v := .pointer (some ⟨b1, 0, none⟩)) rfl (by kernel_rfl) (by kernel_rfl) (by kernel_rfl) (fun _ _ _ h => h) (Or.inl ⟨by rfl, fun w' hS => by go_simp⟩) hHeld ?_
        simp only [Act.put, List.getElem_toArray, List.getElem_cons_zero, List.getElem_cons_succ, List.setIfInBounds_toArray, List.set_cons_zero, List.set_cons_succ]
        refine wpAnyH_take (i := 4) (v := .pointer (some ⟨b1, s, none⟩)) rfl (by kernel_rfl) (by kernel_rfl) (by kernel_rfl) (fun _ _ _ h => h) (Or.inl ⟨by rfl, fun w' hS => by go_simp⟩) hHeld ?_
        simp only [Act.put, List.getElem_toArray, List.getElem_cons_zero, List.getElem_cons_succ, List.setIfInBounds_toArray, List.set_cons_zero, List.set_cons_succ]
        refine wpAnyH_take (i := 5) (v := .pointer (some ⟨pm, 0, none⟩)) rfl (by kernel_rfl) (by kernel_rfl) (by kernel_rfl) (fun _ _ _ h => h) (Or.inl ⟨by rfl, fun w' hS => by (have s0 := hS; go_simp)⟩) hHeld ?_
        simp only [Act.put, List.getElem_toArray, List.getElem_cons_zero, List.getElem_cons_succ, List.setIfInBounds_toArray, List.set_cons_zero, List.set_cons_succ]
        refine wpAnyH_take (i := 6) (v := .int .i64 (s : Int)) rfl (by kernel_rfl) (by kernel_rfl) (by kernel_rfl) (fun _ _ _ h => h) (Or.inl ⟨by rfl, fun w' hS => by go_simp⟩) hHeld ?_
        simp only [Act.put, List.getElem_toArray, List.getElem_cons_zero, List.getElem_cons_succ, List.setIfInBounds_toArray, List.set_cons_zero, List.set_cons_succ]
        refine wpAnyH_take (i := 7) (v := .int .i64 (1 - (s : Int))) rfl (by kernel_rfl) (by kernel_rfl) (by kernel_rfl) (fun _ _ _ h => h) (Or.inl ⟨by rfl, fun w' hS => by (go_simp <;> exact wrap_id (by omega) (by omega))⟩) hHeld ?_
        simp only [Act.put, List.getElem_toArray, List.getElem_cons_zero, List.getElem_cons_succ, List.setIfInBounds_toArray, List.set_cons_zero, List.set_cons_succ]
        have hbD : Below w7.heap.size w7 w7.drew := drew_bel _
        have hXD := HX0.out.still hbD
        have qm := below_at hbD cm
        clear cm
        generalize w7.drew = D0 at *
        refine wpAnyH_ready (rs := [8, 13]) (by kernel_rfl) (by simp) ?_
        refine AllReadyH.cons rfl (fun K hK => ?_) (AllReadyH.cons rfl (fun K hK => ?_) AllReadyH.nil)
        · go_simp
          refine (pid_any j1 j2).mono ?_
          rintro e w2 ⟨rfl, rfl⟩
          refine hK.out _ _ qm (fun hHeld => ?_)
          clear hK K
          refine wpAnyH_ready (rs := [9, 13]) (by kernel_rfl) (by simp) ?_
          refine AllReadyH.cons rfl (fun K hK => ?_) (AllReadyH.cons rfl (fun K hK => ?_) AllReadyH.nil)
          · go_simp
            refine (HO.out D0 _ (Below.refl _ _) hXD).mono ?_
            rintro e w3 ⟨rfl, hst⟩
            have qm3 : w3.cell? ⟨b1, s, none⟩ = some (.pointer (some ⟨pm, 0, none⟩)) := HCM.out _ hst.ok hst.b
            refine hK.out _ _ qm3 (fun hHeld => ?_)
            clear hK K
            refine wpAnyH_take (i := 10) (v := .tuple #[.agg #[.int .i64 x0, .int .i64 x1, .int .i64 x2, .int .i64 x3, .int .i64 x4], .bool bb]) rfl (by kernel_rfl) (by kernel_rfl) (by kernel_rfl) (fun _ _ _ h => h) (Or.inl ⟨by rfl, fun w' hS => by go_simp⟩) hHeld ?_
            simp only [Act.put, List.getElem_toArray, List.getElem_cons_zero, List.getElem_cons_succ, List.setIfInBounds_toArray, List.set_cons_zero, List.set_cons_succ]
            refine wpAnyH_take (i := 11) (v := .agg #[.int .i64 x0, .int .i64 x1, .int .i64 x2, .int .i64 x3, .int .i64 x4]) rfl (by kernel_rfl) (by kernel_rfl) (by kernel_rfl) (fun _ _ _ h => h) (Or.inl ⟨by rfl, fun w' hS => by go_simp⟩) hHeld ?_
            simp only [Act.put, List.getElem_toArray, List.getElem_cons_zero, List.getElem_cons_succ, List.setIfInBounds_toArray, List.set_cons_zero, List.set_cons_succ]
            refine wpAnyH_take (i := 12) (v := .bool bb) rfl (by kernel_rfl) (by kernel_rfl) (by kernel_rfl) (fun _ _ _ h => h) (Or.inl ⟨by rfl, fun w' hS => by go_simp⟩) hHeld ?_
            simp only [Act.put, List.getElem_toArray, List.getElem_cons_zero, List.getElem_cons_succ, List.setIfInBounds_toArray, List.set_cons_zero, List.set_cons_succ]
            refine wpAnyH_ready (rs := [13]) (by kernel_rfl) (by simp) ?_
            refine AllReadyH.cons rfl (fun K hK => ?_) AllReadyH.nil
            go_simp
            refine hK.out _ _ (below_at (balloc (Below.refl _ _)) qm3) (fun hHeld => ?_)
            clear hK K
            obtain ⟨va1, va2⟩ := var_after (w3 := w3) [.int .i64 x0, .int .i64 x1, .int .i64 x2, .int .i64 x3, .int .i64 x4] rfl
            have hth : (w3.alloc (.cells #[.int .i64 0, .int .i64 0, .int .i64 0, .int .i64 0, .int .i64 0] 57)).there w3.heap.size 0 5 := new_there w3 57 _ rfl
            refine wpAnyH_ready (rs := [14]) (by kernel_rfl) (by simp) ?_
            refine AllReadyH.cons rfl (fun K hK => ?_) AllReadyH.nil
            refine step_storeL rfl 57 (.tmp 6) (.tmp 105) rfl (L := [.int .i64 x0, .int .i64 x1, .int .i64 x2, .int .i64 x3, .int .i64 x4]) rfl rfl hth info_ack (ones5 _ _ _ _ _) ?_
            refine hK.out _ _ (HCM.out _ ((hst.post va1).ok) (hst.b)) (fun hHeld => ?_)
            clear hK K
            simp only [Act.put, List.getElem_toArray, List.getElem_cons_zero, List.getElem_cons_succ, List.setIfInBounds_toArray, List.set_cons_zero, List.set_cons_succ]
            refine wpAnyH_take (i := 15) (v := .bool bb) rfl (by kernel_rfl) (by kernel_rfl) (by kernel_rfl) (fun _ _ _ h => h) (Or.inl ⟨by rfl, fun w' hS => by go_simp⟩) hHeld ?_
            simp only [Act.put, List.getElem_toArray, List.getElem_cons_zero, List.getElem_cons_succ, List.setIfInBounds_toArray, List.set_cons_zero, List.set_cons_succ]
            refine wpAnyH_done (by kernel_rfl) ?_ _
            clear hHeld
            go_wp2
            go_meet
            exact ⟨w3.heap.size, rfl, rfl, va2, (Xstep.below HX0.out hbD).trans (hst.post va1), (fun e => by have := hst.ok.lt e; omega)⟩
          · go_simp
            refine hK.out _ _ (below_at (balloc (Below.refl _ _)) qm) (fun hHeld => ?_)
            clear hK K
            refine wpAnyH_ready (rs := [9]) (by kernel_rfl) (by simp) ?_
            refine AllReadyH.cons rfl (fun K hK => ?_) AllReadyH.nil
            go_simp
            refine (HO.out D0 _ (balloc (Below.refl _ _)) hXD).mono ?_
            rintro e w3 ⟨rfl, hst⟩
            have qm3 : w3.cell? ⟨b1, s, none⟩ = some (.pointer (some ⟨pm, 0, none⟩)) := HCM.out _ hst.ok hst.b
            refine hK.out _ _ qm3 (fun hHeld => ?_)
            clear hK K
            obtain ⟨va1, va2, hth, hno⟩ := var_before [.int .i64 x0, .int .i64 x1, .int .i64 x2, .int .i64 x3, .int .i64 x4] rfl hXD hst
            refine wpAnyH_take (i := 10) (v := .tuple #[.agg #[.int .i64 x0, .int .i64 x1, .int .i64 x2, .int .i64 x3, .int .i64 x4], .bool bb]) rfl (by kernel_rfl) (by kernel_rfl) (by kernel_rfl) (fun _ _ _ h => h) (Or.inl ⟨by rfl, fun w' hS => by go_simp⟩) hHeld ?_
            simp only [Act.put, List.getElem_toArray, List.getElem_cons_zero, List.getElem_cons_succ, List.setIfInBounds_toArray, List.set_cons_zero, List.set_cons_succ]
            refine wpAnyH_take (i := 11) (v := .agg #[.int .i64 x0, .int .i64 x1, .int .i64 x2, .int .i64 x3, .int .i64 x4]) rfl (by kernel_rfl) (by kernel_rfl) (by kernel_rfl) (fun _ _ _ h => h) (Or.inl ⟨by rfl, fun w' hS => by go_simp⟩) hHeld ?_
            simp only [Act.put, List.getElem_toArray, List.getElem_cons_zero, List.getElem_cons_succ, List.setIfInBounds_toArray, List.set_cons_zero, List.set_cons_succ]
            refine wpAnyH_take (i := 12) (v := .bool bb) rfl (by kernel_rfl) (by kernel_rfl) (by kernel_rfl) (fun _ _ _ h => h) (Or.inl ⟨by rfl, fun w' hS => by go_simp⟩) hHeld ?_
            simp only [Act.put, List.getElem_toArray, List.getElem_cons_zero, List.getElem_cons_succ, List.setIfInBounds_toArray, List.set_cons_zero, List.set_cons_succ]
            refine wpAnyH_ready (rs := [14]) (by kernel_rfl) (by simp) ?_
            refine AllReadyH.cons rfl (fun K hK => ?_) AllReadyH.nil
            refine step_storeL rfl 57 (.tmp 6) (.tmp 105) rfl (L := [.int .i64 x0, .int .i64 x1, .int .i64 x2, .int .i64 x3, .int .i64 x4]) rfl rfl hth info_ack (ones5 _ _ _ _ _) ?_
            refine hK.out _ _ (HCM.out _ (va1.ok) (va1.b)) (fun hHeld => ?_)
            clear hK K
            simp only [Act.put, List.getElem_toArray, List.getElem_cons_zero, List.getElem_cons_succ, List.setIfInBounds_toArray, List.set_cons_zero, List.set_cons_succ]
            refine wpAnyH_take (i := 15) (v := .bool bb) rfl (by kernel_rfl) (by kernel_rfl) (by kernel_rfl) (fun _ _ _ h => h) (Or.inl ⟨by rfl, fun w' hS => by go_simp⟩) hHeld ?_
            simp only [Act.put, List.getElem_toArray, List.getElem_cons_zero, List.getElem_cons_succ, List.setIfInBounds_toArray, List.set_cons_zero, List.set_cons_succ]
            refine wpAnyH_done (by kernel_rfl) ?_ _
            clear hHeld
            go_wp2
            go_meet
            exact ⟨D0.heap.size, rfl, rfl, va2, (Xstep.below HX0.out hbD).trans va1, hno⟩
        · go_simp
          refine hK.out _ _ (below_at (balloc (Below.refl _ _)) qm) (fun hHeld => ?_)
          clear hK K
          refine wpAnyH_ready (rs := [8]) (by kernel_rfl) (by simp) ?_
          refine AllReadyH.cons rfl (fun K hK => ?_) AllReadyH.nil
          go_simp
          refine (pid_any j1 j2).mono ?_
          rintro e w2 ⟨rfl, rfl⟩
          refine hK.out _ _ (below_at (balloc (Below.refl _ _)) qm) (fun hHeld => ?_)
          clear hK K
          refine wpAnyH_ready (rs := [9]) (by kernel_rfl) (by simp) ?_
          refine AllReadyH.cons rfl (fun K hK => ?_) AllReadyH.nil
          go_simp
          refine (HO.out D0 _ (balloc (Below.refl _ _)) hXD).mono ?_
          rintro e w3 ⟨rfl, hst⟩
          have qm3 : w3.cell? ⟨b1, s, none⟩ = some (.pointer (some ⟨pm, 0, none⟩)) := HCM.out _ hst.ok hst.b
          refine hK.out _ _ qm3 (fun hHeld => ?_)
          clear hK K
          obtain ⟨va1, va2, hth, hno⟩ := var_before [.int .i64 x0, .int .i64 x1, .int .i64 x2, .int .i64 x3, .int .i64 x4] rfl hXD hst
          refine wpAnyH_take (i := 10) (v := .tuple #[.agg #[.int .i64 x0, .int .i64 x1, .int .i64 x2, .int .i64 x3, .int .i64 x4], .bool bb]) rfl (by kernel_rfl) (by kernel_rfl) (by kernel_rfl) (fun _ _ _ h => h) (Or.inl ⟨by rfl, fun w' hS => by go_simp⟩) hHeld ?_
          simp only [Act.put, List.getElem_toArray, List.getElem_cons_zero, List.getElem_cons_succ, List.setIfInBounds_toArray, List.set_cons_zero, List.set_cons_succ]
          refine wpAnyH_take (i := 11) (v := .agg #[.int .i64 x0, .int .i64 x1, .int .i64 x2, .int .i64 x3, .int .i64 x4]) rfl (by kernel_rfl) (by kernel_rfl) (by kernel_rfl) (fun _ _ _ h => h) (Or.inl ⟨by rfl, fun w' hS => by go_simp⟩) hHeld ?_
          simp only [Act.put, List.getElem_toArray, List.getElem_cons_zero, List.getElem_cons_succ, List.setIfInBounds_toArray, List.set_cons_zero, List.set_cons_succ]
          refine wpAnyH_take (i := 12) (v := .bool bb) rfl (by kernel_rfl) (by kernel_rfl) (by kernel_rfl) (fun _ _ _ h => h) (Or.inl ⟨by rfl, fun w' hS => by go_simp⟩) hHeld ?_
          simp only [Act.put, List.getElem_toArray, List.getElem_cons_zero, List.getElem_cons_succ, List.setIfInBounds_toArray, List.set_cons_zero, List.set_cons_succ]
          refine wpAnyH_ready (rs := [14]) (by kernel_rfl) (by simp) ?_
          refine AllReadyH.cons rfl (fun K hK => ?_) AllReadyH.nil
          refine step_storeL rfl 57 (.tmp 6) (.tmp 105) rfl (L := [.int .i64 x0, .int .i64 x1, .int .i64 x2, .int .i64 x3, .int .i64 x4]) rfl rfl hth info_ack (ones5 _ _ _ _ _) ?_
          refine hK.out _ _ (HCM.out _ (va1.ok) (va1.b)) (fun hHeld => ?_)
          clear hK K
          simp only [Act.put, List.getElem_toArray, List.getElem_cons_zero, List.getElem_cons_succ, List.setIfInBounds_toArray, List.set_cons_zero, List.set_cons_succ]
          refine wpAnyH_take (i := 15) (v := .bool bb) rfl (by kernel_rfl) (by kernel_rfl) (by kernel_rfl) (fun _ _ _ h => h) (Or.inl ⟨by rfl, fun w' hS => by go_simp⟩) hHeld ?_
          simp only [Act.put, List.getElem_toArray, List.getElem_cons_zero, List.getElem_cons_succ, List.setIfInBounds_toArray, List.set_cons_zero, List.set_cons_succ]
          refine wpAnyH_done (by kernel_rfl) ?_ _
          clear hHeld
          go_wp2
          go_meet
          exact ⟨D0.heap.size, rfl, rfl, va2, (Xstep.below HX0.out hbD).trans va1, hno⟩
      case rest =>
      obtain ⟨kd, rfl, rfl, Hblk, Hst, Hno⟩ := hcut
      obtain ⟨rfl, hX1⟩ := HE.out
      rw [hX1] at Hst
      have HXc : Hid (FrT W0 wc b1 win space (s + 1) X) := (show FrT _ _ _ _ _ _ _ from ⟨Hst.out.ok, HX7.out.bel.trans (Hst.out.kept.below HX7.out.bel.size (fun j hj e => by have := HX7.out.ok.loj e; omega)), HX7.out.b, HX7.out.em, HX7.out.ws, HX7.out.nil⟩)
      have cmc : wc.cell? ⟨b1, s, none⟩ = some (.pointer (some ⟨pm, 0, none⟩)) := by have := HXc.out.ok.cm hs; rw [HXc.out.b, HXb.out] at this; exact this
      have HFm : Hid (∀ D, Below wc.heap.size wc D → Calls Try.prog 25 #[.pointer (some ⟨pm, 0, none⟩), .int .i64 (2 + 3 * (1 - (s : Int)))] D fun e w' => FoO D w' e) := fun D hb => HFm.out wc HXc.out.ok D hb
      clear HE hX1 HO HCM Hblk Hst Hno HX7 HX0 cm
      go_wp2
      refine wp_region_held_drew (S := (fun w' => w'.cell? ⟨b1, s, none⟩ = some (.pointer (some ⟨pm, 0, none⟩)))) (by kernel_rfl) (below_at (drew_bel _) cmc) (fun hHeld => ?_)
      simp only [Act.put, List.size_toArray, List.length_cons, List.length_nil, Nat.zero_add]
      refine wpAnyH_take (i := 0) (v := .bool false) rfl (by kernel_rfl) (by kernel_rfl) (by kernel_rfl) (fun _ _ _ h => h) (Or.inl ⟨by rfl, fun w' hS => by go_simp⟩) hHeld ?_
      simp only [Act.put, List.getElem_toArray, List.getElem_cons_zero, List.getElem_cons_succ, List.setIfInBounds_toArray, List.set_cons_zero, List.set_cons_succ]
      refine wpAnyH_take (i := 1) (v := .bool false) rfl (by kernel_rfl) (by kernel_rfl) (by kernel_rfl) (fun _ _ _ h => h) (Or.inl ⟨by rfl, fun w' hS => by go_simp⟩) hHeld ?_
      simp only [Act.put, List.getElem_toArray, List.getElem_cons_zero, List.getElem_cons_succ, List.setIfInBounds_toArray, List.set_cons_zero, List.set_cons_succ]
      refine wpAnyH_take (i := 2) (v := .pointer (some ⟨b1, 0, none⟩)) rfl (by kernel_rfl) (by kernel_rfl) (by kernel_rfl) (fun _ _ _ h => h) (Or.inl ⟨by rfl, fun w' hS => by go_simp⟩) hHeld ?_
      simp only [Act.put, List.getElem_toArray, List.getElem_cons_zero, List.getElem_cons_succ, List.setIfInBounds_toArray, List.set_cons_zero, List.set_cons_succ]
      refine wpAnyH_take (i := 3) (v := .int .i64 (s : Int)) rfl (by kernel_rfl) (by kernel_rfl) (by kernel_rfl) (fun _ _ _ h => h) (Or.inl ⟨by rfl, fun w' hS => by go_simp⟩) hHeld ?_
      simp only [Act.put, List.getElem_toArray, List.getElem_cons_zero, List.getElem_cons_succ, List.setIfInBounds_toArray, List.set_cons_zero, List.set_cons_succ]
      refine wpAnyH_take (i := 4) (v := .pointer (some ⟨b1, 0, none⟩)) rfl (by kernel_rfl) (by kernel_rfl) (by kernel_rfl) (fun _ _ _ h => h) (Or.inl ⟨by rfl, fun w' hS => by go_simp⟩) hHeld ?_
      simp only [Act.put, List.getElem_toArray, List.getElem_cons_zero, List.getElem_cons_succ, List.setIfInBounds_toArray, List.set_cons_zero, List.set_cons_succ]
      refine wpAnyH_take (i := 5) (v := .pointer (some ⟨b1, 0, none⟩)) rfl (by kernel_rfl) (by kernel_rfl) (by kernel_rfl) (fun _ _ _ h => h) (Or.inl ⟨by rfl, fun w' hS => by go_simp⟩) hHeld ?_
      simp only [Act.put, List.getElem_toArray, List.getElem_cons_zero, List.getElem_cons_succ, List.setIfInBounds_toArray, List.set_cons_zero, List.set_cons_succ]
      refine wpAnyH_take (i := 6) (v := .pointer (some ⟨b1, s, none⟩)) rfl (by kernel_rfl) (by kernel_rfl) (by kernel_rfl) (fun _ _ _ h => h) (Or.inl ⟨by rfl, fun w' hS => by go_simp⟩) hHeld ?_
      simp only [Act.put, List.getElem_toArray, List.getElem_cons_zero, List.getElem_cons_succ, List.setIfInBounds_toArray, List.set_cons_zero, List.set_cons_succ]
      refine wpAnyH_take (i := 7) (v := .pointer (some ⟨pm, 0, none⟩)) rfl (by kernel_rfl) (by kernel_rfl) (by kernel_rfl) (fun _ _ _ h => h) (Or.inl ⟨by rfl, fun w' hS => by (have s0 := hS; go_simp)⟩) hHeld ?_
      simp only [Act.put, List.getElem_toArray, List.getElem_cons_zero, List.getElem_cons_succ, List.setIfInBounds_toArray, List.set_cons_zero, List.set_cons_succ]
      refine wpAnyH_take (i := 8) (v := .int .i64 (s : Int)) rfl (by kernel_rfl) (by kernel_rfl) (by kernel_rfl) (fun _ _ _ h => h) (Or.inl ⟨by rfl, fun w' hS => by go_simp⟩) hHeld ?_
      simp only [Act.put, List.getElem_toArray, List.getElem_cons_zero, List.getElem_cons_succ, List.setIfInBounds_toArray, List.set_cons_zero, List.set_cons_succ]
      refine wpAnyH_take (i := 9) (v := .int .i64 (1 - (s : Int))) rfl (by kernel_rfl) (by kernel_rfl) (by kernel_rfl) (fun _ _ _ h => h) (Or.inl ⟨by rfl, fun w' hS => by (go_simp <;> exact wrap_id (by omega) (by omega))⟩) hHeld ?_
      simp only [Act.put, List.getElem_toArray, List.getElem_cons_zero, List.getElem_cons_succ, List.setIfInBounds_toArray, List.set_cons_zero, List.set_cons_succ]
      have hbD3 : Below wc.heap.size wc wc.drew := drew_bel _
      have qc := below_at hbD3 cmc
      generalize wc.drew = D3 at *
      refine wpAnyH_ready (rs := [10]) (by kernel_rfl) (by simp) ?_
      refine AllReadyH.cons rfl (fun K hK => ?_) AllReadyH.nil
      go_simp
      refine (pid_any j1 j2).mono ?_
      rintro e w8 ⟨rfl, rfl⟩
      refine hK.out _ _ qc (fun hHeld => ?_)
      clear hK K
      refine wpAnyH_ready (rs := [11]) (by kernel_rfl) (by simp) ?_
      refine AllReadyH.cons rfl (fun K hK => ?_) AllReadyH.nil
      go_simp
      refine (HFm.out D3 hbD3).mono ?_
      rintro e w8 hfo
      obtain ⟨fb, he, hb8⟩ := hfo.out
      subst he
      refine hK.out _ _ (below_at hb8 qc) (fun hHeld => ?_)
      clear hK K
      refine wpAnyH_take (i := 12) (v := .int .i64 0) rfl (by kernel_rfl) (by kernel_rfl) (by kernel_rfl) (fun _ _ _ h => h) (Or.inl ⟨by rfl, fun w' hS => by go_simp⟩) hHeld ?_
      simp only [Act.put, List.getElem_toArray, List.getElem_cons_zero, List.getElem_cons_succ, List.setIfInBounds_toArray, List.set_cons_zero, List.set_cons_succ]
      refine wpAnyH_take (i := 13) (v := .bool false) rfl (by kernel_rfl) (by kernel_rfl) (by kernel_rfl) (fun _ _ _ h => h) (Or.inl ⟨by rfl, fun w' hS => by go_simp⟩) hHeld ?_
      simp only [Act.put, List.getElem_toArray, List.getElem_cons_zero, List.getElem_cons_succ, List.setIfInBounds_toArray, List.set_cons_zero, List.set_cons_succ]
      refine wpAnyH_take (i := 14) (v := .bool false) rfl (by kernel_rfl) (by kernel_rfl) (by kernel_rfl) (fun _ _ _ h => h) (Or.inl ⟨by rfl, fun w' hS => by go_simp⟩) hHeld ?_
      simp only [Act.put, List.getElem_toArray, List.getElem_cons_zero, List.getElem_cons_succ, List.setIfInBounds_toArray, List.set_cons_zero, List.set_cons_succ]
      refine wpAnyH_done (by kernel_rfl) ?_ _
      clear hHeld
      have HFn : Hid (∃ Y, FrT W0 w8 b1 win space (s + 1) Y) := (show ∃ Y, FrT _ _ _ _ _ _ Y from ⟨X, (HXc.out.still hbD3).still hb8⟩)
      clear hb8 hbD3 qc cmc hfo HFm HXc HF HXb
      go_wp2
      exact ⟨⟨s + 1, by omega, by go_num, HFn⟩, by simp [intOf]; omega⟩
    · have hse : s = 2 := by omega
      rw [hse] at hY
      have HL0 : Hid (∃ X, TlS W0 wr b1 (runA (px0 win space) (t.ax.take 0)) X) := (show ∃ X, TlS _ _ _ _ X from ⟨Y, hY.fin⟩)
      have n2 : ¬ (s : Int) < 2 := by omega
      clear hY hse hs hs2
      go_wp2
      go_loopw [8, 9] (fun v8 _ wr => ∃ i : Nat, i ≤ t.an ∧ i ≤ 200 ∧ v8 = .int .i64 (i : Int) ∧ Hid (∃ X, TlS W0 wr b1 (runA (px0 win space) (t.ax.take i)) X)) (fun v8 _ _ => 200 - (intOf v8).toNat)
      case atStart => exact ⟨0, by omega, by omega, rfl, HL0⟩
      case round =>
        clear HL0
        obtain ⟨i, hi1, hi2, rfl, hs⟩ := hrel
        obtain ⟨X, hX⟩ := hs.out
        clear hs
        have d3 := below_at hX.bel c3
        by_cases hlt : i < t.an
        · by_cases h4 : i < 200
          · have i1 : (0 : Int) ≤ (i : Int) := Int.natCast_nonneg _
            have i2 : (i : Int) < (t.an : Int) := by omega
            have i3 : (i : Int) < 200 := by omega
            have hbo : ∃ b off, t.aa = some ⟨b, off, none⟩ ∧ ∀ i x, t.ax[i]? = some x → ActIn W0 b (off + i * 4) x := by
              rcases HAx.out.2 with h0 | h0
              · omega
              · exact h0
            obtain ⟨b, off, hao, hact⟩ := hbo
            rw [hao] at d3
            obtain ⟨x, hx⟩ : ∃ x, t.ax[i]? = some x := by
              have : i < t.ax.length := by rw [HAx.out.1]; exact hlt
              exact ⟨_, List.getElem?_eq_getElem this⟩
            have hai := hact i x hx
            obtain ⟨aa, m, cc, hcell, hrd⟩ := hai.out
            have hrdr := hrd.still hX.bel
            have HRg : Hid (wr.rangeAt b (off + i * 4) [.int .i64 x.side, .int .i64 x.kind, .int .i64 x.n, .slice aa m cc]) := fun j v hv => (show _ = _ from by
              have hj : j < 4 := by
                by_cases hj : j < 4
                · exact hj
                · rw [List.getElem?_eq_none (by simp; omega)] at hv; cases hv
              exact below_at hX.bel ((hcell j hj).trans hv))
            have HAc : Hid (Calls Try.prog 12 #[.pointer (some ⟨b1, 0, none⟩), .agg #[.int .i64 x.side, .int .i64 x.kind, .int .i64 x.n, .slice aa m cc]] wr fun e w' => XO wr w' X W0.heap.size (X.pu.act x) e) := (show Calls _ _ _ _ _ from by
              have := wact_any hX.ok (by rw [hX.pu]; exact HI.out i) (T := 400) (by rw [hX.pu]; exact HT.out i (by omega)) (by omega) hX.bel.size x hai.side.1 hai.side.2 hai.n.1 hai.n.2 hrdr (fun hm b' off' e ho => by
                have h1 := rd_lt hrd hm b' off' e
                have h2 := hX.ok.loj ho
                exact absurd h1 (by omega))
              rw [hX.b] at this
              exact this)
            have HX : Hid (TlS W0 wr b1 (runA (px0 win space) (t.ax.take i)) X) := hX
            have Hx : Hid (t.ax[i]? = some x) := hx
            clear hact hai hcell hrd hrdr hX hx hao
            go_wp2_with (first | (refine load_mid 47 (.tmp 137) HRg.out _ Try.underlying47 rfl (by kernel_rfl) rfl rfl rfl ?_) | (go_at_call 12; refine HAc.out.mono ?_) | fail)
            rintro e w2 hx2
            obtain ⟨he, X', hxs, hpu⟩ := hx2
            subst he
            have hN : TlS W0 w2 b1 (runA (px0 win space) (t.ax.take (i + 1))) X' := HX.out.step hxs (by rw [hpu, HX.out.pu]; exact (run_take _ _ Hx.out).symm)
            have HSo : Hid (Calls Try.prog 26 #[.pointer (some ⟨b1, 0, none⟩)] w2 fun e w' => e = .returned (.bool true) ∧ Below w2.heap.size w2 w') := (show Calls _ _ _ _ _ from by
              have := wsound_any hN.ok (by rw [hN.pu]; exact HI.out (i + 1)) (T := 400) (by rw [hN.pu]; exact HT.out (i + 1) (by omega)) (by omega)
              rw [hN.b] at this
              exact this)
            have HN : Hid (TlS W0 w2 b1 (runA (px0 win space) (t.ax.take (i + 1))) X') := hN
            clear hN hxs hpu HAc HRg HX d3
            go_wp2_with (first | (go_at_call 26; refine HSo.out.mono ?_) | fail)
            rintro e w3 ⟨rfl, hb3⟩
            have HF : Hid (∃ X, TlS W0 w3 b1 (runA (px0 win space) (t.ax.take (i + 1))) X) := (show ∃ X, TlS _ _ _ _ X from ⟨X', HN.out.step (Xstep.below HN.out.ok hb3) HN.out.pu⟩)
            clear hb3 HN HSo
            go_wp2
            exact ⟨⟨i + 1, by omega, by omega, by go_num, HF⟩, by simp [intOf]; omega⟩
          · have i2 : (i : Int) < (t.an : Int) := by omega
            obtain rfl : i = 200 := by omega
            have HZ : Hid (Below w.heap.size w wr) := (show Below _ _ _ from bstep HbW.out hX.bel)
            clear hX
            go_wp2
            go_ret
            exact ⟨rfl, HZ.out⟩
        · have i2 : ¬ (i : Int) < (t.an : Int) := by omega
          have HZ : Hid (Below w.heap.size w wr) := (show Below _ _ _ from bstep HbW.out hX.bel)
          clear hX
          go_wp2
          go_ret
          exact ⟨rfl, HZ.out⟩
end
end Go.Proofs.Ytgpehjkogfbnkaa.Ln
