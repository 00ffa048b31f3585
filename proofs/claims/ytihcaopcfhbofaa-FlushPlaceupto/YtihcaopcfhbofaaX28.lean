import Derived.Test.YtihcaopcfhbofaaX26
import Derived.Test.YtihcaopcfhbofaaX27
import Derived.Test.YtihcaopcfhbofaaX16
import Derived.Test.YtihcaopcfhbofaaX19
namespace Go.Proofs.Ytihcaopcfhbofaa.Fm
open Go.RowKit Go.Maps Mb
set_option linter.unusedVariables false
set_option maxRecDepth 100000
set_option linter.unusedSimpArgs false
section
variable {w w' W : World} {B : Nat}
theorem alike_zero (cs : List Co) : alike cs 0 = true := by simp [alike]
theorem forks_yes {cs : List Co} {i j : Nat} (hi : i < cs.length) (hj : j < i) (h : forkB (cs.getD i c0) (cs.getD j c0) = true) : forksB cs = true := by
  unfold forksB
  rw [List.any_eq_true]
  refine ⟨i, List.mem_range.2 hi, ?_⟩
  rw [List.any_eq_true]
  exact ⟨j, List.mem_range.2 hj, h⟩
theorem forks_no {cs : List Co} (h : ∀ i, i < cs.length → ∀ j, j < i → forkB (cs.getD i c0) (cs.getD j c0) = false) : forksB cs = false := by
  unfold forksB
  rw [List.any_eq_false]
  intro i hi
  rw [Bool.not_eq_true, List.any_eq_false]
  intro j hj
  rw [h i (List.mem_range.1 hi) j (List.mem_range.1 hj)]
  simp
set_option maxHeartbeats 16000000 in
theorem qTog_any {ao : Option Addr} {cp : Nat} {fs : List Fl} (hr : RdFs w ao fs) (hn : fs.length ≤ 1000000000000000000) : Calls Try.prog 34 #[.slice ao fs.length cp] w fun e w' => e = .returned (.int .i64 (togE (cos fs))) ∧ Below w.heap.size w w' := by
  have HR : Hid (RdFs w ao fs) := hr
  have hcl := cos_len fs
  generalize hL : fs.length = L at *
  have HLe : Hid (fs.length = L) := hL
  have HcL : Hid ((cos fs).length = L) := hcl
  clear hr hL hcl
  go_enter Try.func34, Try.ntmps34
  go_wp2
  go_loopw [3] (fun i wr => ∃ c : Nat, c ≤ L ∧ i = .int .i64 c ∧ (∀ k, k < c → sound ((cos fs).getD k c0) = true) ∧ Below w.heap.size w wr) (fun i _ => L - (intOf i).toNat)
  case atStart => exact ⟨0, Nat.zero_le _, rfl, fun k hk => by omega, Below.refl _ _⟩
  case round =>
    obtain ⟨c, hc, rfl, hsn, hb⟩ := hrel
    have HB : Hid (Below w.heap.size w wr) := hb
    have HS : Hid (∀ k, k < c → sound ((cos fs).getD k c0) = true) := hsn
    clear hb hsn
    by_cases hlt : c < L
    · have hrw := HR.out.still HB.out
      obtain ⟨b, off, rfl, hcc⟩ := hrw.at (i := c) (by rw [HLe.out]; exact hlt)
      have HC : Hid (wr.rangeAt b (off + c * 7) (fs.getD c fl0).cs) := hcc
      have HM : Hid (Calls Try.prog 52 #[.agg (fs.getD c fl0).cs.toArray] wr fun e w' => e = .returned (.bool (sound (fs.getD c fl0).c)) ∧ Below wr.heap.size wr w') := qSound_any (hrw.el c (by rw [HLe.out]; exact hlt))
      have HcA : Hid ((cos fs).getD c c0 = (fs.getD c fl0).c) := cos_at fs c
      clear hrw hcc
      have i1 : (0 : Int) ≤ (c : Int) := Int.natCast_nonneg _
      have i2 : (c : Int) < (L : Int) := by omega
      generalize fs.getD c fl0 = f at *
      have Hl7 : Hid (f.cs.length = 7) := rfl
      cases hsd : sound f.c with
      | true =>
        rw [hsd] at HM
        have HS2 : Hid (∀ k, k < c + 1 → sound ((cos fs).getD k c0) = true) := fun k hk => by
          by_cases e : k = c
          · rw [e, HcA.out]; exact hsd
          · exact HS.out k (by omega)
        clear hsd
        go_wp2_with (first
          | (refine load_mid 28 (.tmp 17) HC.out _ Try.underlying28 rfl (by rw [Hl7.out]; exact info_flush) rfl rfl rfl ?_)
          | (go_at_call 52; refine HM.out.mono ?_; rintro e V2 ⟨rfl, hb2⟩)
          | fail)
        exact ⟨⟨c + 1, by omega, by go_num, HS2.out, bstep HB.out hb2⟩, by simp [intOf]; omega⟩
      | false =>
        rw [hsd] at HM
        have HE : Hid (togE (cos fs) = 1) := tog_unsound (i := c) (by rw [HcL.out]; exact hlt) (by rw [HcA.out]; exact hsd)
        clear hsd
        go_wp2_with (first
          | (refine load_mid 28 (.tmp 17) HC.out _ Try.underlying28 rfl (by rw [Hl7.out]; exact info_flush) rfl rfl rfl ?_)
          | (go_at_call 52; refine HM.out.mono ?_; rintro e V2 ⟨rfl, hb2⟩)
          | fail)
        go_ret
        exact ⟨congrArg (fun x => Ending.returned (.int .i64 x)) HE.out.symm, bstep HB.out hb2⟩
    · obtain rfl : L = c := by omega
      go_wp2
      go_loopw [5] (fun i wr => ∃ c : Nat, 1 ≤ c ∧ i = .int .i64 c ∧ (∀ k, k < c → alike (cos fs) k = true) ∧ Below w.heap.size w wr) (fun i _ => L - (intOf i).toNat)
      case atStart => exact ⟨1, Nat.le_refl _, rfl, fun k hk => by rw [show k = 0 by omega]; exact alike_zero _, HB.out⟩
      case round =>
        obtain ⟨c, hc, rfl, hal, hb⟩ := hrel
        have HA : Hid (∀ k, k < c → alike (cos fs) k = true) := hal
        clear HB
        have HB : Hid (Below w.heap.size w wr) := hb
        clear hb hal
        by_cases hlt : c < L
        · have hrw := HR.out.still HB.out
          obtain ⟨b, off, rfl, hcc⟩ := hrw.at (i := c) (by rw [HLe.out]; exact hlt)
          obtain ⟨b', off', hb', hcc0⟩ := hrw.at (i := 0) (by rw [HLe.out]; omega)
          have hb2 : b = b' ∧ off = off' := by simpa using hb'
          obtain ⟨rfl, rfl⟩ := hb2
          have HC0 : Hid (wr.rangeAt b off (fs.getD 0 fl0).cs) := by rw [Nat.zero_mul, Nat.add_zero] at hcc0; exact hcc0
          have HcA : Hid ((cos fs).getD c c0 = (fs.getD c fl0).c) := cos_at fs c
          have Hc0 : Hid ((cos fs).getD 0 c0 = (fs.getD 0 fl0).c) := cos_at fs 0
          have Hal : Hid (alike (cos fs) c = (decide ((fs.getD c fl0).c.id = (fs.getD 0 fl0).c.id) && decide ((fs.getD c fl0).c.hv.length = (fs.getD 0 fl0).c.hv.length))) := (show alike (cos fs) c = _ from by unfold alike; rw [HcA.out, Hc0.out])
          have hl1 := (hrw.el c (by rw [HLe.out]; exact hlt)).hn
          have hl2 := (hrw.el 0 (by rw [HLe.out]; omega)).hn
          have i1 : (0 : Int) ≤ (c : Int) := Int.natCast_nonneg _
          have i2 : (c : Int) < (L : Int) := by omega
          have i3 : (0 : Int) < (L : Int) := by omega
          generalize fs.getD c fl0 = f at *
          generalize fs.getD 0 fl0 = f0 at *
          have r1 : wr.drew.rangeAt b (off + c * 7) f.c.id.cs := id_at hcc
          have r6 : wr.cell? ⟨b, off + c * 7 + 6, none⟩ = some (.slice f.ha f.c.hv.length f.hc) := have_at hcc
          have r0 : wr.drew.rangeAt b off f0.c.id.cs := id_at HC0.out
          have r06 : wr.cell? ⟨b, off + 6, none⟩ = some (.slice f0.ha f0.c.hv.length f0.hc) := have_at HC0.out
          have Hi4 : Hid (f.c.id.cs.length = 4) := rfl
          have Hi04 : Hid (f0.c.id.cs.length = 4) := rfl
          have HEq : Hid (∀ W, (Op.equalIn 10000 24 (.agg f.c.id.cs.toArray) (.agg f0.c.id.cs.toArray)).run Try.prog W = .ok (decide (f.c.id = f0.c.id)) W) := fun W => eq_vid _ _
          clear hrw hcc hcc0 hb' HC0
          generalize f.c.hv.length = n1 at *
          generalize f0.c.hv.length = n2 at *
          generalize f.c.id.cs = d1 at *
          generalize f0.c.id.cs = d2 at *
          by_cases hx : f.c.id = f0.c.id
          · rw [decide_eq_true hx] at HEq
            by_cases hy : n1 = n2
            · have HA2 : Hid (∀ k, k < c + 1 → alike (cos fs) k = true) := fun k hk => by
                by_cases e : k = c
                · rw [e, Hal.out, decide_eq_true hx, decide_eq_true hy]; rfl
                · exact HA.out k (by omega)
              clear hx
              go_wp2_with (fail)
              refine wp_region_held_drew (S := (fun w' => w'.rangeAt b (off + c * 7) d1 ∧ w'.rangeAt b off d2 ∧ w'.cell? ⟨b, off + c * 7 + 6, none⟩ = some (.slice f.ha n1 f.hc) ∧ w'.cell? ⟨b, off + 6, none⟩ = some (.slice f0.ha n2 f0.hc))) (by kernel_rfl) ⟨r1, r0, below_at (Below.refl _ _).drew r6, below_at (Below.refl _ _).drew r06⟩ (fun hHeld => ?_)
              simp only [Act.put, List.size_toArray, List.length_cons, List.length_nil, Nat.zero_add]
              refine wpAnyH_take (i := 0) (v := .slice (some ⟨b, off, none⟩) L cp) rfl (by kernel_rfl) (by kernel_rfl) (by kernel_rfl) (fun _ _ _ h => h) (Or.inl ⟨by rfl, fun w' hS => by go_simp⟩) hHeld ?_
              simp only [Act.put, gA9, gZ9, gC9, sA9, sZ9, sC9]
              refine wpAnyH_take (i := 1) (v := .int .i64 (c : Int)) rfl (by kernel_rfl) (by kernel_rfl) (by kernel_rfl) (fun _ _ _ h => h) (Or.inl ⟨by rfl, fun w' hS => by go_simp⟩) hHeld ?_
              simp only [Act.put, gA9, gZ9, gC9, sA9, sZ9, sC9]
              refine wpAnyH_take (i := 2) (v := .pointer (some ⟨b, off + c * 7, none⟩)) rfl (by kernel_rfl) (by kernel_rfl) (by kernel_rfl) (fun _ _ _ h => h) (Or.inl ⟨by rfl, fun w' hS => by go_simp⟩) hHeld ?_
              simp only [Act.put, gA9, gZ9, gC9, sA9, sZ9, sC9]
              refine wpAnyH_take (i := 3) (v := .pointer (some ⟨b, off + c * 7, none⟩)) rfl (by kernel_rfl) (by kernel_rfl) (by kernel_rfl) (fun _ _ _ h => h) (Or.inl ⟨by rfl, fun w' hS => by go_simp⟩) hHeld ?_
              simp only [Act.put, gA9, gZ9, gC9, sA9, sZ9, sC9]
              refine wpAnyH_take (i := 4) (v := .agg (d1).toArray) rfl (by kernel_rfl) (by kernel_rfl) (by kernel_rfl) (fun _ _ _ h => h) (yieldsIf_load_mid (by rfl) 24 (.tmp 31) rfl b (off + c * 7) (by rfl) (d1) _ (fun w' hS => hS.1) Try.underlying24 rfl (by rw [Hi4.out]; exact info_id)) hHeld ?_
              simp only [Act.put, gA9, gZ9, gC9, sA9, sZ9, sC9]
              refine wpAnyH_take (i := 5) (v := .slice (some ⟨b, off, none⟩) L cp) rfl (by kernel_rfl) (by kernel_rfl) (by kernel_rfl) (fun _ _ _ h => h) (Or.inl ⟨by rfl, fun w' hS => by go_simp⟩) hHeld ?_
              simp only [Act.put, gA9, gZ9, gC9, sA9, sZ9, sC9]
              refine wpAnyH_take (i := 6) (v := .pointer (some ⟨b, off, none⟩)) rfl (by kernel_rfl) (by kernel_rfl) (by kernel_rfl) (fun _ _ _ h => h) (Or.inl ⟨by rfl, fun w' hS => by (go_simp; intro hz; omega)⟩) hHeld ?_
              simp only [Act.put, gA9, gZ9, gC9, sA9, sZ9, sC9]
              refine wpAnyH_take (i := 7) (v := .pointer (some ⟨b, off, none⟩)) rfl (by kernel_rfl) (by kernel_rfl) (by kernel_rfl) (fun _ _ _ h => h) (Or.inl ⟨by rfl, fun w' hS => by go_simp⟩) hHeld ?_
              simp only [Act.put, gA9, gZ9, gC9, sA9, sZ9, sC9]
              refine wpAnyH_take (i := 8) (v := .agg (d2).toArray) rfl (by kernel_rfl) (by kernel_rfl) (by kernel_rfl) (fun _ _ _ h => h) (yieldsIf_load_mid (by rfl) 24 (.tmp 35) rfl b (off) (by rfl) (d2) _ (fun w' hS => hS.2.1) Try.underlying24 rfl (by rw [Hi04.out]; exact info_id)) hHeld ?_
              simp only [Act.put, gA9, gZ9, gC9, sA9, sZ9, sC9]
              refine wpAnyH_take (i := 9) (v := .bool false) rfl (by kernel_rfl) (by kernel_rfl) (by kernel_rfl) (fun _ _ _ h => h) (Or.inl ⟨by rfl, fun w' hS => run_neqop 24 (.tmp 32) (.tmp 36) 24 rfl _ _ (by rfl) (by rfl) guard_id true (HEq.out _)⟩) hHeld ?_
              simp only [Act.put, gA9, gZ9, gC9, sA9, sZ9, sC9]
              refine wpAnyH_take (i := 10) (v := .bool false) rfl (by kernel_rfl) (by kernel_rfl) (by kernel_rfl) (fun _ _ _ h => h) (Or.inl ⟨by rfl, fun w' hS => by go_simp⟩) hHeld ?_
              simp only [Act.put, gA9, gZ9, gC9, sA9, sZ9, sC9]
              refine wpAnyH_take (i := 11) (v := .slice (some ⟨b, off, none⟩) L cp) rfl (by kernel_rfl) (by kernel_rfl) (by kernel_rfl) (fun _ _ _ h => h) (Or.inl ⟨by rfl, fun w' hS => by go_simp⟩) hHeld ?_
              simp only [Act.put, gA9, gZ9, gC9, sA9, sZ9, sC9]
              refine wpAnyH_take (i := 12) (v := .int .i64 (c : Int)) rfl (by kernel_rfl) (by kernel_rfl) (by kernel_rfl) (fun _ _ _ h => h) (Or.inl ⟨by rfl, fun w' hS => by go_simp⟩) hHeld ?_
              simp only [Act.put, gA9, gZ9, gC9, sA9, sZ9, sC9]
              refine wpAnyH_take (i := 13) (v := .pointer (some ⟨b, off + c * 7, none⟩)) rfl (by kernel_rfl) (by kernel_rfl) (by kernel_rfl) (fun _ _ _ h => h) (Or.inl ⟨by rfl, fun w' hS => by go_simp⟩) hHeld ?_
              simp only [Act.put, gA9, gZ9, gC9, sA9, sZ9, sC9]
              refine wpAnyH_take (i := 14) (v := .pointer (some ⟨b, off + c * 7 + 6, none⟩)) rfl (by kernel_rfl) (by kernel_rfl) (by kernel_rfl) (fun _ _ _ h => h) (Or.inl ⟨by rfl, fun w' hS => by go_simp⟩) hHeld ?_
              simp only [Act.put, gA9, gZ9, gC9, sA9, sZ9, sC9]
              refine wpAnyH_take (i := 15) (v := .slice f.ha n1 f.hc) rfl (by kernel_rfl) (by kernel_rfl) (by kernel_rfl) (fun _ _ _ h => h) (Or.inl ⟨by rfl, fun w' hS => by (obtain ⟨s1, s0, s6, s06⟩ := hS; go_simp)⟩) hHeld ?_
              simp only [Act.put, gA9, gZ9, gC9, sA9, sZ9, sC9]
              refine wpAnyH_take (i := 16) (v := .int .i64 (n1 : Int)) rfl (by kernel_rfl) (by kernel_rfl) (by kernel_rfl) (fun _ _ _ h => h) (Or.inl ⟨by rfl, fun w' hS => by go_simp⟩) hHeld ?_
              simp only [Act.put, gA9, gZ9, gC9, sA9, sZ9, sC9]
              refine wpAnyH_take (i := 17) (v := .slice (some ⟨b, off, none⟩) L cp) rfl (by kernel_rfl) (by kernel_rfl) (by kernel_rfl) (fun _ _ _ h => h) (Or.inl ⟨by rfl, fun w' hS => by go_simp⟩) hHeld ?_
              simp only [Act.put, gA9, gZ9, gC9, sA9, sZ9, sC9]
              refine wpAnyH_take (i := 18) (v := .pointer (some ⟨b, off, none⟩)) rfl (by kernel_rfl) (by kernel_rfl) (by kernel_rfl) (fun _ _ _ h => h) (Or.inl ⟨by rfl, fun w' hS => by (go_simp; intro hz; omega)⟩) hHeld ?_
              simp only [Act.put, gA9, gZ9, gC9, sA9, sZ9, sC9]
              refine wpAnyH_take (i := 19) (v := .pointer (some ⟨b, off + 6, none⟩)) rfl (by kernel_rfl) (by kernel_rfl) (by kernel_rfl) (fun _ _ _ h => h) (Or.inl ⟨by rfl, fun w' hS => by go_simp⟩) hHeld ?_
              simp only [Act.put, gA9, gZ9, gC9, sA9, sZ9, sC9]
              refine wpAnyH_take (i := 20) (v := .slice f0.ha n2 f0.hc) rfl (by kernel_rfl) (by kernel_rfl) (by kernel_rfl) (fun _ _ _ h => h) (Or.inl ⟨by rfl, fun w' hS => by (obtain ⟨s1, s0, s6, s06⟩ := hS; go_simp)⟩) hHeld ?_
              simp only [Act.put, gA9, gZ9, gC9, sA9, sZ9, sC9]
              refine wpAnyH_take (i := 21) (v := .int .i64 (n2 : Int)) rfl (by kernel_rfl) (by kernel_rfl) (by kernel_rfl) (fun _ _ _ h => h) (Or.inl ⟨by rfl, fun w' hS => by go_simp⟩) hHeld ?_
              simp only [Act.put, gA9, gZ9, gC9, sA9, sZ9, sC9]
              refine wpAnyH_take (i := 22) (v := .bool false) rfl (by kernel_rfl) (by kernel_rfl) (by kernel_rfl) (fun _ _ _ h => h) (Or.inl ⟨by rfl, fun w' hS => by (go_simp <;> omega)⟩) hHeld ?_
              simp only [Act.put, gA9, gZ9, gC9, sA9, sZ9, sC9]
              refine wpAnyH_take (i := 23) (v := .bool false) rfl (by kernel_rfl) (by kernel_rfl) (by kernel_rfl) (fun _ _ _ h => h) (Or.inl ⟨by rfl, fun w' hS => by go_simp⟩) hHeld ?_
              simp only [Act.put, gA9, gZ9, gC9, sA9, sZ9, sC9]
              refine wpAnyH_done (by kernel_rfl) ?_ _
              clear hHeld
              go_wp2
              exact ⟨⟨c + 1, by omega, by go_num, HA2.out, HB.out.drew⟩, by simp [intOf]; omega⟩
            · have hx2 : (decide (f.c.id = f0.c.id) && decide (n1 = n2)) = false := by rw [decide_eq_false hy]; simp
              have HE : Hid (togE (cos fs) = 80) := tog_unlike (i := c) (fun k hk => HS.out k (by rw [← HcL.out]; exact hk)) (by rw [HcL.out]; exact hlt) (by rw [Hal.out, hx2])
              clear hx hx2
              go_wp2_with (fail)
              refine wp_region_held_drew (S := (fun w' => w'.rangeAt b (off + c * 7) d1 ∧ w'.rangeAt b off d2 ∧ w'.cell? ⟨b, off + c * 7 + 6, none⟩ = some (.slice f.ha n1 f.hc) ∧ w'.cell? ⟨b, off + 6, none⟩ = some (.slice f0.ha n2 f0.hc))) (by kernel_rfl) ⟨r1, r0, below_at (Below.refl _ _).drew r6, below_at (Below.refl _ _).drew r06⟩ (fun hHeld => ?_)
              simp only [Act.put, List.size_toArray, List.length_cons, List.length_nil, Nat.zero_add]
              refine wpAnyH_take (i := 0) (v := .slice (some ⟨b, off, none⟩) L cp) rfl (by kernel_rfl) (by kernel_rfl) (by kernel_rfl) (fun _ _ _ h => h) (Or.inl ⟨by rfl, fun w' hS => by go_simp⟩) hHeld ?_
              simp only [Act.put, gA9, gZ9, gC9, sA9, sZ9, sC9]
              refine wpAnyH_take (i := 1) (v := .int .i64 (c : Int)) rfl (by kernel_rfl) (by kernel_rfl) (by kernel_rfl) (fun _ _ _ h => h) (Or.inl ⟨by rfl, fun w' hS => by go_simp⟩) hHeld ?_
              simp only [Act.put, gA9, gZ9, gC9, sA9, sZ9, sC9]
              refine wpAnyH_take (i := 2) (v := .pointer (some ⟨b, off + c * 7, none⟩)) rfl (by kernel_rfl) (by kernel_rfl) (by kernel_rfl) (fun _ _ _ h => h) (Or.inl ⟨by rfl, fun w' hS => by go_simp⟩) hHeld ?_
              simp only [Act.put, gA9, gZ9, gC9, sA9, sZ9, sC9]
              refine wpAnyH_take (i := 3) (v := .pointer (some ⟨b, off + c * 7, none⟩)) rfl (by kernel_rfl) (by kernel_rfl) (by kernel_rfl) (fun _ _ _ h => h) (Or.inl ⟨by rfl, fun w' hS => by go_simp⟩) hHeld ?_
              simp only [Act.put, gA9, gZ9, gC9, sA9, sZ9, sC9]
              refine wpAnyH_take (i := 4) (v := .agg (d1).toArray) rfl (by kernel_rfl) (by kernel_rfl) (by kernel_rfl) (fun _ _ _ h => h) (yieldsIf_load_mid (by rfl) 24 (.tmp 31) rfl b (off + c * 7) (by rfl) (d1) _ (fun w' hS => hS.1) Try.underlying24 rfl (by rw [Hi4.out]; exact info_id)) hHeld ?_
              simp only [Act.put, gA9, gZ9, gC9, sA9, sZ9, sC9]
              refine wpAnyH_take (i := 5) (v := .slice (some ⟨b, off, none⟩) L cp) rfl (by kernel_rfl) (by kernel_rfl) (by kernel_rfl) (fun _ _ _ h => h) (Or.inl ⟨by rfl, fun w' hS => by go_simp⟩) hHeld ?_
              simp only [Act.put, gA9, gZ9, gC9, sA9, sZ9, sC9]
              refine wpAnyH_take (i := 6) (v := .pointer (some ⟨b, off, none⟩)) rfl (by kernel_rfl) (by kernel_rfl) (by kernel_rfl) (fun _ _ _ h => h) (Or.inl ⟨by rfl, fun w' hS => by (go_simp; intro hz; omega)⟩) hHeld ?_
              simp only [Act.put, gA9, gZ9, gC9, sA9, sZ9, sC9]
              refine wpAnyH_take (i := 7) (v := .pointer (some ⟨b, off, none⟩)) rfl (by kernel_rfl) (by kernel_rfl) (by kernel_rfl) (fun _ _ _ h => h) (Or.inl ⟨by rfl, fun w' hS => by go_simp⟩) hHeld ?_
              simp only [Act.put, gA9, gZ9, gC9, sA9, sZ9, sC9]
              refine wpAnyH_take (i := 8) (v := .agg (d2).toArray) rfl (by kernel_rfl) (by kernel_rfl) (by kernel_rfl) (fun _ _ _ h => h) (yieldsIf_load_mid (by rfl) 24 (.tmp 35) rfl b (off) (by rfl) (d2) _ (fun w' hS => hS.2.1) Try.underlying24 rfl (by rw [Hi04.out]; exact info_id)) hHeld ?_
              simp only [Act.put, gA9, gZ9, gC9, sA9, sZ9, sC9]
              refine wpAnyH_take (i := 9) (v := .bool false) rfl (by kernel_rfl) (by kernel_rfl) (by kernel_rfl) (fun _ _ _ h => h) (Or.inl ⟨by rfl, fun w' hS => run_neqop 24 (.tmp 32) (.tmp 36) 24 rfl _ _ (by rfl) (by rfl) guard_id true (HEq.out _)⟩) hHeld ?_
              simp only [Act.put, gA9, gZ9, gC9, sA9, sZ9, sC9]
              refine wpAnyH_take (i := 10) (v := .bool false) rfl (by kernel_rfl) (by kernel_rfl) (by kernel_rfl) (fun _ _ _ h => h) (Or.inl ⟨by rfl, fun w' hS => by go_simp⟩) hHeld ?_
              simp only [Act.put, gA9, gZ9, gC9, sA9, sZ9, sC9]
              refine wpAnyH_take (i := 11) (v := .slice (some ⟨b, off, none⟩) L cp) rfl (by kernel_rfl) (by kernel_rfl) (by kernel_rfl) (fun _ _ _ h => h) (Or.inl ⟨by rfl, fun w' hS => by go_simp⟩) hHeld ?_
              simp only [Act.put, gA9, gZ9, gC9, sA9, sZ9, sC9]
              refine wpAnyH_take (i := 12) (v := .int .i64 (c : Int)) rfl (by kernel_rfl) (by kernel_rfl) (by kernel_rfl) (fun _ _ _ h => h) (Or.inl ⟨by rfl, fun w' hS => by go_simp⟩) hHeld ?_
              simp only [Act.put, gA9, gZ9, gC9, sA9, sZ9, sC9]
              refine wpAnyH_take (i := 13) (v := .pointer (some ⟨b, off + c * 7, none⟩)) rfl (by kernel_rfl) (by kernel_rfl) (by kernel_rfl) (fun _ _ _ h => h) (Or.inl ⟨by rfl, fun w' hS => by go_simp⟩) hHeld ?_
              simp only [Act.put, gA9, gZ9, gC9, sA9, sZ9, sC9]
              refine wpAnyH_take (i := 14) (v := .pointer (some ⟨b, off + c * 7 + 6, none⟩)) rfl (by kernel_rfl) (by kernel_rfl) (by kernel_rfl) (fun _ _ _ h => h) (Or.inl ⟨by rfl, fun w' hS => by go_simp⟩) hHeld ?_
              simp only [Act.put, gA9, gZ9, gC9, sA9, sZ9, sC9]
              refine wpAnyH_take (i := 15) (v := .slice f.ha n1 f.hc) rfl (by kernel_rfl) (by kernel_rfl) (by kernel_rfl) (fun _ _ _ h => h) (Or.inl ⟨by rfl, fun w' hS => by (obtain ⟨s1, s0, s6, s06⟩ := hS; go_simp)⟩) hHeld ?_
              simp only [Act.put, gA9, gZ9, gC9, sA9, sZ9, sC9]
              refine wpAnyH_take (i := 16) (v := .int .i64 (n1 : Int)) rfl (by kernel_rfl) (by kernel_rfl) (by kernel_rfl) (fun _ _ _ h => h) (Or.inl ⟨by rfl, fun w' hS => by go_simp⟩) hHeld ?_
              simp only [Act.put, gA9, gZ9, gC9, sA9, sZ9, sC9]
              refine wpAnyH_take (i := 17) (v := .slice (some ⟨b, off, none⟩) L cp) rfl (by kernel_rfl) (by kernel_rfl) (by kernel_rfl) (fun _ _ _ h => h) (Or.inl ⟨by rfl, fun w' hS => by go_simp⟩) hHeld ?_
              simp only [Act.put, gA9, gZ9, gC9, sA9, sZ9, sC9]
              refine wpAnyH_take (i := 18) (v := .pointer (some ⟨b, off, none⟩)) rfl (by kernel_rfl) (by kernel_rfl) (by kernel_rfl) (fun _ _ _ h => h) (Or.inl ⟨by rfl, fun w' hS => by (go_simp; intro hz; omega)⟩) hHeld ?_
              simp only [Act.put, gA9, gZ9, gC9, sA9, sZ9, sC9]
              refine wpAnyH_take (i := 19) (v := .pointer (some ⟨b, off + 6, none⟩)) rfl (by kernel_rfl) (by kernel_rfl) (by kernel_rfl) (fun _ _ _ h => h) (Or.inl ⟨by rfl, fun w' hS => by go_simp⟩) hHeld ?_
              simp only [Act.put, gA9, gZ9, gC9, sA9, sZ9, sC9]
              refine wpAnyH_take (i := 20) (v := .slice f0.ha n2 f0.hc) rfl (by kernel_rfl) (by kernel_rfl) (by kernel_rfl) (fun _ _ _ h => h) (Or.inl ⟨by rfl, fun w' hS => by (obtain ⟨s1, s0, s6, s06⟩ := hS; go_simp)⟩) hHeld ?_
              simp only [Act.put, gA9, gZ9, gC9, sA9, sZ9, sC9]
              refine wpAnyH_take (i := 21) (v := .int .i64 (n2 : Int)) rfl (by kernel_rfl) (by kernel_rfl) (by kernel_rfl) (fun _ _ _ h => h) (Or.inl ⟨by rfl, fun w' hS => by go_simp⟩) hHeld ?_
              simp only [Act.put, gA9, gZ9, gC9, sA9, sZ9, sC9]
              refine wpAnyH_take (i := 22) (v := .bool true) rfl (by kernel_rfl) (by kernel_rfl) (by kernel_rfl) (fun _ _ _ h => h) (Or.inl ⟨by rfl, fun w' hS => by (go_simp <;> omega)⟩) hHeld ?_
              simp only [Act.put, gA9, gZ9, gC9, sA9, sZ9, sC9]
              refine wpAnyH_take (i := 23) (v := .bool true) rfl (by kernel_rfl) (by kernel_rfl) (by kernel_rfl) (fun _ _ _ h => h) (Or.inl ⟨by rfl, fun w' hS => by go_simp⟩) hHeld ?_
              simp only [Act.put, gA9, gZ9, gC9, sA9, sZ9, sC9]
              refine wpAnyH_done (by kernel_rfl) ?_ _
              clear hHeld
              go_wp2
              go_ret
              exact ⟨congrArg (fun x => Ending.returned (.int .i64 x)) HE.out.symm, HB.out.drew⟩
          · rw [decide_eq_false hx] at HEq
            have hx2 : (decide (f.c.id = f0.c.id) && decide (n1 = n2)) = false := by rw [decide_eq_false hx]; rfl
            have HE : Hid (togE (cos fs) = 80) := tog_unlike (i := c) (fun k hk => HS.out k (by rw [← HcL.out]; exact hk)) (by rw [HcL.out]; exact hlt) (by rw [Hal.out, hx2])
            clear hx hx2
            go_wp2_with (fail)
            refine wp_region_held_drew (S := (fun w' => w'.rangeAt b (off + c * 7) d1 ∧ w'.rangeAt b off d2 ∧ w'.cell? ⟨b, off + c * 7 + 6, none⟩ = some (.slice f.ha n1 f.hc) ∧ w'.cell? ⟨b, off + 6, none⟩ = some (.slice f0.ha n2 f0.hc))) (by kernel_rfl) ⟨r1, r0, below_at (Below.refl _ _).drew r6, below_at (Below.refl _ _).drew r06⟩ (fun hHeld => ?_)
            simp only [Act.put, List.size_toArray, List.length_cons, List.length_nil, Nat.zero_add]
            refine wpAnyH_take (i := 0) (v := .slice (some ⟨b, off, none⟩) L cp) rfl (by kernel_rfl) (by kernel_rfl) (by kernel_rfl) (fun _ _ _ h => h) (Or.inl ⟨by rfl, fun w' hS => by go_simp⟩) hHeld ?_
            simp only [Act.put, gA9, gZ9, gC9, sA9, sZ9, sC9]
            refine wpAnyH_take (i := 1) (v := .int .i64 (c : Int)) rfl (by kernel_rfl) (by kernel_rfl) (by kernel_rfl) (fun _ _ _ h => h) (Or.inl ⟨by rfl, fun w' hS => by go_simp⟩) hHeld ?_
            simp only [Act.put, gA9, gZ9, gC9, sA9, sZ9, sC9]
            refine wpAnyH_take (i := 2) (v := .pointer (some ⟨b, off + c * 7, none⟩)) rfl (by kernel_rfl) (by kernel_rfl) (by kernel_rfl) (fun _ _ _ h => h) (Or.inl ⟨by rfl, fun w' hS => by go_simp⟩) hHeld ?_
            simp only [Act.put, gA9, gZ9, gC9, sA9, sZ9, sC9]
            refine wpAnyH_take (i := 3) (v := .pointer (some ⟨b, off + c * 7, none⟩)) rfl (by kernel_rfl) (by kernel_rfl) (by kernel_rfl) (fun _ _ _ h => h) (Or.inl ⟨by rfl, fun w' hS => by go_simp⟩) hHeld ?_
            simp only [Act.put, gA9, gZ9, gC9, sA9, sZ9, sC9]
            refine wpAnyH_take (i := 4) (v := .agg (d1).toArray) rfl (by kernel_rfl) (by kernel_rfl) (by kernel_rfl) (fun _ _ _ h => h) (yieldsIf_load_mid (by rfl) 24 (.tmp 31) rfl b (off + c * 7) (by rfl) (d1) _ (fun w' hS => hS.1) Try.underlying24 rfl (by rw [Hi4.out]; exact info_id)) hHeld ?_
            simp only [Act.put, gA9, gZ9, gC9, sA9, sZ9, sC9]
            refine wpAnyH_take (i := 5) (v := .slice (some ⟨b, off, none⟩) L cp) rfl (by kernel_rfl) (by kernel_rfl) (by kernel_rfl) (fun _ _ _ h => h) (Or.inl ⟨by rfl, fun w' hS => by go_simp⟩) hHeld ?_
            simp only [Act.put, gA9, gZ9, gC9, sA9, sZ9, sC9]
            refine wpAnyH_take (i := 6) (v := .pointer (some ⟨b, off, none⟩)) rfl (by kernel_rfl) (by kernel_rfl) (by kernel_rfl) (fun _ _ _ h => h) (Or.inl ⟨by rfl, fun w' hS => by (go_simp; intro hz; omega)⟩) hHeld ?_
            simp only [Act.put, gA9, gZ9, gC9, sA9, sZ9, sC9]
            refine wpAnyH_take (i := 7) (v := .pointer (some ⟨b, off, none⟩)) rfl (by kernel_rfl) (by kernel_rfl) (by kernel_rfl) (fun _ _ _ h => h) (Or.inl ⟨by rfl, fun w' hS => by go_simp⟩) hHeld ?_
            simp only [Act.put, gA9, gZ9, gC9, sA9, sZ9, sC9]
            refine wpAnyH_take (i := 8) (v := .agg (d2).toArray) rfl (by kernel_rfl) (by kernel_rfl) (by kernel_rfl) (fun _ _ _ h => h) (yieldsIf_load_mid (by rfl) 24 (.tmp 35) rfl b (off) (by rfl) (d2) _ (fun w' hS => hS.2.1) Try.underlying24 rfl (by rw [Hi04.out]; exact info_id)) hHeld ?_
            simp only [Act.put, gA9, gZ9, gC9, sA9, sZ9, sC9]
            refine wpAnyH_take (i := 9) (v := .bool true) rfl (by kernel_rfl) (by kernel_rfl) (by kernel_rfl) (fun _ _ _ h => h) (Or.inl ⟨by rfl, fun w' hS => run_neqop 24 (.tmp 32) (.tmp 36) 24 rfl _ _ (by rfl) (by rfl) guard_id false (HEq.out _)⟩) hHeld ?_
            simp only [Act.put, gA9, gZ9, gC9, sA9, sZ9, sC9]
            refine wpAnyH_take (i := 10) (v := .bool true) rfl (by kernel_rfl) (by kernel_rfl) (by kernel_rfl) (fun _ _ _ h => h) (Or.inl ⟨by rfl, fun w' hS => by go_simp⟩) hHeld ?_
            simp only [Act.put, gA9, gZ9, gC9, sA9, sZ9, sC9]
            refine wpAnyH_take (i := 11) (v := undef) rfl (by kernel_rfl) (by kernel_rfl) (by kernel_rfl) (fun _ _ _ h => h) (Or.inr ⟨by rfl, rfl⟩) hHeld ?_
            simp only [Act.put, gA9, gZ9, gC9, sA9, sZ9, sC9]
            refine wpAnyH_take (i := 12) (v := undef) rfl (by kernel_rfl) (by kernel_rfl) (by kernel_rfl) (fun _ _ _ h => h) (Or.inr ⟨by rfl, rfl⟩) hHeld ?_
            simp only [Act.put, gA9, gZ9, gC9, sA9, sZ9, sC9]
            refine wpAnyH_take (i := 13) (v := undef) rfl (by kernel_rfl) (by kernel_rfl) (by kernel_rfl) (fun _ _ _ h => h) (Or.inr ⟨by rfl, rfl⟩) hHeld ?_
            simp only [Act.put, gA9, gZ9, gC9, sA9, sZ9, sC9]
            refine wpAnyH_take (i := 14) (v := undef) rfl (by kernel_rfl) (by kernel_rfl) (by kernel_rfl) (fun _ _ _ h => h) (Or.inr ⟨by rfl, rfl⟩) hHeld ?_
            simp only [Act.put, gA9, gZ9, gC9, sA9, sZ9, sC9]
            refine wpAnyH_take (i := 15) (v := undef) rfl (by kernel_rfl) (by kernel_rfl) (by kernel_rfl) (fun _ _ _ h => h) (Or.inr ⟨by rfl, rfl⟩) hHeld ?_
            simp only [Act.put, gA9, gZ9, gC9, sA9, sZ9, sC9]
            refine wpAnyH_take (i := 16) (v := undef) rfl (by kernel_rfl) (by kernel_rfl) (by kernel_rfl) (fun _ _ _ h => h) (Or.inr ⟨by rfl, rfl⟩) hHeld ?_
            simp only [Act.put, gA9, gZ9, gC9, sA9, sZ9, sC9]
            refine wpAnyH_take (i := 17) (v := undef) rfl (by kernel_rfl) (by kernel_rfl) (by kernel_rfl) (fun _ _ _ h => h) (Or.inr ⟨by rfl, rfl⟩) hHeld ?_
            simp only [Act.put, gA9, gZ9, gC9, sA9, sZ9, sC9]
            refine wpAnyH_take (i := 18) (v := undef) rfl (by kernel_rfl) (by kernel_rfl) (by kernel_rfl) (fun _ _ _ h => h) (Or.inr ⟨by rfl, rfl⟩) hHeld ?_
            simp only [Act.put, gA9, gZ9, gC9, sA9, sZ9, sC9]
            refine wpAnyH_take (i := 19) (v := undef) rfl (by kernel_rfl) (by kernel_rfl) (by kernel_rfl) (fun _ _ _ h => h) (Or.inr ⟨by rfl, rfl⟩) hHeld ?_
            simp only [Act.put, gA9, gZ9, gC9, sA9, sZ9, sC9]
            refine wpAnyH_take (i := 20) (v := undef) rfl (by kernel_rfl) (by kernel_rfl) (by kernel_rfl) (fun _ _ _ h => h) (Or.inr ⟨by rfl, rfl⟩) hHeld ?_
            simp only [Act.put, gA9, gZ9, gC9, sA9, sZ9, sC9]
            refine wpAnyH_take (i := 21) (v := undef) rfl (by kernel_rfl) (by kernel_rfl) (by kernel_rfl) (fun _ _ _ h => h) (Or.inr ⟨by rfl, rfl⟩) hHeld ?_
            simp only [Act.put, gA9, gZ9, gC9, sA9, sZ9, sC9]
            refine wpAnyH_take (i := 22) (v := undef) rfl (by kernel_rfl) (by kernel_rfl) (by kernel_rfl) (fun _ _ _ h => h) (Or.inr ⟨by rfl, rfl⟩) hHeld ?_
            simp only [Act.put, gA9, gZ9, gC9, sA9, sZ9, sC9]
            refine wpAnyH_take (i := 23) (v := .bool true) rfl (by kernel_rfl) (by kernel_rfl) (by kernel_rfl) (fun _ _ _ h => h) (Or.inl ⟨by rfl, fun w' hS => by go_simp⟩) hHeld ?_
            simp only [Act.put, gA9, gZ9, gC9, sA9, sZ9, sC9]
            refine wpAnyH_done (by kernel_rfl) ?_ _
            clear hHeld
            go_wp2
            go_ret
            exact ⟨congrArg (fun x => Ending.returned (.int .i64 x)) HE.out.symm, HB.out.drew⟩
        · have HA2 : Hid (∀ k, k < (cos fs).length → alike (cos fs) k = true) := fun k hk => HA.out k (by have := HcL.out; omega)
          have HS2 : Hid (∀ k, k < (cos fs).length → sound ((cos fs).getD k c0) = true) := fun k hk => HS.out k (by rw [← HcL.out]; exact hk)
          have HT : Hid (togE (cos fs) = if forksB (cos fs) then 82 else 0) := tog_rest HS2.out HA2.out
          clear HA HA2
          have i2 : ¬ (c : Int) < (L : Int) := by omega
          go_wp2
          go_loopw [6] (fun i wr => ∃ c : Nat, c ≤ L ∧ i = .int .i64 c ∧ (∀ k, k < c → ∀ j, j < k → forkB ((cos fs).getD k c0) ((cos fs).getD j c0) = false) ∧ Below w.heap.size w wr) (fun i _ => L - (intOf i).toNat)
          case atStart => exact ⟨0, Nat.zero_le _, rfl, fun k hk => by omega, HB.out⟩
          case round =>
            obtain ⟨i, hi, rfl, hno, hb⟩ := hrel
            have HN : Hid (∀ k, k < i → ∀ j, j < k → forkB ((cos fs).getD k c0) ((cos fs).getD j c0) = false) := hno
            clear HB
            have HB : Hid (Below w.heap.size w wr) := hb
            clear hno hb
            by_cases hil : i < L
            · have i3 : (i : Int) < (L : Int) := by omega
              have i4 : (0 : Int) ≤ (i : Int) := Int.natCast_nonneg _
              go_wp2
              go_loopw [7] (fun v wv => ∃ j : Nat, j ≤ i ∧ v = .int .i64 j ∧ (∀ k, k < j → forkB ((cos fs).getD i c0) ((cos fs).getD k c0) = false) ∧ Below w.heap.size w wv) (fun v _ => i - (intOf v).toNat)
              case atStart => exact ⟨0, Nat.zero_le _, rfl, fun k hk => by omega, HB.out⟩
              case round =>
                obtain ⟨j, hj, rfl, hno, hb⟩ := hrel
                have HM : Hid (∀ k, k < j → forkB ((cos fs).getD i c0) ((cos fs).getD k c0) = false) := hno
                clear HB
                have HB : Hid (Below w.heap.size w wr) := hb
                clear hno hb
                by_cases hjl : j < i
                · have j1 : (0 : Int) ≤ (j : Int) := Int.natCast_nonneg _
                  have j2 : (j : Int) < (i : Int) := by omega
                  have j3 : (j : Int) < (L : Int) := by omega
                  have hrw := HR.out.still (bstep HB.out (Below.refl _ _).drew)
                  obtain ⟨b, off, rfl, hcc⟩ := hrw.at (i := i) (by rw [HLe.out]; exact hil)
                  obtain ⟨b', off', hb', hcc0⟩ := hrw.at (i := j) (by rw [HLe.out]; omega)
                  have hb2 : b = b' ∧ off = off' := by simpa using hb'
                  obtain ⟨rfl, rfl⟩ := hb2
                  have HQ : Hid (Calls Try.prog 53 #[.agg (fs.getD i fl0).cs.toArray, .agg (fs.getD j fl0).cs.toArray] wr.drew fun e w' => e = .returned (.bool (forkB (fs.getD i fl0).c (fs.getD j fl0).c)) ∧ Below wr.drew.heap.size wr.drew w') := qfork_any (hrw.el i (by rw [HLe.out]; exact hil)) (hrw.el j (by rw [HLe.out]; omega)) (by rw [← cos_at]; exact (sound_iff _).1 (HS2.out i (by rw [HcL.out]; exact hil))) (by rw [← cos_at]; exact (sound_iff _).1 (HS2.out j (by rw [HcL.out]; omega)))
                  have HcI : Hid ((cos fs).getD i c0 = (fs.getD i fl0).c) := cos_at fs i
                  have HcJ : Hid ((cos fs).getD j c0 = (fs.getD j fl0).c) := cos_at fs j
                  generalize fs.getD i fl0 = f at *
                  generalize fs.getD j fl0 = g at *
                  have Hf7 : Hid (f.cs.length = 7) := rfl
                  have Hg7 : Hid (g.cs.length = 7) := rfl
                  clear hrw hb'
                  cases hfk : forkB f.c g.c with
                  | true =>
                    rw [hfk] at HQ
                    have HE : Hid (togE (cos fs) = 82) := (show togE (cos fs) = 82 from by rw [HT.out, forks_yes (i := i) (j := j) (by rw [HcL.out]; exact hil) hjl (by rw [HcI.out, HcJ.out]; exact hfk)]; rfl)
                    clear hfk
                    go_wp2_with (fail)
                    refine wp_region_held_drew (S := (fun w' => w'.rangeAt b (off + i * 7) f.cs ∧ w'.rangeAt b (off + j * 7) g.cs)) (by kernel_rfl) ⟨hcc, hcc0⟩ (fun hHeld => ?_)
                    simp only [Act.put, List.size_toArray, List.length_cons, List.length_nil, Nat.zero_add]
                    refine wpAnyH_take (i := 0) (v := .slice (some ⟨b, off, none⟩) L cp) rfl (by kernel_rfl) (by kernel_rfl) (by kernel_rfl) (fun _ _ _ h => h) (Or.inl ⟨by rfl, fun w' hS => by go_simp⟩) hHeld ?_
                    simp only [Act.put, gA9, gZ9, gC9, sA9, sZ9, sC9]
                    refine wpAnyH_take (i := 1) (v := .int .i64 (i : Int)) rfl (by kernel_rfl) (by kernel_rfl) (by kernel_rfl) (fun _ _ _ h => h) (Or.inl ⟨by rfl, fun w' hS => by go_simp⟩) hHeld ?_
                    simp only [Act.put, gA9, gZ9, gC9, sA9, sZ9, sC9]
                    refine wpAnyH_take (i := 2) (v := .pointer (some ⟨b, off + i * 7, none⟩)) rfl (by kernel_rfl) (by kernel_rfl) (by kernel_rfl) (fun _ _ _ h => h) (Or.inl ⟨by rfl, fun w' hS => by go_simp⟩) hHeld ?_
                    simp only [Act.put, gA9, gZ9, gC9, sA9, sZ9, sC9]
                    refine wpAnyH_take (i := 3) (v := .agg (f.cs).toArray) rfl (by kernel_rfl) (by kernel_rfl) (by kernel_rfl) (fun _ _ _ h => h) (yieldsIf_load_mid (by rfl) 28 (.tmp 65) rfl b (off + i * 7) (by rfl) (f.cs) _ (fun w' hS => hS.1) Try.underlying28 rfl (by rw [Hf7.out]; exact info_flush)) hHeld ?_
                    simp only [Act.put, gA9, gZ9, gC9, sA9, sZ9, sC9]
                    refine wpAnyH_take (i := 4) (v := .slice (some ⟨b, off, none⟩) L cp) rfl (by kernel_rfl) (by kernel_rfl) (by kernel_rfl) (fun _ _ _ h => h) (Or.inl ⟨by rfl, fun w' hS => by go_simp⟩) hHeld ?_
                    simp only [Act.put, gA9, gZ9, gC9, sA9, sZ9, sC9]
                    refine wpAnyH_take (i := 5) (v := .int .i64 (j : Int)) rfl (by kernel_rfl) (by kernel_rfl) (by kernel_rfl) (fun _ _ _ h => h) (Or.inl ⟨by rfl, fun w' hS => by go_simp⟩) hHeld ?_
                    simp only [Act.put, gA9, gZ9, gC9, sA9, sZ9, sC9]
                    refine wpAnyH_take (i := 6) (v := .pointer (some ⟨b, off + j * 7, none⟩)) rfl (by kernel_rfl) (by kernel_rfl) (by kernel_rfl) (fun _ _ _ h => h) (Or.inl ⟨by rfl, fun w' hS => by go_simp⟩) hHeld ?_
                    simp only [Act.put, gA9, gZ9, gC9, sA9, sZ9, sC9]
                    refine wpAnyH_take (i := 7) (v := .agg (g.cs).toArray) rfl (by kernel_rfl) (by kernel_rfl) (by kernel_rfl) (fun _ _ _ h => h) (yieldsIf_load_mid (by rfl) 28 (.tmp 69) rfl b (off + j * 7) (by rfl) (g.cs) _ (fun w' hS => hS.2) Try.underlying28 rfl (by rw [Hg7.out]; exact info_flush)) hHeld ?_
                    simp only [Act.put, gA9, gZ9, gC9, sA9, sZ9, sC9]
                    refine wpAnyH_ready (rs := [8]) (by kernel_rfl) (by simp) ?_
                    refine AllReadyH.cons rfl (fun K hK => ?_) AllReadyH.nil
                    go_simp
                    refine (HQ.out).mono ?_
                    rintro e V2 ⟨rfl, hb2⟩
                    refine hK.out _ _ ⟨fun q v hv => below_at hb2 (hcc q v hv), fun q v hv => below_at hb2 (hcc0 q v hv)⟩ (fun hHeld => ?_)
                    clear hK K
                    refine wpAnyH_take (i := 9) (v := .bool true) rfl (by kernel_rfl) (by kernel_rfl) (by kernel_rfl) (fun _ _ _ h => h) (Or.inl ⟨by rfl, fun w' hS => by go_simp⟩) hHeld ?_
                    simp only [Act.put, gA9, gZ9, gC9, sA9, sZ9, sC9]
                    refine wpAnyH_done (by kernel_rfl) ?_ _
                    clear hHeld
                    go_wp2
                    go_ret
                    exact ⟨congrArg (fun x => Ending.returned (.int .i64 x)) HE.out.symm, bstep HB.out.drew hb2⟩
                  | false =>
                    rw [hfk] at HQ
                    have HM2 : Hid (∀ k, k < j + 1 → forkB ((cos fs).getD i c0) ((cos fs).getD k c0) = false) := fun k hk => by
                      by_cases e : k = j
                      · subst e; rw [HcI.out, HcJ.out]; exact hfk
                      · exact HM.out k (by omega)
                    clear hfk
                    go_wp2_with (fail)
                    refine wp_region_held_drew (S := (fun w' => w'.rangeAt b (off + i * 7) f.cs ∧ w'.rangeAt b (off + j * 7) g.cs)) (by kernel_rfl) ⟨hcc, hcc0⟩ (fun hHeld => ?_)
                    simp only [Act.put, List.size_toArray, List.length_cons, List.length_nil, Nat.zero_add]
                    refine wpAnyH_take (i := 0) (v := .slice (some ⟨b, off, none⟩) L cp) rfl (by kernel_rfl) (by kernel_rfl) (by kernel_rfl) (fun _ _ _ h => h) (Or.inl ⟨by rfl, fun w' hS => by go_simp⟩) hHeld ?_
                    simp only [Act.put, gA9, gZ9, gC9, sA9, sZ9, sC9]
                    refine wpAnyH_take (i := 1) (v := .int .i64 (i : Int)) rfl (by kernel_rfl) (by kernel_rfl) (by kernel_rfl) (fun _ _ _ h => h) (Or.inl ⟨by rfl, fun w' hS => by go_simp⟩) hHeld ?_
                    simp only [Act.put, gA9, gZ9, gC9, sA9, sZ9, sC9]
                    refine wpAnyH_take (i := 2) (v := .pointer (some ⟨b, off + i * 7, none⟩)) rfl (by kernel_rfl) (by kernel_rfl) (by kernel_rfl) (fun _ _ _ h => h) (Or.inl ⟨by rfl, fun w' hS => by go_simp⟩) hHeld ?_
                    simp only [Act.put, gA9, gZ9, gC9, sA9, sZ9, sC9]
                    refine wpAnyH_take (i := 3) (v := .agg (f.cs).toArray) rfl (by kernel_rfl) (by kernel_rfl) (by kernel_rfl) (fun _ _ _ h => h) (yieldsIf_load_mid (by rfl) 28 (.tmp 65) rfl b (off + i * 7) (by rfl) (f.cs) _ (fun w' hS => hS.1) Try.underlying28 rfl (by rw [Hf7.out]; exact info_flush)) hHeld ?_
                    simp only [Act.put, gA9, gZ9, gC9, sA9, sZ9, sC9]
                    refine wpAnyH_take (i := 4) (v := .slice (some ⟨b, off, none⟩) L cp) rfl (by kernel_rfl) (by kernel_rfl) (by kernel_rfl) (fun _ _ _ h => h) (Or.inl ⟨by rfl, fun w' hS => by go_simp⟩) hHeld ?_
                    simp only [Act.put, gA9, gZ9, gC9, sA9, sZ9, sC9]
                    refine wpAnyH_take (i := 5) (v := .int .i64 (j : Int)) rfl (by kernel_rfl) (by kernel_rfl) (by kernel_rfl) (fun _ _ _ h => h) (Or.inl ⟨by rfl, fun w' hS => by go_simp⟩) hHeld ?_
                    simp only [Act.put, gA9, gZ9, gC9, sA9, sZ9, sC9]
                    refine wpAnyH_take (i := 6) (v := .pointer (some ⟨b, off + j * 7, none⟩)) rfl (by kernel_rfl) (by kernel_rfl) (by kernel_rfl) (fun _ _ _ h => h) (Or.inl ⟨by rfl, fun w' hS => by go_simp⟩) hHeld ?_
                    simp only [Act.put, gA9, gZ9, gC9, sA9, sZ9, sC9]
                    refine wpAnyH_take (i := 7) (v := .agg (g.cs).toArray) rfl (by kernel_rfl) (by kernel_rfl) (by kernel_rfl) (fun _ _ _ h => h) (yieldsIf_load_mid (by rfl) 28 (.tmp 69) rfl b (off + j * 7) (by rfl) (g.cs) _ (fun w' hS => hS.2) Try.underlying28 rfl (by rw [Hg7.out]; exact info_flush)) hHeld ?_
                    simp only [Act.put, gA9, gZ9, gC9, sA9, sZ9, sC9]
                    refine wpAnyH_ready (rs := [8]) (by kernel_rfl) (by simp) ?_
                    refine AllReadyH.cons rfl (fun K hK => ?_) AllReadyH.nil
                    go_simp
                    refine (HQ.out).mono ?_
                    rintro e V2 ⟨rfl, hb2⟩
                    refine hK.out _ _ ⟨fun q v hv => below_at hb2 (hcc q v hv), fun q v hv => below_at hb2 (hcc0 q v hv)⟩ (fun hHeld => ?_)
                    clear hK K
                    refine wpAnyH_take (i := 9) (v := .bool false) rfl (by kernel_rfl) (by kernel_rfl) (by kernel_rfl) (fun _ _ _ h => h) (Or.inl ⟨by rfl, fun w' hS => by go_simp⟩) hHeld ?_
                    simp only [Act.put, gA9, gZ9, gC9, sA9, sZ9, sC9]
                    refine wpAnyH_done (by kernel_rfl) ?_ _
                    clear hHeld
                    go_wp2
                    exact ⟨⟨j + 1, by omega, by go_num, HM2.out, bstep HB.out.drew hb2⟩, by simp [intOf]; omega⟩
                · obtain rfl : i = j := by omega
                  have HN2 : Hid (∀ k, k < i + 1 → ∀ j, j < k → forkB ((cos fs).getD k c0) ((cos fs).getD j c0) = false) := fun k hk => by
                    by_cases e : k = i
                    · subst e; exact HM.out
                    · exact HN.out k (by omega)
                  go_wp2
                  exact ⟨⟨i + 1, by omega, by go_num, HN2.out, HB.out⟩, by simp [intOf]; omega⟩
            · obtain rfl : L = i := by omega
              have HE : Hid (togE (cos fs) = 0) := (show togE (cos fs) = 0 from by rw [HT.out, forks_no (fun i hi => HN.out i (by rw [← HcL.out]; exact hi))]; rfl)
              go_wp2
              go_ret
              exact ⟨congrArg (fun x => Ending.returned (.int .i64 x)) HE.out.symm, HB.out⟩
end
end Go.Proofs.Ytihcaopcfhbofaa.Fm
