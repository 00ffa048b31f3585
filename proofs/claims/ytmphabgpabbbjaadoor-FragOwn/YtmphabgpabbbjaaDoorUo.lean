import Derived.Test.YtmphabgpabbbjaaDoorUj
namespace Go.Proofs.YtmphabgpabbbjaaDoor.Fg
open Go.RowKit Mb
set_option linter.unusedVariables false
set_option maxRecDepth 100000
set_option linter.unusedSimpArgs false
section
variable {w w' W : World} {B : Nat}
theorem spl_nil (L : List Int) (o : Nat) : spl L o [] = L := by simp [spl]
theorem spl_set (L : List Int) (o : Nat) (xs : List Int) (x : Int) (h : o + xs.length < L.length) : (spl L o xs).set (o + xs.length) x = spl L o (xs ++ [x]) := by
  unfold spl
  rw [List.set_append_right _ _ (by simp; omega)]
  have e : o + xs.length - (L.take o ++ xs).length = 0 := by simp; omega
  rw [e]
  have e2 : L.drop (o + xs.length) = L[o + xs.length] :: L.drop (o + xs.length + 1) := List.drop_eq_getElem_cons h
  rw [e2, List.set_cons_zero]
  simp [Nat.add_assoc]
theorem spl_app (L : List Int) (o : Nat) (xs ys : List Int) (h : o + xs.length + ys.length ≤ L.length) : spl (spl L o xs) (o + xs.length) ys = spl L o (xs ++ ys) := by
  unfold spl
  have h1 : (L.take o ++ xs).length = o + xs.length := by simp; omega
  rw [List.take_append_of_le_length (by omega), List.take_of_length_le (by omega)]
  rw [List.drop_append, h1, List.drop_of_length_le (by omega), List.nil_append, List.drop_drop]
  simp [Nat.add_assoc]
theorem be_at (n k i : Nat) (h : i < k) : (be n k).getD i 0 = ((n / 256 ^ (k - 1 - i) % 256 : Nat) : Int) := by simp [be, List.getD, h]
theorem be_take (n k i : Nat) (h : i < k) : (be n k).take (i + 1) = (be n k).take i ++ [((n / 256 ^ (k - 1 - i) % 256 : Nat) : Int)] := by
  have hl : i < (be n k).length := by rw [be_len]; exact h
  rw [List.take_succ_eq_append_getElem hl]
  congr 2
  have := be_at n k i h
  simpa [List.getD, hl] using this
theorem shr_be (n k i : Nat) (h : i < k) : ((n : Int) / 2 ^ (8 * (k - 1 - i))) % 256 = ((n / 256 ^ (k - 1 - i) % 256 : Nat) : Int) := by
  rw [show (2 : Int) ^ (8 * (k - 1 - i)) = ((256 ^ (k - 1 - i) : Nat) : Int) from by rw [Int.pow_mul]; push_cast; rfl]
  push_cast
  rfl
set_option maxHeartbeats 1000000 in
theorem putNumber_any {g o k c n : Nat} {L : List Int} (h : Bk w g L) (hk : k ≤ 4) (ho : o + k ≤ L.length) (hn : n < 4294967296) : Calls Tryd.prog 34 #[.slice (some ⟨g, o, none⟩) k c, .int .i64 (n : Int)] w fun e w' => e = .returned (.tuple #[]) ∧ Bk w' g (spl L o (be n k)) ∧ Kept w w' (fun j => j = g) := by
  have Hh : Hid (Bk w g L) := h
  clear h
  go_enter Tryd.func34, Tryd.ntmps34
  go_wp2
  go_loopw [7] (fun v wr => ∃ i : Nat, i ≤ k ∧ v = .int .i64 (i : Int) ∧ Hid (Bk wr g (spl L o ((be n k).take i))) ∧ Hid (Kept w wr (fun j => j = g))) (fun v _ => k - (intOf v).toNat)
  case atStart => exact ⟨0, Nat.zero_le _, rfl, by simp only [List.take_zero, spl_nil]; exact Hh, Kept.refl _ _⟩
  case round =>
    obtain ⟨i, hi, rfl, hb, hkp⟩ := hrel
    by_cases hlt : i < k
    · have hbl := be_len n k
      have hsl : (spl L o ((be n k).take i)).length = L.length := spl_len _ _ _ (by rw [List.length_take]; omega)
      have hc := hb.out.cell (i := o + i) (by rw [hsl]; omega)
      have hf := hb.out.fz (o + i)
      have hsh := shr_be n k i hlt
      have e1 : ((be n k).take i).length = i := by rw [List.length_take, hbl]; omega
      have HB : Hid (∀ x : Int, x = ((n / 256 ^ (k - 1 - i) % 256 : Nat) : Int) → Bk (wr.setCell ⟨g, o + i, none⟩ (.int .u8 x)) g (spl L o ((be n k).take (i + 1)))) := fun x hx => by
        subst hx
        have hs := hb.out.set (o + i) ((n / 256 ^ (k - 1 - i) % 256 : Nat) : Int)
        have e2 := spl_set L o ((be n k).take i) ((n / 256 ^ (k - 1 - i) % 256 : Nat) : Int) (by rw [e1]; omega)
        rw [e1] at e2
        rw [e2, ← be_take n k i hlt] at hs
        exact hs
      generalize (spl L o ((be n k).take i)).getD (o + i) 0 = y at hc
      clear hsl hbl e1 hb
      generalize ((n / 256 ^ (k - 1 - i) % 256 : Nat) : Int) = z at *
      go_wp2
      exact ⟨⟨i + 1, by omega, by go_num, HB.out _ (by first | rfl | exact hsh), hkp.out.trans (kset wr g _ _ rfl)⟩, by simp [intOf]; omega⟩
    · obtain rfl : i = k := by omega
      go_wp2
      go_end0
      refine ⟨rfl, ?_, hkp.out⟩
      have := hb.out
      rw [List.take_of_length_le (by rw [be_len]; omega)] at this
      exact this
def hdB (s p q : Nat) : List Int := be s 2 ++ (be p 2 ++ be q 4)
theorem hdB_len (s p q : Nat) : (hdB s p q).length = 8 := by simp [hdB, be_len]
theorem hdB_by (s p q : Nat) : By (hdB s p q) := (be_by _ _).append ((be_by _ _).append (be_by _ _))
set_option maxHeartbeats 1000000 in
theorem put_any {g o l s p q : Nat} {L : List Int} (h : Bk w g L) (hl : 8 ≤ l) (hll : l ≤ 1000000) (ho : o + 8 ≤ L.length) (hs : s < 65536) (hp : p < 65536) (hq : q < 4294967296) : Calls Tryd.prog 29 #[.agg #[.int .i64 (s : Int), .int .i64 (p : Int), .int .i64 (q : Int)], .slice (some ⟨g, o, none⟩) l l] w fun e w' => e = .returned (.tuple #[]) ∧ Bk w' g (spl L o (hdB s p q)) ∧ Kept w w' (fun j => j = g) := by
  generalize hW : w.alloc (.cells #[.int .i64 (s : Int), .int .i64 (p : Int), .int .i64 (q : Int)] 59) = W
  have hbW : Below w.heap.size w W := by rw [← hW]; exact balloc (Below.refl _ w)
  have hblk : W.heap[w.heap.size]? = some (.cells #[.int .i64 (s : Int), .int .i64 (p : Int), .int .i64 (q : Int)] 59 (0, 0)) := by rw [← hW]; exact heap_alloc_new w _
  have hgl := h.lt
  have HB0 : Hid (Bk W g L) := h.still hbW
  clear h
  generalize hkd : w.heap.size = kd at *
  have x0 : W.cell? ⟨kd, 0, none⟩ = some (.int .i64 (s : Int)) := blk_cell hblk 0
  have x1 : W.cell? ⟨kd, 1, none⟩ = some (.int .i64 (p : Int)) := blk_cell hblk 1
  have x2 : W.cell? ⟨kd, 2, none⟩ = some (.int .i64 (q : Int)) := blk_cell hblk 2
  have q2 : (2 : Int) ≤ (l : Int) := by omega
  have q4 : (4 : Int) ≤ (l : Int) := by omega
  have q8 : (8 : Int) ≤ (l : Int) := by omega
  have n2 : ¬ l = 2 := by omega
  have n4 : ¬ l = 4 := by omega
  have hne : kd ≠ g := by omega
  have HbW : Hid (Below kd w W) := hbW
  clear hblk hbW
  go_enter Tryd.func29, Tryd.ntmps29
  go_wp2_with fail
  clear hW
  refine wp_region_held_drew (S := (fun w' => w'.cell? ⟨kd, 0, none⟩ = some (.int .i64 (s : Int)) ∧ w'.cell? ⟨kd, 1, none⟩ = some (.int .i64 (p : Int)) ∧ w'.cell? ⟨kd, 2, none⟩ = some (.int .i64 (q : Int)))) (by kernel_rfl) ⟨(below_at (Below.refl _ _).drew x0), (below_at (Below.refl _ _).drew x1), (below_at (Below.refl _ _).drew x2)⟩ (fun hHeld => ?_)
  simp only [Act.put, List.size_toArray, List.length_cons, List.length_nil, Nat.zero_add]
  refine wpAnyH_take (i := 0) (v := .slice (some ⟨g, o, none⟩) l l) rfl (by kernel_rfl) (by kernel_rfl) (by kernel_rfl) (fun _ _ _ h => h) (Or.inl ⟨by rfl, fun w' hS => by go_simp⟩) hHeld ?_
  simp only [Act.put, List.getElem_toArray, List.getElem_cons_zero, List.getElem_cons_succ, List.setIfInBounds_toArray, List.set_cons_zero, List.set_cons_succ]
  refine wpAnyH_take (i := 1) (v := .slice (some ⟨g, o, none⟩) 2 l) rfl (by kernel_rfl) (by kernel_rfl) (by kernel_rfl) (fun _ _ _ h => h) (Or.inl ⟨by rfl, fun w' hS => by go_simp⟩) hHeld ?_
  simp only [Act.put, List.getElem_toArray, List.getElem_cons_zero, List.getElem_cons_succ, List.setIfInBounds_toArray, List.set_cons_zero, List.set_cons_succ]
  refine wpAnyH_take (i := 2) (v := .pointer (some ⟨kd, 0, none⟩)) rfl (by kernel_rfl) (by kernel_rfl) (by kernel_rfl) (fun _ _ _ h => h) (Or.inl ⟨by rfl, fun w' hS => by go_simp⟩) hHeld ?_
  simp only [Act.put, List.getElem_toArray, List.getElem_cons_zero, List.getElem_cons_succ, List.setIfInBounds_toArray, List.set_cons_zero, List.set_cons_succ]
  refine wpAnyH_take (i := 3) (v := .int .i64 (s : Int)) rfl (by kernel_rfl) (by kernel_rfl) (by kernel_rfl) (fun _ _ _ h => h) (Or.inl ⟨by rfl, fun w' hS => by (obtain ⟨s0, s1, s2⟩ := hS; go_simp)⟩) hHeld ?_
  simp only [Act.put, List.getElem_toArray, List.getElem_cons_zero, List.getElem_cons_succ, List.setIfInBounds_toArray, List.set_cons_zero, List.set_cons_succ]
  refine wpAnyH_ready (rs := [4]) (by kernel_rfl) (by simp) ?_
  refine AllReadyH.cons rfl (fun K hK => ?_) AllReadyH.nil
  go_simp
  have hd0 : Below W.heap.size W W.drew := (Below.refl _ _).drew
  refine (putNumber_any (k := 2) (o := o) (HB0.out.still hd0) (by omega) (by omega) (by omega)).mono ?_
  rintro e W1 ⟨rfl, hB0, hK0⟩
  have y0 := kept_cell hK0 hne (below_at hd0 x0)
  have y1 := kept_cell hK0 hne (below_at hd0 x1)
  have y2 := kept_cell hK0 hne (below_at hd0 x2)
  have HB1 : Hid (Bk W1 g (spl L o (be s 2))) := hB0
  have Hk0 : Hid (Kept W W1 (fun j => j = g)) := (Kept.ofBelow hd0 _).trans hK0
  refine hK.out _ _ ⟨y0, y1, y2⟩ (fun hHeld => ?_)
  clear hK K hB0 hK0 hd0
  refine wpAnyH_done (by kernel_rfl) ?_ _
  clear hHeld x0 x1 x2
  have x1 := y1
  have x2 := y2
  clear y0 y1 y2
  have hl1 : (spl L o (be s 2)).length = L.length := spl_len _ _ _ (by rw [be_len]; omega)
  go_wp2_with fail
  refine wp_region_held_drew (S := (fun w' => w'.cell? ⟨kd, 1, none⟩ = some (.int .i64 (p : Int)) ∧ w'.cell? ⟨kd, 2, none⟩ = some (.int .i64 (q : Int)))) (by kernel_rfl) ⟨(below_at (Below.refl _ _).drew x1), (below_at (Below.refl _ _).drew x2)⟩ (fun hHeld => ?_)
  simp only [Act.put, List.size_toArray, List.length_cons, List.length_nil, Nat.zero_add]
  refine wpAnyH_take (i := 0) (v := .slice (some ⟨g, o, none⟩) l l) rfl (by kernel_rfl) (by kernel_rfl) (by kernel_rfl) (fun _ _ _ h => h) (Or.inl ⟨by rfl, fun w' hS => by go_simp⟩) hHeld ?_
  simp only [Act.put, List.getElem_toArray, List.getElem_cons_zero, List.getElem_cons_succ, List.setIfInBounds_toArray, List.set_cons_zero, List.set_cons_succ]
  refine wpAnyH_take (i := 1) (v := .slice (some ⟨g, o + 2, none⟩) 2 (l - 2)) rfl (by kernel_rfl) (by kernel_rfl) (by kernel_rfl) (fun _ _ _ h => h) (Or.inl ⟨by rfl, fun w' hS => by go_simp⟩) hHeld ?_
  simp only [Act.put, List.getElem_toArray, List.getElem_cons_zero, List.getElem_cons_succ, List.setIfInBounds_toArray, List.set_cons_zero, List.set_cons_succ]
  refine wpAnyH_take (i := 2) (v := .pointer (some ⟨kd, 1, none⟩)) rfl (by kernel_rfl) (by kernel_rfl) (by kernel_rfl) (fun _ _ _ h => h) (Or.inl ⟨by rfl, fun w' hS => by go_simp⟩) hHeld ?_
  simp only [Act.put, List.getElem_toArray, List.getElem_cons_zero, List.getElem_cons_succ, List.setIfInBounds_toArray, List.set_cons_zero, List.set_cons_succ]
  refine wpAnyH_take (i := 3) (v := .int .i64 (p : Int)) rfl (by kernel_rfl) (by kernel_rfl) (by kernel_rfl) (fun _ _ _ h => h) (Or.inl ⟨by rfl, fun w' hS => by (obtain ⟨s1, s2⟩ := hS; go_simp)⟩) hHeld ?_
  simp only [Act.put, List.getElem_toArray, List.getElem_cons_zero, List.getElem_cons_succ, List.setIfInBounds_toArray, List.set_cons_zero, List.set_cons_succ]
  refine wpAnyH_ready (rs := [4]) (by kernel_rfl) (by simp) ?_
  refine AllReadyH.cons rfl (fun K hK => ?_) AllReadyH.nil
  go_simp
  have hd1 : Below W1.heap.size W1 W1.drew := (Below.refl _ _).drew
  refine (putNumber_any (k := 2) (o := o + 2) (HB1.out.still hd1) (by omega) (by rw [hl1]; omega) (by omega)).mono ?_
  rintro e W2 ⟨rfl, hB1, hK1⟩
  have y1 := kept_cell hK1 hne (below_at hd1 x1)
  have y2 := kept_cell hK1 hne (below_at hd1 x2)
  have HB2 : Hid (Bk W2 g (spl (spl L o (be s 2)) (o + 2) (be p 2))) := hB1
  have Hk1 : Hid (Kept W1 W2 (fun j => j = g)) := (Kept.ofBelow hd1 _).trans hK1
  refine hK.out _ _ ⟨y1, y2⟩ (fun hHeld => ?_)
  clear hK K hB1 hK1 hd1
  refine wpAnyH_done (by kernel_rfl) ?_ _
  clear hHeld x1 x2
  have x2 := y2
  clear y1 y2
  have hl2 : (spl (spl L o (be s 2)) (o + 2) (be p 2)).length = L.length := by rw [spl_len _ _ _ (by rw [be_len, hl1]; omega), hl1]
  go_wp2_with fail
  refine wp_region_held_drew (S := (fun w' => w'.cell? ⟨kd, 2, none⟩ = some (.int .i64 (q : Int)))) (by kernel_rfl) (below_at (Below.refl _ _).drew x2) (fun hHeld => ?_)
  simp only [Act.put, List.size_toArray, List.length_cons, List.length_nil, Nat.zero_add]
  refine wpAnyH_take (i := 0) (v := .slice (some ⟨g, o, none⟩) l l) rfl (by kernel_rfl) (by kernel_rfl) (by kernel_rfl) (fun _ _ _ h => h) (Or.inl ⟨by rfl, fun w' hS => by go_simp⟩) hHeld ?_
  simp only [Act.put, List.getElem_toArray, List.getElem_cons_zero, List.getElem_cons_succ, List.setIfInBounds_toArray, List.set_cons_zero, List.set_cons_succ]
  refine wpAnyH_take (i := 1) (v := .slice (some ⟨g, o + 4, none⟩) 4 (l - 4)) rfl (by kernel_rfl) (by kernel_rfl) (by kernel_rfl) (fun _ _ _ h => h) (Or.inl ⟨by rfl, fun w' hS => by go_simp⟩) hHeld ?_
  simp only [Act.put, List.getElem_toArray, List.getElem_cons_zero, List.getElem_cons_succ, List.setIfInBounds_toArray, List.set_cons_zero, List.set_cons_succ]
  refine wpAnyH_take (i := 2) (v := .pointer (some ⟨kd, 2, none⟩)) rfl (by kernel_rfl) (by kernel_rfl) (by kernel_rfl) (fun _ _ _ h => h) (Or.inl ⟨by rfl, fun w' hS => by go_simp⟩) hHeld ?_
  simp only [Act.put, List.getElem_toArray, List.getElem_cons_zero, List.getElem_cons_succ, List.setIfInBounds_toArray, List.set_cons_zero, List.set_cons_succ]
  refine wpAnyH_take (i := 3) (v := .int .i64 (q : Int)) rfl (by kernel_rfl) (by kernel_rfl) (by kernel_rfl) (fun _ _ _ h => h) (Or.inl ⟨by rfl, fun w' hS => by (obtain s2 := hS; go_simp)⟩) hHeld ?_
  simp only [Act.put, List.getElem_toArray, List.getElem_cons_zero, List.getElem_cons_succ, List.setIfInBounds_toArray, List.set_cons_zero, List.set_cons_succ]
  refine wpAnyH_ready (rs := [4]) (by kernel_rfl) (by simp) ?_
  refine AllReadyH.cons rfl (fun K hK => ?_) AllReadyH.nil
  go_simp
  have hd2 : Below W2.heap.size W2 W2.drew := (Below.refl _ _).drew
  refine (putNumber_any (k := 4) (o := o + 4) (HB2.out.still hd2) (by omega) (by rw [hl2]; omega) (by omega)).mono ?_
  rintro e W3 ⟨rfl, hB2, hK2⟩
  have y2 := kept_cell hK2 hne (below_at hd2 x2)
  have HB3 : Hid (Bk W3 g (spl (spl (spl L o (be s 2)) (o + 2) (be p 2)) (o + 4) (be q 4))) := hB2
  have Hk2 : Hid (Kept W2 W3 (fun j => j = g)) := (Kept.ofBelow hd2 _).trans hK2
  refine hK.out _ _ y2 (fun hHeld => ?_)
  clear hK K hB2 hK2 hd2
  refine wpAnyH_done (by kernel_rfl) ?_ _
  clear hHeld x2
  clear y2
  have HF : Hid (Bk W3 g (spl L o (hdB s p q))) := (show Bk W3 g (spl L o (hdB s p q)) from by
    have h3 := HB3.out
    have e1 := spl_app L o (be s 2) (be p 2) (by rw [be_len, be_len]; omega)
    rw [be_len] at e1
    rw [e1] at h3
    have e2 := spl_app L o (be s 2 ++ be p 2) (be q 4) (by simp only [List.length_append, be_len]; omega)
    simp only [List.length_append, be_len] at e2
    rw [e2, List.append_assoc] at h3
    exact h3)
  go_wp2
  go_end0
  exact ⟨rfl, HF.out, ((Kept.ofBelow (by rw [hkd]; exact HbW.out) _).trans ((Hk0.out.trans Hk1.out).trans Hk2.out))⟩
end
end Go.Proofs.YtmphabgpabbbjaaDoor.Fg
