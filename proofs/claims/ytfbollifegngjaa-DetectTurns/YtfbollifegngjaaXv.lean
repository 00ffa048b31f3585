import Derived.Test.YtfbollifegngjaaXu
import Derived.Test.YtfbollifegngjaaXe
namespace Go.Proofs.Ytfbollifegngjaa.Dt
open Go.RowKit
set_option linter.unusedVariables false
set_option maxRecDepth 100000
set_option linter.unusedSimpArgs false
section
variable {D D' : De} {R R' : Rf} {w w' W V : World} {B m : Nat}
theorem two_drew {v1 v2 : Value} (h : Two w v1 v2) : Two w.drew v1 v2 := by
  obtain ⟨a1, a2, n, c1, c2, xs, e1, e2, r1, r2, h17⟩ := h
  exact ⟨a1, a2, n, c1, c2, xs, e1, e2, r1.still (Below.refl _ _).drew, r2.still (Below.refl _ _).drew, h17⟩
def Lis (w w' : World) (e : Ending) : Prop := ∃ v1 v2, e = .returned (.tuple #[v1, v2, .bool true]) ∧ Two w' v1 v2 ∧ (∃ xs : List Int, w'.ownsRow w.heap.size 3 1 v1 xs.length (ints xs) ∧ xs.length ≤ 16) ∧ Below w.heap.size w w'
set_option maxHeartbeats 1000000 in
theorem listed_of (kd : Int) (h4 : (kd == 4) = false) (H : Calls Try.prog 35 #[.pointer (some ⟨D.b, 0, none⟩), .pointer (some ⟨R.b, 0, none⟩), .int .i64 kd] w fun e w' => ∃ v1 v2, e = .returned (.tuple #[v1, v2]) ∧ Two w' v1 v2 ∧ (∃ xs : List Int, w'.ownsRow w.heap.size 3 1 v1 xs.length (ints xs) ∧ xs.length ≤ 16) ∧ Below w.heap.size w w') : Calls Try.prog 32 #[.pointer (some ⟨D.b, 0, none⟩), .pointer (some ⟨R.b, 0, none⟩), .int .i64 kd] w fun e w' => Lis w w' e := by
  have h4' : ¬ kd = 4 := fun e => by rw [e] at h4; exact absurd h4 (by decide)
  clear h4
  go_enter Try.func32, Try.ntmps32
  go_wp2_with (fail)
  refine H.mono ?_
  rintro e w1 ⟨v1, v2, rfl, ht, hx, hb⟩
  have HF : Hid (Two w1 v1 v2 ∧ (∃ xs : List Int, w1.ownsRow w.heap.size 3 1 v1 xs.length (ints xs) ∧ xs.length ≤ 16) ∧ Below w.heap.size w w1) := ⟨ht, hx, hb⟩
  clear ht hx hb H
  go_wp2
  go_ret3
  exact ⟨_, _, rfl, HF.out⟩
set_option maxHeartbeats 2000000 in
theorem listed_beat (h : Du D R w B m) (hm : m ≤ 2513169434917) : Calls Try.prog 32 #[.pointer (some ⟨D.b, 0, none⟩), .pointer (some ⟨R.b, 0, none⟩), .int .i64 4] w fun e w' => Lis w w' e := by
  have hlen := h.len
  have h16 := h.r.num
  have heq := h.sim.hears (h.sim.deaf h.r)
  have htt : (R.tk : Int) = D.tick := h.sim.tick.symm
  have H1 := beat_any h.d
  have H2 : Hid (∀ w', Below w.heap.size w w' → Calls Try.prog 45 #[.pointer (some ⟨R.b, 0, none⟩)] w' fun e w2 => ∃ v, e = .returned (.agg #[.int .i64 (R.tk : Int), v]) ∧ w2.ownsRow w'.heap.size 3 1 v (R.hears R.n).length (ints (R.hears R.n)) ∧ Below w'.heap.size w' w2) := fun w' hb => rbeat_any (h.r.still hb) (by omega)
  have hdn : D.n = R.n := h.sim.n
  have hxl : (R.hears R.n).length = D.n := by rw [hdn]; simp [Rf.hears]
  clear h
  rw [heq] at H1
  rw [htt] at H2
  generalize R.hears R.n = xs at *
  generalize D.tick = ta at *
  generalize D.n = n at *
  have h1n : 1 ≤ n := by omega
  have hn16 : n ≤ 16 := by omega
  rw [hxl] at H2
  clear htt heq hdn
  go_enter Try.func32, Try.ntmps32
  go_wp2_with (fail)
  refine H1.mono ?_
  rintro e w1 ⟨v1, rfl, ga, rfl, hg1, ho1, hb1⟩
  generalize hA1 : w1.alloc (.cells #[.int .i64 ta, .slice (some ⟨ga, 0, none⟩) n n] 38) = A1
  have hbA : Below w1.heap.size w1 A1 := by rw [← hA1]; exact balloc (Below.refl _ w1)
  have hkA : A1.heap[w1.heap.size]? = some (.cells #[.int .i64 ta, .slice (some ⟨ga, 0, none⟩) n n] 38 (0, 0)) := by rw [← hA1]; exact heap_alloc_new w1 _
  have BA : Hid (Below w.heap.size w A1) := bstep hb1 hbA
  have OA : Hid (w.heap.size ≤ ga ∧ BlkI A1 ga xs) := ⟨hg1, ho1.still hbA⟩
  obtain ⟨ba, hba⟩ : ∃ g, w1.heap.size = g := ⟨_, rfl⟩
  rw [hba] at hkA
  have KA : Hid (A1.heap[ba]? = some (.cells #[.int .i64 ta, .slice (some ⟨ga, 0, none⟩) n n] 38 (0, 0))) := hkA
  clear hg1 ho1 hb1 hbA hkA
  go_wp2_with (fail)
  refine (H2.out _ BA.out).mono ?_
  rintro e w2 ⟨v2, rfl, ho2, hb2⟩
  obtain ⟨av, cb, hv⟩ := own_slice0 ho2
  subst hv
  generalize hA2 : w2.alloc (.cells #[.int .i64 ta, (.slice av n cb)] 38) = V
  have hbV : Below w2.heap.size w2 V := by rw [← hA2]; exact balloc (Below.refl _ w2)
  have hkV : V.heap[w2.heap.size]? = some (.cells #[.int .i64 ta, (.slice av n cb)] 38 (0, 0)) := by rw [← hA2]; exact heap_alloc_new w2 _
  have hbAV : Below A1.heap.size A1 V := bstep hb2 hbV
  have KAV := (hbAV.block _ (lt_heap KA.out)).trans KA.out
  have HF : Hid (Two V (.slice (some ⟨ga, 0, none⟩) n n) (.slice av n cb) ∧ (∃ xs : List Int, V.ownsRow w.heap.size 3 1 (.slice (some ⟨ga, 0, none⟩) n n) xs.length (ints xs) ∧ xs.length ≤ 16) ∧ Below w.heap.size w V) := by
    have o1 : V.ownsRow w.heap.size 3 1 (.slice (some ⟨ga, 0, none⟩) n n) n (ints xs) := (OA.out.2.still hbAV).own OA.out.1 hxl (by unfold maxLen; omega)
    rw [← hxl] at o1 ho2
    refine ⟨?_, ⟨xs, ?_, by omega⟩, bstep BA.out hbAV⟩
    · rw [← hxl]; exact Two.of o1 (own_still ho2 hbV) (by omega)
    · rw [← hxl]; exact o1
  obtain ⟨bb, hbb⟩ : ∃ g, w2.heap.size = g := ⟨_, rfl⟩
  rw [hbb] at hkV
  have a0 : V.cell? ⟨ba, 0, none⟩ = some (.int .i64 ta) := blk_cell KAV 0
  have a1 : V.cell? ⟨ba, 1, none⟩ = some (.slice (some ⟨ga, 0, none⟩) n n) := blk_cell KAV 1
  have b0 : V.cell? ⟨bb, 0, none⟩ = some (.int .i64 ta) := blk_cell hkV 0
  have b1 : V.cell? ⟨bb, 1, none⟩ = some (.slice av n cb) := blk_cell hkV 1
  clear ho2 hb2 hbV hkV hbAV KAV
  go_wp2
  clear hba hbb hA1 hA2
  refine wp_region_held_drew (S := (fun w' => w'.cell? ⟨ba, 0, none⟩ = some (.int .i64 ta) ∧ w'.cell? ⟨ba, 1, none⟩ = some (.slice (some ⟨ga, 0, none⟩) n n) ∧ w'.cell? ⟨bb, 0, none⟩ = some (.int .i64 ta) ∧ w'.cell? ⟨bb, 1, none⟩ = some ((.slice av n cb)))) (by kernel_rfl) ⟨cell_drew a0, cell_drew a1, cell_drew b0, cell_drew b1⟩ (fun hHeld => ?_)
  simp only [Act.put, List.size_toArray, List.length_cons, List.length_nil, Nat.zero_add]
  refine wpAnyH_take (i := 0) (v := .pointer (some ⟨ba, 1, none⟩)) rfl (by kernel_rfl) (by kernel_rfl) (by kernel_rfl) (fun _ _ _ h => h) (Or.inl ⟨by rfl, fun w' hS => by go_simp⟩) hHeld ?_
  simp only [Act.put, List.getElem_toArray, List.getElem_cons_zero, List.getElem_cons_succ, List.setIfInBounds_toArray, List.set_cons_zero, List.set_cons_succ]
  refine wpAnyH_take (i := 1) (v := .slice (some ⟨ga, 0, none⟩) n n) rfl (by kernel_rfl) (by kernel_rfl) (by kernel_rfl) (fun _ _ _ h => h) (Or.inl ⟨by rfl, fun w' hS => by (obtain ⟨s0, s1, s2, s3⟩ := hS; go_simp)⟩) hHeld ?_
  simp only [Act.put, List.getElem_toArray, List.getElem_cons_zero, List.getElem_cons_succ, List.setIfInBounds_toArray, List.set_cons_zero, List.set_cons_succ]
  refine wpAnyH_take (i := 2) (v := .pointer (some ⟨bb, 1, none⟩)) rfl (by kernel_rfl) (by kernel_rfl) (by kernel_rfl) (fun _ _ _ h => h) (Or.inl ⟨by rfl, fun w' hS => by go_simp⟩) hHeld ?_
  simp only [Act.put, List.getElem_toArray, List.getElem_cons_zero, List.getElem_cons_succ, List.setIfInBounds_toArray, List.set_cons_zero, List.set_cons_succ]
  refine wpAnyH_take (i := 3) (v := (.slice av n cb)) rfl (by kernel_rfl) (by kernel_rfl) (by kernel_rfl) (fun _ _ _ h => h) (Or.inl ⟨by rfl, fun w' hS => by (obtain ⟨s0, s1, s2, s3⟩ := hS; go_simp)⟩) hHeld ?_
  simp only [Act.put, List.getElem_toArray, List.getElem_cons_zero, List.getElem_cons_succ, List.setIfInBounds_toArray, List.set_cons_zero, List.set_cons_succ]
  refine wpAnyH_take (i := 4) (v := .pointer (some ⟨ba, 0, none⟩)) rfl (by kernel_rfl) (by kernel_rfl) (by kernel_rfl) (fun _ _ _ h => h) (Or.inl ⟨by rfl, fun w' hS => by go_simp⟩) hHeld ?_
  simp only [Act.put, List.getElem_toArray, List.getElem_cons_zero, List.getElem_cons_succ, List.setIfInBounds_toArray, List.set_cons_zero, List.set_cons_succ]
  refine wpAnyH_take (i := 5) (v := .int .i64 ta) rfl (by kernel_rfl) (by kernel_rfl) (by kernel_rfl) (fun _ _ _ h => h) (Or.inl ⟨by rfl, fun w' hS => by (obtain ⟨s0, s1, s2, s3⟩ := hS; go_simp)⟩) hHeld ?_
  simp only [Act.put, List.getElem_toArray, List.getElem_cons_zero, List.getElem_cons_succ, List.setIfInBounds_toArray, List.set_cons_zero, List.set_cons_succ]
  refine wpAnyH_take (i := 6) (v := .pointer (some ⟨bb, 0, none⟩)) rfl (by kernel_rfl) (by kernel_rfl) (by kernel_rfl) (fun _ _ _ h => h) (Or.inl ⟨by rfl, fun w' hS => by go_simp⟩) hHeld ?_
  simp only [Act.put, List.getElem_toArray, List.getElem_cons_zero, List.getElem_cons_succ, List.setIfInBounds_toArray, List.set_cons_zero, List.set_cons_succ]
  refine wpAnyH_take (i := 7) (v := .int .i64 ta) rfl (by kernel_rfl) (by kernel_rfl) (by kernel_rfl) (fun _ _ _ h => h) (Or.inl ⟨by rfl, fun w' hS => by (obtain ⟨s0, s1, s2, s3⟩ := hS; go_simp)⟩) hHeld ?_
  simp only [Act.put, List.getElem_toArray, List.getElem_cons_zero, List.getElem_cons_succ, List.setIfInBounds_toArray, List.set_cons_zero, List.set_cons_succ]
  refine wpAnyH_take (i := 8) (v := .bool true) rfl (by kernel_rfl) (by kernel_rfl) (by kernel_rfl) (fun _ _ _ h => h) (Or.inl ⟨by rfl, fun w' hS => by go_simp⟩) hHeld ?_
  simp only [Act.put, List.getElem_toArray, List.getElem_cons_zero, List.getElem_cons_succ, List.setIfInBounds_toArray, List.set_cons_zero, List.set_cons_succ]
  refine wpAnyH_take (i := 9) (v := .slice (some ⟨ga, 0, none⟩) n n) rfl (by kernel_rfl) (by kernel_rfl) (by kernel_rfl) (fun _ _ _ h => h) (Or.inl ⟨by rfl, fun w' hS => by go_simp⟩) hHeld ?_
  simp only [Act.put, List.getElem_toArray, List.getElem_cons_zero, List.getElem_cons_succ, List.setIfInBounds_toArray, List.set_cons_zero, List.set_cons_succ]
  refine wpAnyH_take (i := 10) (v := (.slice av n cb)) rfl (by kernel_rfl) (by kernel_rfl) (by kernel_rfl) (fun _ _ _ h => h) (Or.inl ⟨by rfl, fun w' hS => by go_simp⟩) hHeld ?_
  simp only [Act.put, List.getElem_toArray, List.getElem_cons_zero, List.getElem_cons_succ, List.setIfInBounds_toArray, List.set_cons_zero, List.set_cons_succ]
  refine wpAnyH_take (i := 11) (v := .bool true) rfl (by kernel_rfl) (by kernel_rfl) (by kernel_rfl) (fun _ _ _ h => h) (Or.inl ⟨by rfl, fun w' hS => by go_simp⟩) hHeld ?_
  simp only [Act.put, List.getElem_toArray, List.getElem_cons_zero, List.getElem_cons_succ, List.setIfInBounds_toArray, List.set_cons_zero, List.set_cons_succ]
  refine wpAnyH_done (by kernel_rfl) ?_ _
  clear hHeld
  go_wp2
  go_ret3
  exact ⟨_, _, rfl, by have ⟨f1, ⟨ys, f2, f4⟩, f3⟩ := HF.out; exact ⟨two_drew f1, ⟨ys, own_still f2 (Below.refl _ _).drew, f4⟩, f3.drew⟩⟩
theorem listed_any (h : Du D R w B m) (hm : m ≤ 2513169434917) (kd : Int) (h1 : 4 ≤ kd) (h2 : kd ≤ 7) : Calls Try.prog 32 #[.pointer (some ⟨D.b, 0, none⟩), .pointer (some ⟨R.b, 0, none⟩), .int .i64 kd] w fun e w' => Lis w w' e := by
  have : kd = 4 ∨ kd = 5 ∨ kd = 6 ∨ kd = 7 := by omega
  rcases this with rfl | rfl | rfl | rfl
  · exact listed_beat h hm
  · exact listed_of 5 (by decide) (list2_hears h hm)
  · exact listed_of 6 (by decide) (list2_ests h hm)
  · exact listed_of 7 (by decide) (list2_sus h hm)
end
end Go.Proofs.Ytfbollifegngjaa.Dt
