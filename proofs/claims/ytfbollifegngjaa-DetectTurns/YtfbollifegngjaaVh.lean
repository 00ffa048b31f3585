import Derived.Test.YtfbollifegngjaaVg
namespace Go.Proofs.Ytfbollifegngjaa.Dt
open Go.RowKit
set_option linter.unusedVariables false
set_option maxRecDepth 100000
set_option linter.unusedSimpArgs false
section
variable {D D' : De} {w w' W V : World} {B m : Nat}

set_option maxHeartbeats 1000000 in
theorem heard_ok3 (h : D.Ok w B m) (q inc t : Int) {ao : Option Addr} {n c : Nat} {xs : List Int} (hr : RdI w ao n xs) (hyes : D.okArg q inc t xs = true) (hap : ∀ g, (∃ o, ao = some ⟨g, o, none⟩) → ¬ D.own g) (ho : inc = (D.pe q.toNat).known) (hle : (D.pe q.toNat).last < t) (hh : (D.pe q.toNat).heard = true) : Calls Try.prog 11 #[.pointer (some ⟨D.b, 0, none⟩), .int .i64 q, .int .i64 inc, .agg #[.int .i64 t, .slice ao n c]] w fun e w' => e = .returned (.int .i64 0) ∧ Dtep w w' D (D.set q.toNat { (D.pe q.toNat).got inc t with heard := !D.left, both := decide (xs.getD D.self 0 = D.inc) }) B m := by
  have hr0 := hr
  have hf0 : D.fits t xs = true := by
    unfold De.okArg at hyes
    simp only [Bool.and_eq_true] at hyes
    exact hyes.2.2
  generalize hW : w.alloc (.cells #[.int .i64 t, .slice ao n c] 38) = W
  have hbW : Below w.heap.size w W := by rw [← hW]; exact balloc (Below.refl _ w)
  have hblk : W.heap[w.heap.size]? = some (.cells #[.int .i64 t, .slice ao n c] 38 (0, 0)) := by rw [← hW]; exact heap_alloc_new w _
  have q0 : W.cell? ⟨w.heap.size, 0, none⟩ = some (.int .i64 t) := blk_cell hblk 0
  have q1 : W.cell? ⟨w.heap.size, 1, none⟩ = some (.slice ao n c) := blk_cell hblk 1
  have hok := hyes
  unfold De.okArg at hok
  simp only [Bool.and_eq_true] at hok
  obtain ⟨hq, hi, hf⟩ := hok
  obtain ⟨hqi, hqe⟩ := isI_is hq
  have HO := other_is (h.still hbW) q
  rw [hq, if_pos rfl] at HO
  have HW1 := within_any (w := W) inc 1 4611686018427387904
  rw [show decide (1 ≤ inc ∧ inc ≤ 4611686018427387904) = true from hi] at HW1
  have HC := canBe_any (c := c) (h.still hbW) t (hr.still hbW)
  rw [hf] at HC
  have Hb : Hid (Below w.heap.size w W) := hbW
  have Hh : Hid (D.Ok w B m) := h
  have Hq : Hid (D.is q.toNat) := hqi
  have HR : Hid (RdI W ao n xs) := hr.still hbW
  have Hblk : Hid (W.heap[w.heap.size]? = some (.cells #[.int .i64 t, .slice ao n c] 38 (0, 0))) := hblk
  generalize hk : q.toNat = k at *
  clear h hr hblk hbW hqe hyes hf hq hqi
  have hne : w.heap.size ≠ D.bo k := fun e => by have := Hh.out.ltOwn (.inr (.inr ⟨k, Hq.out, .inl rfl⟩)); omega
  have hnb : D.b ≠ D.bo k := ty_ne Hh.out.blk (Hh.out.oth k Hq.out) (by decide)
  have hi2 : 1 ≤ inc ∧ inc ≤ 4611686018427387904 := of_decide_eq_true hi
  have Hi : Hid (1 ≤ inc ∧ inc ≤ 4611686018427387904) := hi2
  have ht2 : 0 ≤ t ∧ t ≤ 4611686018427387904 := by
    unfold De.fits at hf0
    simp only [Bool.and_eq_true] at hf0
    exact of_decide_eq_true hf0.1
  have Ht : Hid (0 ≤ t ∧ t ≤ 4611686018427387904) := ht2
  have hnn : n = D.n := by
    unfold De.fits at hf0
    simp only [Bool.and_eq_true] at hf0
    rw [← HR.out.1]
    exact of_decide_eq_true hf0.2.1
  subst hnn
  obtain ⟨ga, oa, hga, hgc⟩ := hr0.at (i := D.self) Hh.out.n16.2.2
  have Hg : Hid (w.cell? ⟨ga, oa + D.self, none⟩ = some (.int .i64 (xs.getD D.self 0))) := hgc
  have Hgn : Hid (¬ D.own ga) := fun e => hap ga ⟨oa, hga⟩ e
  have hng : ga ≠ D.bo k := fun e => Hgn.out (.inr (.inr ⟨k, Hq.out, .inl e⟩))
  have hsn := Hh.out.n16
  subst hga
  have i1 : (0 : Int) ≤ (D.self : Int) := Int.natCast_nonneg _
  have i2 : (D.self : Int) < (D.n : Int) := by omega
  clear hgc hf0 hr0 hap hi2 ht2
  generalize xs.getD D.self 0 = z at *
  have HK : Hid ((D.pe k).known = inc) := ho.symm
  clear ho
  have hm : ∀ w, (method 219 89 (.pointer (some ⟨D.bt k, 0, none⟩)) "quorate/detect.grow").run Try.prog w = .ok (72, .pointer (some ⟨D.bt k, 0, none⟩)) w := fun _ => by kernel_rfl
  go_enter Try.func11, Try.ntmps11
  go_wp2_with (first | (go_at_call 24; refine HO.mono ?_; rintro e w' ⟨rfl, rfl⟩) | (go_at_call 25; refine HW1.mono ?_; rintro e w' ⟨rfl, rfl⟩) | (go_at_call 26; refine HC.mono ?_; rintro e w1 ⟨rfl, hb1⟩; have R1 : Hid (Below W.heap.size W w1) := hb1; have x0 := below_at hb1 q0; have x1 := below_at hb1 q1; obtain ⟨o0, o1, o2, o3, o4, o5, o6⟩ := (Hh.out.still (bstep Hb.out hb1)).co Hq.out; have c0 := (Hh.out.still (bstep Hb.out hb1)).c0; have c1 := (Hh.out.still (bstep Hb.out hb1)).c1; have c3 := (Hh.out.still (bstep Hb.out hb1)).c3; have fo : Hid (∀ i, w1.frozen? ⟨D.bo k, i, none⟩ = false) := (fun i => (Hh.out.still (bstep Hb.out hb1)).fo Hq.out i); rw [HK.out] at o1; rw [hh] at o5; clear hb1) | fail)
  refine wp_region_held_drew (S := (fun w' => w'.cell? ⟨D.bo k, 1, none⟩ = some (.int .i64 inc) ∧ w'.cell? ⟨w.heap.size, 0, none⟩ = some (.int .i64 t) ∧ w'.cell? ⟨D.bo k, 2, none⟩ = some (.int .i64 (D.pe k).last))) (by kernel_rfl) ⟨below_at (Below.refl _ _).drew o1, below_at (Below.refl _ _).drew x0, below_at (Below.refl _ _).drew o2⟩ (fun hHeld => ?_)
  simp only [Act.put, List.size_toArray, List.length_cons, List.length_nil, Nat.zero_add]
  refine wpAnyH_take (i := 0) (v := .int .i64 inc) rfl (by kernel_rfl) (by kernel_rfl) (by kernel_rfl) (fun _ _ _ h => h) (Or.inl ⟨by rfl, fun w' hS => by go_simp⟩) hHeld ?_
  simp only [Act.put, List.getElem_toArray, List.getElem_cons_zero, List.getElem_cons_succ, List.setIfInBounds_toArray, List.set_cons_zero, List.set_cons_succ]
  refine wpAnyH_take (i := 1) (v := .pointer (some ⟨D.bo k, 0, none⟩)) rfl (by kernel_rfl) (by kernel_rfl) (by kernel_rfl) (fun _ _ _ h => h) (Or.inl ⟨by rfl, fun w' hS => by go_simp⟩) hHeld ?_
  simp only [Act.put, List.getElem_toArray, List.getElem_cons_zero, List.getElem_cons_succ, List.setIfInBounds_toArray, List.set_cons_zero, List.set_cons_succ]
  refine wpAnyH_take (i := 2) (v := .pointer (some ⟨D.bo k, 0, none⟩)) rfl (by kernel_rfl) (by kernel_rfl) (by kernel_rfl) (fun _ _ _ h => h) (Or.inl ⟨by rfl, fun w' hS => by go_simp⟩) hHeld ?_
  simp only [Act.put, List.getElem_toArray, List.getElem_cons_zero, List.getElem_cons_succ, List.setIfInBounds_toArray, List.set_cons_zero, List.set_cons_succ]
  refine wpAnyH_take (i := 3) (v := .pointer (some ⟨D.bo k, 1, none⟩)) rfl (by kernel_rfl) (by kernel_rfl) (by kernel_rfl) (fun _ _ _ h => h) (Or.inl ⟨by rfl, fun w' hS => by go_simp⟩) hHeld ?_
  simp only [Act.put, List.getElem_toArray, List.getElem_cons_zero, List.getElem_cons_succ, List.setIfInBounds_toArray, List.set_cons_zero, List.set_cons_succ]
  refine wpAnyH_take (i := 4) (v := .int .i64 inc) rfl (by kernel_rfl) (by kernel_rfl) (by kernel_rfl) (fun _ _ _ h => h) (Or.inl ⟨by rfl, fun w' hS => by (obtain ⟨s0, s1, s2⟩ := hS; go_simp)⟩) hHeld ?_
  simp only [Act.put, List.getElem_toArray, List.getElem_cons_zero, List.getElem_cons_succ, List.setIfInBounds_toArray, List.set_cons_zero, List.set_cons_succ]
  refine wpAnyH_take (i := 5) (v := .bool true) rfl (by kernel_rfl) (by kernel_rfl) (by kernel_rfl) (fun _ _ _ h => h) (Or.inl ⟨by rfl, fun w' hS => by go_simp⟩) hHeld ?_
  simp only [Act.put, List.getElem_toArray, List.getElem_cons_zero, List.getElem_cons_succ, List.setIfInBounds_toArray, List.set_cons_zero, List.set_cons_succ]
  refine wpAnyH_take (i := 6) (v := .bool true) rfl (by kernel_rfl) (by kernel_rfl) (by kernel_rfl) (fun _ _ _ h => h) (Or.inl ⟨by rfl, fun w' hS => by go_simp⟩) hHeld ?_
  simp only [Act.put, List.getElem_toArray, List.getElem_cons_zero, List.getElem_cons_succ, List.setIfInBounds_toArray, List.set_cons_zero, List.set_cons_succ]
  refine wpAnyH_take (i := 7) (v := .pointer (some ⟨w.heap.size, 0, none⟩)) rfl (by kernel_rfl) (by kernel_rfl) (by kernel_rfl) (fun _ _ _ h => h) (Or.inl ⟨by rfl, fun w' hS => by go_simp⟩) hHeld ?_
  simp only [Act.put, List.getElem_toArray, List.getElem_cons_zero, List.getElem_cons_succ, List.setIfInBounds_toArray, List.set_cons_zero, List.set_cons_succ]
  refine wpAnyH_take (i := 8) (v := .int .i64 t) rfl (by kernel_rfl) (by kernel_rfl) (by kernel_rfl) (fun _ _ _ h => h) (Or.inl ⟨by rfl, fun w' hS => by (obtain ⟨s0, s1, s2⟩ := hS; go_simp)⟩) hHeld ?_
  simp only [Act.put, List.getElem_toArray, List.getElem_cons_zero, List.getElem_cons_succ, List.setIfInBounds_toArray, List.set_cons_zero, List.set_cons_succ]
  refine wpAnyH_take (i := 9) (v := .pointer (some ⟨D.bo k, 0, none⟩)) rfl (by kernel_rfl) (by kernel_rfl) (by kernel_rfl) (fun _ _ _ h => h) (Or.inl ⟨by rfl, fun w' hS => by go_simp⟩) hHeld ?_
  simp only [Act.put, List.getElem_toArray, List.getElem_cons_zero, List.getElem_cons_succ, List.setIfInBounds_toArray, List.set_cons_zero, List.set_cons_succ]
  refine wpAnyH_take (i := 10) (v := .pointer (some ⟨D.bo k, 0, none⟩)) rfl (by kernel_rfl) (by kernel_rfl) (by kernel_rfl) (fun _ _ _ h => h) (Or.inl ⟨by rfl, fun w' hS => by go_simp⟩) hHeld ?_
  simp only [Act.put, List.getElem_toArray, List.getElem_cons_zero, List.getElem_cons_succ, List.setIfInBounds_toArray, List.set_cons_zero, List.set_cons_succ]
  refine wpAnyH_take (i := 11) (v := .pointer (some ⟨D.bo k, 2, none⟩)) rfl (by kernel_rfl) (by kernel_rfl) (by kernel_rfl) (fun _ _ _ h => h) (Or.inl ⟨by rfl, fun w' hS => by go_simp⟩) hHeld ?_
  simp only [Act.put, List.getElem_toArray, List.getElem_cons_zero, List.getElem_cons_succ, List.setIfInBounds_toArray, List.set_cons_zero, List.set_cons_succ]
  refine wpAnyH_take (i := 12) (v := .int .i64 (D.pe k).last) rfl (by kernel_rfl) (by kernel_rfl) (by kernel_rfl) (fun _ _ _ h => h) (Or.inl ⟨by rfl, fun w' hS => by (obtain ⟨s0, s1, s2⟩ := hS; go_simp)⟩) hHeld ?_
  simp only [Act.put, List.getElem_toArray, List.getElem_cons_zero, List.getElem_cons_succ, List.setIfInBounds_toArray, List.set_cons_zero, List.set_cons_succ]
  refine wpAnyH_take (i := 13) (v := .bool false) rfl (by kernel_rfl) (by kernel_rfl) (by kernel_rfl) (fun _ _ _ h => h) (Or.inl ⟨by rfl, fun w' hS => by (go_simp <;> omega)⟩) hHeld ?_
  simp only [Act.put, List.getElem_toArray, List.getElem_cons_zero, List.getElem_cons_succ, List.setIfInBounds_toArray, List.set_cons_zero, List.set_cons_succ]
  refine wpAnyH_take (i := 14) (v := .bool false) rfl (by kernel_rfl) (by kernel_rfl) (by kernel_rfl) (fun _ _ _ h => h) (Or.inl ⟨by rfl, fun w' hS => by go_simp⟩) hHeld ?_
  simp only [Act.put, List.getElem_toArray, List.getElem_cons_zero, List.getElem_cons_succ, List.setIfInBounds_toArray, List.set_cons_zero, List.set_cons_succ]
  refine wpAnyH_done (by kernel_rfl) ?_ _
  clear hHeld
  have f4 := fo.out 4
  go_wp2
  obtain ⟨V, hV, Hok, T0, z0, z1⟩ : ∃ V, w1.drew = V ∧ Hid (D.Ok V B m) ∧ Hid (Dtep w V D D B m) ∧ V.cell? ⟨w.heap.size, 0, none⟩ = some (.int .i64 t) ∧ V.cell? ⟨w.heap.size, 1, none⟩ = some (.slice (some ⟨ga, oa, none⟩) D.n c) := ⟨_, rfl, Hh.out.still ((bstep Hb.out R1.out).drew), ⟨Hh.out.still ((bstep Hb.out R1.out).drew), Kept.ofBelow ((bstep Hb.out R1.out).drew) _, fun _ => Iff.rfl⟩, cell_drew x0, cell_drew x1⟩
  clear x0 x1 o0 o1 o2 o3 o4 o5 o6 c0 c1 c3 fo
  have x0 := z0
  have x1 := z1
  clear z0 z1
  rw [hV]
  clear hV
  have p1 : ∃ u, V.cell? ⟨D.bo k, 1, none⟩ = some u := ⟨_, (Hok.out.co Hq.out).2.1⟩
  have p2 : ∃ u, V.cell? ⟨D.bo k, 2, none⟩ = some u := ⟨_, (Hok.out.co Hq.out).2.2.1⟩
  have p3 : ∃ u, V.cell? ⟨D.bo k, 3, none⟩ = some u := ⟨_, (Hok.out.co Hq.out).2.2.2.1⟩
  obtain ⟨u1, p1⟩ := p1
  obtain ⟨u2, p2⟩ := p2
  obtain ⟨u3, p3⟩ := p3
  have f1 : V.frozen? ⟨D.bo k, 1, none⟩ = false := Hok.out.fo Hq.out 1
  have f2 : V.frozen? ⟨D.bo k, 2, none⟩ = false := Hok.out.fo Hq.out 2
  have f3 : V.frozen? ⟨D.bo k, 3, none⟩ = false := Hok.out.fo Hq.out 3
  have S3 : Dtep V (((V.setCell ⟨D.bo k, 1, none⟩ (.int .i64 inc)).setCell ⟨D.bo k, 2, none⟩ (.int .i64 t)).setCell ⟨D.bo k, 3, none⟩ (.int .i64 0)) D (D.set k ((D.pe k).got inc t)) B m := by
    have := put3 Hok.out Hq.out inc t Hi.out Ht.out
    try simp only [set_at, set_set] at this
    exact this
  have HS3 : Hid (Dtep V (((V.setCell ⟨D.bo k, 1, none⟩ (.int .i64 inc)).setCell ⟨D.bo k, 2, none⟩ (.int .i64 t)).setCell ⟨D.bo k, 3, none⟩ (.int .i64 0)) D (D.set k ((D.pe k).got inc t)) B m) := S3
  clear S3
  go_wp2
  refine wp_region_held_drew (S := (fun w' => w'.cell? ⟨w.heap.size, 0, none⟩ = some (.int .i64 t))) (by kernel_rfl) (by repeat (first | exact x0 | apply cell_drew | refine cell_set_ne ?_ hne)) (fun hHeld => ?_)
  simp only [Act.put, List.size_toArray, List.length_cons, List.length_nil, Nat.zero_add]
  refine wpAnyH_take (i := 0) (v := .pointer (some ⟨D.bo k, 0, none⟩)) rfl (by kernel_rfl) (by kernel_rfl) (by kernel_rfl) (fun _ _ _ h => h) (Or.inl ⟨by rfl, fun w' hS => by go_simp⟩) hHeld ?_
  simp only [Act.put, List.getElem_toArray, List.getElem_cons_zero, List.getElem_cons_succ, List.setIfInBounds_toArray, List.set_cons_zero, List.set_cons_succ]
  refine wpAnyH_take (i := 1) (v := .pointer (some ⟨D.bo k, 0, none⟩)) rfl (by kernel_rfl) (by kernel_rfl) (by kernel_rfl) (fun _ _ _ h => h) (Or.inl ⟨by rfl, fun w' hS => by go_simp⟩) hHeld ?_
  simp only [Act.put, List.getElem_toArray, List.getElem_cons_zero, List.getElem_cons_succ, List.setIfInBounds_toArray, List.set_cons_zero, List.set_cons_succ]
  refine wpAnyH_take (i := 2) (v := .pointer (some ⟨D.bo k, 0, none⟩)) rfl (by kernel_rfl) (by kernel_rfl) (by kernel_rfl) (fun _ _ _ h => h) (Or.inl ⟨by rfl, fun w' hS => by go_simp⟩) hHeld ?_
  simp only [Act.put, List.getElem_toArray, List.getElem_cons_zero, List.getElem_cons_succ, List.setIfInBounds_toArray, List.set_cons_zero, List.set_cons_succ]
  refine wpAnyH_take (i := 3) (v := .int .i64 inc) rfl (by kernel_rfl) (by kernel_rfl) (by kernel_rfl) (fun _ _ _ h => h) (Or.inl ⟨by rfl, fun w' hS => by go_simp⟩) hHeld ?_
  simp only [Act.put, List.getElem_toArray, List.getElem_cons_zero, List.getElem_cons_succ, List.setIfInBounds_toArray, List.set_cons_zero, List.set_cons_succ]
  refine wpAnyH_take (i := 4) (v := .pointer (some ⟨w.heap.size, 0, none⟩)) rfl (by kernel_rfl) (by kernel_rfl) (by kernel_rfl) (fun _ _ _ h => h) (Or.inl ⟨by rfl, fun w' hS => by go_simp⟩) hHeld ?_
  simp only [Act.put, List.getElem_toArray, List.getElem_cons_zero, List.getElem_cons_succ, List.setIfInBounds_toArray, List.set_cons_zero, List.set_cons_succ]
  refine wpAnyH_take (i := 5) (v := .int .i64 t) rfl (by kernel_rfl) (by kernel_rfl) (by kernel_rfl) (fun _ _ _ h => h) (Or.inl ⟨by rfl, fun w' hS => by (obtain s0 := hS; go_simp)⟩) hHeld ?_
  simp only [Act.put, List.getElem_toArray, List.getElem_cons_zero, List.getElem_cons_succ, List.setIfInBounds_toArray, List.set_cons_zero, List.set_cons_succ]
  refine wpAnyH_take (i := 6) (v := .pointer (some ⟨D.bo k, 0, none⟩)) rfl (by kernel_rfl) (by kernel_rfl) (by kernel_rfl) (fun _ _ _ h => h) (Or.inl ⟨by rfl, fun w' hS => by go_simp⟩) hHeld ?_
  simp only [Act.put, List.getElem_toArray, List.getElem_cons_zero, List.getElem_cons_succ, List.setIfInBounds_toArray, List.set_cons_zero, List.set_cons_succ]
  refine wpAnyH_take (i := 7) (v := .pointer (some ⟨D.bo k, 1, none⟩)) rfl (by kernel_rfl) (by kernel_rfl) (by kernel_rfl) (fun _ _ _ h => h) (Or.inl ⟨by rfl, fun w' hS => by go_simp⟩) hHeld ?_
  simp only [Act.put, List.getElem_toArray, List.getElem_cons_zero, List.getElem_cons_succ, List.setIfInBounds_toArray, List.set_cons_zero, List.set_cons_succ]
  refine wpAnyH_ready (rs := [8]) (by kernel_rfl) (by simp) ?_
  refine AllReadyH.cons rfl (fun K hK => ?_) AllReadyH.nil
  go_simp
  refine hK.out _ _ (by repeat (first | exact x0 | apply cell_drew | refine cell_set_ne ?_ hne)) (fun hHeld => ?_)
  clear hK K
  refine wpAnyH_take (i := 9) (v := .pointer (some ⟨D.bo k, 0, none⟩)) rfl (by kernel_rfl) (by kernel_rfl) (by kernel_rfl) (fun _ _ _ h => h) (Or.inl ⟨by rfl, fun w' hS => by go_simp⟩) hHeld ?_
  simp only [Act.put, List.getElem_toArray, List.getElem_cons_zero, List.getElem_cons_succ, List.setIfInBounds_toArray, List.set_cons_zero, List.set_cons_succ]
  refine wpAnyH_take (i := 10) (v := .pointer (some ⟨D.bo k, 2, none⟩)) rfl (by kernel_rfl) (by kernel_rfl) (by kernel_rfl) (fun _ _ _ h => h) (Or.inl ⟨by rfl, fun w' hS => by go_simp⟩) hHeld ?_
  simp only [Act.put, List.getElem_toArray, List.getElem_cons_zero, List.getElem_cons_succ, List.setIfInBounds_toArray, List.set_cons_zero, List.set_cons_succ]
  refine wpAnyH_ready (rs := [11]) (by kernel_rfl) (by simp) ?_
  refine AllReadyH.cons rfl (fun K hK => ?_) AllReadyH.nil
  go_simp
  refine hK.out _ _ (by repeat (first | exact x0 | apply cell_drew | refine cell_set_ne ?_ hne)) (fun hHeld => ?_)
  clear hK K
  refine wpAnyH_take (i := 12) (v := .pointer (some ⟨D.bo k, 0, none⟩)) rfl (by kernel_rfl) (by kernel_rfl) (by kernel_rfl) (fun _ _ _ h => h) (Or.inl ⟨by rfl, fun w' hS => by go_simp⟩) hHeld ?_
  simp only [Act.put, List.getElem_toArray, List.getElem_cons_zero, List.getElem_cons_succ, List.setIfInBounds_toArray, List.set_cons_zero, List.set_cons_succ]
  refine wpAnyH_take (i := 13) (v := .pointer (some ⟨D.bo k, 3, none⟩)) rfl (by kernel_rfl) (by kernel_rfl) (by kernel_rfl) (fun _ _ _ h => h) (Or.inl ⟨by rfl, fun w' hS => by go_simp⟩) hHeld ?_
  simp only [Act.put, List.getElem_toArray, List.getElem_cons_zero, List.getElem_cons_succ, List.setIfInBounds_toArray, List.set_cons_zero, List.set_cons_succ]
  refine wpAnyH_ready (rs := [14]) (by kernel_rfl) (by simp) ?_
  refine AllReadyH.cons rfl (fun K hK => ?_) AllReadyH.nil
  go_simp
  refine hK.out _ _ (by repeat (first | exact x0 | apply cell_drew | refine cell_set_ne ?_ hne)) (fun hHeld => ?_)
  clear hK K
  refine wpAnyH_done (by kernel_rfl) ?_ _
  clear hHeld
  obtain ⟨V2, hV2, T2, x1⟩ : ∃ V2, (((V.setCell ⟨D.bo k, 1, none⟩ (.int .i64 inc)).setCell ⟨D.bo k, 2, none⟩ (.int .i64 t)).setCell ⟨D.bo k, 3, none⟩ (.int .i64 0)).drew = V2 ∧ Dtep w V2 D (D.set k ((D.pe k).got inc t)) B m ∧ V2.cell? ⟨w.heap.size, 1, none⟩ = some (.slice (some ⟨ga, oa, none⟩) D.n c) := ⟨_, rfl, (T0.out.trans HS3.out).post (Below.refl _ _).drew, cell_drew (cell_set_ne (cell_set_ne (cell_set_ne x1 hne) hne) hne)⟩
  rw [hV2]
  clear hV2 HS3 p1 p2 p3 f1 f2 f3 x0
  have y5 : ∃ u, V2.cell? ⟨D.bo k, 5, none⟩ = some u := ⟨_, (T2.ok.co Hq.out).2.2.2.2.2.1⟩
  obtain ⟨u5, y5⟩ := y5
  have f5 : V2.frozen? ⟨D.bo k, 5, none⟩ = false := T2.ok.fo Hq.out 5
  have c3 : V2.cell? ⟨D.b, 3, none⟩ = some (.bool D.left) := T2.ok.c3
  have S5 := put5 T2.ok (q := k) Hq.out (!D.left) (fun _ => by rw [set_at]; exact ⟨by show (0 : Int) ≤ (D.pe k).ticks; have := (T2.ok.rng k Hq.out).ticks; rw [set_at] at this; have e : 1 ≤ (D.pe k).ticks := this.1; omega, Hi.out.1⟩)
  rw [set_at, set_set] at S5
  obtain ⟨V3, hV3, T3, y1⟩ : ∃ V3, V2.setCell ⟨D.bo k, 5, none⟩ (.bool (!D.left)) = V3 ∧ Dtep w V3 D (D.set k { (D.pe k).got inc t with heard := !D.left }) B m ∧ V3.cell? ⟨w.heap.size, 1, none⟩ = some (.slice (some ⟨ga, oa, none⟩) D.n c) := ⟨_, rfl, T2.trans S5, cell_set_ne x1 hne⟩
  have H3 : Hid (Dtep w V3 D (D.set k { (D.pe k).got inc t with heard := !D.left }) B m) := T3
  have y2 : V3.cell? ⟨D.b, 0, none⟩ = some (.int .i64 (D.self : Int)) := T3.ok.c0
  have y4 : V3.cell? ⟨D.b, 1, none⟩ = some (.int .i64 D.inc) := T3.ok.c1
  have y6 : ∃ u, V3.cell? ⟨D.bo k, 6, none⟩ = some u := ⟨_, (T3.ok.co Hq.out).2.2.2.2.2.2⟩
  obtain ⟨u6, y6⟩ := y6
  have f6 : V3.frozen? ⟨D.bo k, 6, none⟩ = false := T3.ok.fo Hq.out 6
  have y3 : V3.cell? ⟨ga, oa + D.self, none⟩ = some (.int .i64 (z)) := by
    have hlt := World.block_lt_of_cell? w _ Hg.out
    have hk2 := T3.kept.block ga hlt Hgn.out
    have hg := Hg.out
    rw [World.cell?] at hg ⊢
    simp only at hg ⊢
    rw [hk2]
    exact hg
  clear T2 S5 T3
  go_wp2
  clear hV3 y5 f5 c3 x1
  refine wp_region_held_drew (S := (fun w' => w'.cell? ⟨w.heap.size, 1, none⟩ = some (.slice (some ⟨ga, oa, none⟩) D.n c) ∧ w'.cell? ⟨D.b, 0, none⟩ = some (.int .i64 (D.self : Int)) ∧ w'.cell? ⟨ga, oa + D.self, none⟩ = some (.int .i64 (z)) ∧ w'.cell? ⟨D.b, 1, none⟩ = some (.int .i64 D.inc))) (by kernel_rfl) ⟨(cell_drew y1), (cell_drew y2), (cell_drew y3), (cell_drew y4)⟩ (fun hHeld => ?_)
  simp only [Act.put, List.size_toArray, List.length_cons, List.length_nil, Nat.zero_add]
  refine wpAnyH_take (i := 0) (v := .pointer (some ⟨D.bo k, 0, none⟩)) rfl (by kernel_rfl) (by kernel_rfl) (by kernel_rfl) (fun _ _ _ h => h) (Or.inl ⟨by rfl, fun w' hS => by go_simp⟩) hHeld ?_
  simp only [Act.put, List.getElem_toArray, List.getElem_cons_zero, List.getElem_cons_succ, List.setIfInBounds_toArray, List.set_cons_zero, List.set_cons_succ]
  refine wpAnyH_take (i := 1) (v := .pointer (some ⟨w.heap.size, 1, none⟩)) rfl (by kernel_rfl) (by kernel_rfl) (by kernel_rfl) (fun _ _ _ h => h) (Or.inl ⟨by rfl, fun w' hS => by go_simp⟩) hHeld ?_
  simp only [Act.put, List.getElem_toArray, List.getElem_cons_zero, List.getElem_cons_succ, List.setIfInBounds_toArray, List.set_cons_zero, List.set_cons_succ]
  refine wpAnyH_take (i := 2) (v := .slice (some ⟨ga, oa, none⟩) D.n c) rfl (by kernel_rfl) (by kernel_rfl) (by kernel_rfl) (fun _ _ _ h => h) (Or.inl ⟨by rfl, fun w' hS => by (obtain ⟨s0, s1, s2, s3⟩ := hS; go_simp)⟩) hHeld ?_
  simp only [Act.put, List.getElem_toArray, List.getElem_cons_zero, List.getElem_cons_succ, List.setIfInBounds_toArray, List.set_cons_zero, List.set_cons_succ]
  refine wpAnyH_take (i := 3) (v := .pointer (some ⟨D.b, 0, none⟩)) rfl (by kernel_rfl) (by kernel_rfl) (by kernel_rfl) (fun _ _ _ h => h) (Or.inl ⟨by rfl, fun w' hS => by go_simp⟩) hHeld ?_
  simp only [Act.put, List.getElem_toArray, List.getElem_cons_zero, List.getElem_cons_succ, List.setIfInBounds_toArray, List.set_cons_zero, List.set_cons_succ]
  refine wpAnyH_take (i := 4) (v := .pointer (some ⟨D.b, 0, none⟩)) rfl (by kernel_rfl) (by kernel_rfl) (by kernel_rfl) (fun _ _ _ h => h) (Or.inl ⟨by rfl, fun w' hS => by go_simp⟩) hHeld ?_
  simp only [Act.put, List.getElem_toArray, List.getElem_cons_zero, List.getElem_cons_succ, List.setIfInBounds_toArray, List.set_cons_zero, List.set_cons_succ]
  refine wpAnyH_take (i := 5) (v := .pointer (some ⟨D.b, 0, none⟩)) rfl (by kernel_rfl) (by kernel_rfl) (by kernel_rfl) (fun _ _ _ h => h) (Or.inl ⟨by rfl, fun w' hS => by go_simp⟩) hHeld ?_
  simp only [Act.put, List.getElem_toArray, List.getElem_cons_zero, List.getElem_cons_succ, List.setIfInBounds_toArray, List.set_cons_zero, List.set_cons_succ]
  refine wpAnyH_take (i := 6) (v := .int .i64 (D.self : Int)) rfl (by kernel_rfl) (by kernel_rfl) (by kernel_rfl) (fun _ _ _ h => h) (Or.inl ⟨by rfl, fun w' hS => by (obtain ⟨s0, s1, s2, s3⟩ := hS; go_simp)⟩) hHeld ?_
  simp only [Act.put, List.getElem_toArray, List.getElem_cons_zero, List.getElem_cons_succ, List.setIfInBounds_toArray, List.set_cons_zero, List.set_cons_succ]
  refine wpAnyH_take (i := 7) (v := .pointer (some ⟨ga, oa + D.self, none⟩)) rfl (by kernel_rfl) (by kernel_rfl) (by kernel_rfl) (fun _ _ _ h => h) (Or.inl ⟨by rfl, fun w' hS => by go_simp⟩) hHeld ?_
  simp only [Act.put, List.getElem_toArray, List.getElem_cons_zero, List.getElem_cons_succ, List.setIfInBounds_toArray, List.set_cons_zero, List.set_cons_succ]
  refine wpAnyH_take (i := 8) (v := .int .i64 (z)) rfl (by kernel_rfl) (by kernel_rfl) (by kernel_rfl) (fun _ _ _ h => h) (Or.inl ⟨by rfl, fun w' hS => by (obtain ⟨s0, s1, s2, s3⟩ := hS; go_simp)⟩) hHeld ?_
  simp only [Act.put, List.getElem_toArray, List.getElem_cons_zero, List.getElem_cons_succ, List.setIfInBounds_toArray, List.set_cons_zero, List.set_cons_succ]
  refine wpAnyH_take (i := 9) (v := .pointer (some ⟨D.b, 0, none⟩)) rfl (by kernel_rfl) (by kernel_rfl) (by kernel_rfl) (fun _ _ _ h => h) (Or.inl ⟨by rfl, fun w' hS => by go_simp⟩) hHeld ?_
  simp only [Act.put, List.getElem_toArray, List.getElem_cons_zero, List.getElem_cons_succ, List.setIfInBounds_toArray, List.set_cons_zero, List.set_cons_succ]
  refine wpAnyH_take (i := 10) (v := .pointer (some ⟨D.b, 0, none⟩)) rfl (by kernel_rfl) (by kernel_rfl) (by kernel_rfl) (fun _ _ _ h => h) (Or.inl ⟨by rfl, fun w' hS => by go_simp⟩) hHeld ?_
  simp only [Act.put, List.getElem_toArray, List.getElem_cons_zero, List.getElem_cons_succ, List.setIfInBounds_toArray, List.set_cons_zero, List.set_cons_succ]
  refine wpAnyH_take (i := 11) (v := .pointer (some ⟨D.b, 1, none⟩)) rfl (by kernel_rfl) (by kernel_rfl) (by kernel_rfl) (fun _ _ _ h => h) (Or.inl ⟨by rfl, fun w' hS => by go_simp⟩) hHeld ?_
  simp only [Act.put, List.getElem_toArray, List.getElem_cons_zero, List.getElem_cons_succ, List.setIfInBounds_toArray, List.set_cons_zero, List.set_cons_succ]
  refine wpAnyH_take (i := 12) (v := .int .i64 D.inc) rfl (by kernel_rfl) (by kernel_rfl) (by kernel_rfl) (fun _ _ _ h => h) (Or.inl ⟨by rfl, fun w' hS => by (obtain ⟨s0, s1, s2, s3⟩ := hS; go_simp)⟩) hHeld ?_
  simp only [Act.put, List.getElem_toArray, List.getElem_cons_zero, List.getElem_cons_succ, List.setIfInBounds_toArray, List.set_cons_zero, List.set_cons_succ]
  refine wpAnyH_take (i := 13) (v := .bool (decide (z = D.inc))) rfl (by kernel_rfl) (by kernel_rfl) (by kernel_rfl) (fun _ _ _ h => h) (Or.inl ⟨by rfl, fun w' hS => by (go_simp; rfl)⟩) hHeld ?_
  simp only [Act.put, List.getElem_toArray, List.getElem_cons_zero, List.getElem_cons_succ, List.setIfInBounds_toArray, List.set_cons_zero, List.set_cons_succ]
  refine wpAnyH_take (i := 14) (v := .pointer (some ⟨D.bo k, 0, none⟩)) rfl (by kernel_rfl) (by kernel_rfl) (by kernel_rfl) (fun _ _ _ h => h) (Or.inl ⟨by rfl, fun w' hS => by go_simp⟩) hHeld ?_
  simp only [Act.put, List.getElem_toArray, List.getElem_cons_zero, List.getElem_cons_succ, List.setIfInBounds_toArray, List.set_cons_zero, List.set_cons_succ]
  refine wpAnyH_take (i := 15) (v := .pointer (some ⟨D.bo k, 6, none⟩)) rfl (by kernel_rfl) (by kernel_rfl) (by kernel_rfl) (fun _ _ _ h => h) (Or.inl ⟨by rfl, fun w' hS => by go_simp⟩) hHeld ?_
  simp only [Act.put, List.getElem_toArray, List.getElem_cons_zero, List.getElem_cons_succ, List.setIfInBounds_toArray, List.set_cons_zero, List.set_cons_succ]
  refine wpAnyH_ready (rs := [16]) (by kernel_rfl) (by simp) ?_
  refine AllReadyH.cons rfl (fun K hK => ?_) AllReadyH.nil
  go_simp
  refine hK.out _ _ ⟨(cell_drew (cell_set_ne y1 hne)), (cell_drew (cell_set_ne y2 hnb)), (cell_drew (cell_set_ne y3 hng)), (cell_drew (cell_set_ne y4 hnb))⟩ (fun hHeld => ?_)
  clear hK K
  refine wpAnyH_done (by kernel_rfl) ?_ _
  clear hHeld
  go_wp2
  go_ret
  refine ⟨rfl, ?_⟩
  have S6 := put6 H3.out.ok (q := k) Hq.out (decide (z = D.inc))
  rw [set_at, set_set] at S6
  exact (H3.out.trans S6).post (Below.refl _ _).drew
end
end Go.Proofs.Ytfbollifegngjaa.Dt
