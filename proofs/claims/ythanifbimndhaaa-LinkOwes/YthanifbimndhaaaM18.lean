import Derived.Test.YthanifbimndhaaaM17
namespace Go.Proofs.Ythanifbimndhaaa.Ln
set_option maxHeartbeats 40000000
open Go.RowKit Mb
set_option linter.unusedVariables false
set_option maxRecDepth 100000
set_option linter.unusedSimpArgs false
section
variable {w w' W : World} {B : Nat}
def ob (mk : Int) (i : Nat) : List Int := [mk, (i : Int) % 256]
def tb (mk : Int) (i : Nat) : List Int := [mk, 200 + ((i % 50 : Nat) : Int), 1]
theorem ob_by {mk : Int} (h : 0 ≤ mk /\ mk ≤ 255) (i : Nat) : By (ob mk i) := by
 intro j
 unfold ob
 match j with
 | 0 => simpa using h
 | 1 => simp; omega
 | j + 2 => simp
theorem tb_by {mk : Int} (h : 0 ≤ mk /\ mk ≤ 255) (i : Nat) : By (tb mk i) := by
 intro j
 unfold tb
 match j with
 | 0 => simpa using h
 | 1 => simp; omega
 | 2 => simp
 | j + 3 => simp
structure DnO (w : World) (B : Nat) (la ga : Option Addr) (n : Nat) (mk : Int) (Y Z : Nat -> Bn) : Prop where
 gb : ∃ gb, ga = some ⟨gb, 0, none⟩ /\ (∀ i, i < n -> w.cell? ⟨gb, i, none⟩ = some (Y i).v) /\ ∀ i, i < 64 -> w.cell? ⟨gb, n + i, none⟩ = some (Z i).v
 lb : 0 < n -> ∃ lb, la = some ⟨lb, 0, none⟩ /\ ∀ i, i < n -> w.cell? ⟨lb, i, none⟩ = some (Y i).v
 yo : ∀ i, i < n -> (Y i).Ok w B /\ (Y i).bs = ob mk i
 zo : ∀ i, i < 64 -> (Z i).Ok w B /\ (Z i).bs = tb mk i
theorem oshows_done {la va ga : Option Addr} {n lc vn vc gn gc : Nat} {mk : Int} {Y Z : Nat -> Bn} (h : DnO w B la ga n mk Y Z) (hn : n ≤ 1000000) (hg : gn = n + 64) (hm : 0 ≤ mk /\ mk ≤ 255) : Calls Try.prog 31 #[.agg #[.slice la n lc, .slice ga gn gc, .slice va vn vc, .int .i64 mk, .bool true]] w fun e w' => e = .returned (.bool true) /\ Below w.heap.size w w' := by
 generalize hW : w.alloc (.cells #[.slice la n lc, .slice ga gn gc, .slice va vn vc, .int .i64 mk, .bool true] 51) = W
 have hbW := bW0 hW
 have hk1 : W.heap[w.heap.size]? = some (.cells #[.slice la n lc, .slice ga gn gc, .slice va vn vc, .int .i64 mk, .bool true] 51 (0, 0)) := by rw [<- hW]; exact heap_alloc_new _ _
 have c0 : W.cell? ⟨w.heap.size, 0, none⟩ = some (.slice la n lc) := bC hk1 0
 have HC : Hid (W.cell? ⟨w.heap.size, 0, none⟩ = some (.slice la n lc) /\ W.cell? ⟨w.heap.size, 1, none⟩ = some (.slice ga gn gc) /\ W.cell? ⟨w.heap.size, 3, none⟩ = some (.int .i64 mk) /\ W.cell? ⟨w.heap.size, 4, none⟩ = some (.bool true)) := (show _ /\ _ from ⟨c0, bC hk1 1, bC hk1 3, bC hk1 4⟩)
 have HB : Hid (Below w.heap.size w W) := hbW
 have HH : Hid (DnO w B la ga n mk Y Z) := h
 have Hg : Hid (gn = n + 64) := hg
 clear h hk1 hbW hg
 obtain ⟨hm1, hm2⟩ := hm
 go_enter Try.func31, Try.ntmps31
 go_wp2
 go_loopw [4] (fun v4 wr => ∃ i : Nat, i ≤ n /\ v4 = .int .i64 (i : Int) /\ Hid (Below w.heap.size w wr /\ Below W.heap.size W wr)) (fun v4 _ => n - (intOf v4).toNat)
 case atStart => exact ⟨0, by omega, rfl, (show _ /\ _ from ⟨HB.out, Below.refl _ _⟩)⟩
 case round =>
  obtain ⟨i, hi, rfl, hs⟩ := hrel
  have d0 := bA hs.out.2 HC.out.1
  have d1 := bA hs.out.2 HC.out.2.1
  have d3 := bA hs.out.2 HC.out.2.2.1
  have d4 := bA hs.out.2 HC.out.2.2.2
  obtain ⟨gb, hgb, hg1, hg2⟩ := HH.out.gb
  by_cases hlt : i < n
  ·have i1 : (0 : Int) ≤ (i : Int) := Int.natCast_nonneg _
   have i2 : (i : Int) < (n : Int) := by omega
   have i3 : (i : Int) < (gn : Int) := by have := Hg.out; omega
   obtain ⟨lb, hlb, hl⟩ := HH.out.lb (by omega)
   obtain ⟨yk, yb⟩ := HH.out.yo i hlt
   obtain ⟨y, hy⟩ : ∃ y, Y i = y := ⟨_, rfl⟩
   have l0 := bA hs.out.1 (hl i hlt)
   have g0 := bA hs.out.1 (hg1 i hlt)
   rw [hy] at l0 g0 yk yb
   have y2 : y.bs.length = 2 := by rw [yb]; rfl
   have l0 : wr.cell? ⟨lb, i, none⟩ = some (.slice (some ⟨y.k, 0, none⟩) 2 y.c) := by rw [<- y2]; exact l0
   have g0 : wr.cell? ⟨gb, i, none⟩ = some (.slice (some ⟨y.k, 0, none⟩) 2 y.c) := by rw [<- y2]; exact g0
   have HS1 : Hid (∀ (D : World) (k : Nat), Below wr.heap.size wr D -> D.heap[k]? = some (.cells #[.int .u8 mk, .int .u8 ((i : Int) % 256)] 5 (0, 0)) -> Calls Try.prog 27 #[.slice (some ⟨y.k, 0, none⟩) 2 y.c, .slice (some ⟨k, 0, none⟩) 2 2] D fun e w' => e = .returned (.bool true) /\ Below D.heap.size D w') := fun D k hb hk => (show Calls _ _ _ _ _ from by
    have r1 := (yk.still (bstep hs.out.1 hb)).rd
    have r2 := rd_lit (bs := ob mk i) hk rfl (ob_by ⟨hm1, hm2⟩ i)
    rw [yb] at r1
    exact same_eq r1 r2 (by simp [ob]))
   have HS2 := HS1
   have HS : Hid (Below w.heap.size w wr /\ Below W.heap.size W wr) := hs
   rw [hlb] at d0
   rw [hgb] at d1
   clear hs hlt hl hlb hgb hg1 hg2 yk yb hy y2
   go_wp2
   go_upto_region 5 with (fail)
   go_cut [64] (fun v64 wx => v64 = .bool false /\ Hid (Below w.heap.size w wx /\ Below W.heap.size W wx))
   case first =>
    go_wp2_with (fail)
    refine wp_region_held_drew (S := (fun w' => w'.cell? ⟨w.heap.size, 0, none⟩ = some (.slice (some ⟨lb, 0, none⟩) n lc) /\ w'.cell? ⟨w.heap.size, 1, none⟩ = some (.slice (some ⟨gb, 0, none⟩) gn gc) /\ w'.cell? ⟨w.heap.size, 3, none⟩ = some (.int .i64 mk) /\ w'.cell? ⟨w.heap.size, 4, none⟩ = some (.bool true) /\ w'.cell? ⟨lb, i, none⟩ = some (.slice (some ⟨y.k, 0, none⟩) 2 y.c) /\ w'.cell? ⟨gb, i, none⟩ = some (.slice (some ⟨y.k, 0, none⟩) 2 y.c))) (by kernel_rfl) ⟨(dW0 d0), (dW0 d1), (dW0 d3), (dW0 d4), (dW0 l0), (dW0 g0)⟩ (fun hH => ?_)
    simp only [Act.put, lA, lC, lN, zA]
    refine tG 0 14 (.pointer (some ⟨w.heap.size, 4, none⟩)) rfl hH ?_
    simp only [aP, sA, sZ, sC]
    refine tL 1 15 (.bool true) rfl hH ?_
    simp only [aP, sA, sZ, sC]
    refine tG 2 16 (.bool false) rfl hH ?_
    simp only [aP, sA, sZ, sC]
    refine tG 3 17 (.bool false) rfl hH ?_
    simp only [aP, sA, sZ, sC]
    refine tS 4 18 rfl hH ?_
    simp only [aP, sA, sZ, sC]
    refine tS 5 19 rfl hH ?_
    simp only [aP, sA, sZ, sC]
    refine tS 6 20 rfl hH ?_
    simp only [aP, sA, sZ, sC]
    refine tS 7 21 rfl hH ?_
    simp only [aP, sA, sZ, sC]
    refine tS 8 22 rfl hH ?_
    simp only [aP, sA, sZ, sC]
    refine tS 9 23 rfl hH ?_
    simp only [aP, sA, sZ, sC]
    refine tS 10 24 rfl hH ?_
    simp only [aP, sA, sZ, sC]
    refine tS 11 25 rfl hH ?_
    simp only [aP, sA, sZ, sC]
    refine tS 12 26 rfl hH ?_
    simp only [aP, sA, sZ, sC]
    refine tS 13 27 rfl hH ?_
    simp only [aP, sA, sZ, sC]
    refine tS 14 28 rfl hH ?_
    simp only [aP, sA, sZ, sC]
    refine tS 15 29 rfl hH ?_
    simp only [aP, sA, sZ, sC]
    refine tG 16 30 (.bool false) rfl hH ?_
    simp only [aP, sA, sZ, sC]
    refine tG 17 31 (.bool false) rfl hH ?_
    simp only [aP, sA, sZ, sC]
    refine tK 18 32 (.pointer (some ⟨w.heap.size, 4, none⟩)) rfl hH ?_
    simp only [aP, sA, sZ, sC]
    refine tM 19 33 (.bool true) rfl hH ?_
    simp only [aP, sA, sZ, sC]
    refine tK 20 34 (.bool true) rfl hH ?_
    simp only [aP, sA, sZ, sC]
    refine tK 21 35 (.pointer (some ⟨w.heap.size, 0, none⟩)) rfl hH ?_
    simp only [aP, sA, sZ, sC]
    refine tM 22 36 (.slice (some ⟨lb, 0, none⟩) n lc) rfl hH ?_
    simp only [aP, sA, sZ, sC]
    refine tK 23 37 (.int .i64 (i : Int)) rfl hH ?_
    simp only [aP, sA, sZ, sC]
    refine tK 24 38 (.pointer (some ⟨lb, i, none⟩)) rfl hH ?_
    simp only [aP, sA, sZ, sC]
    refine tM 25 39 (.slice (some ⟨y.k, 0, none⟩) 2 y.c) rfl hH ?_
    simp only [aP, sA, sZ, sC]
    refine tK 26 40 (.pointer (some ⟨w.heap.size, 3, none⟩)) rfl hH ?_
    simp only [aP, sA, sZ, sC]
    refine tM 27 41 (.int .i64 mk) rfl hH ?_
    simp only [aP, sA, sZ, sC]
    refine tX 28 42 (.int .u8 mk) rfl (Or.inl ⟨by kernel_rfl, fun w' hS => by (go_simp <;> exact u8_id _ (by omega))⟩) hH ?_
    simp only [aP, sA, sZ, sC]
    refine tK 29 43 (.int .i64 (i : Int)) rfl hH ?_
    simp only [aP, sA, sZ, sC]
    refine tX 30 44 (.int .u8 ((i : Int) % 256)) rfl (Or.inl ⟨by kernel_rfl, fun w' hS => by (go_simp <;> (first | done | exact IntKind.wrap_u8 _ | (rw [IntKind.wrap_u8])))⟩) hH ?_
    simp only [aP, sA, sZ, sC]
    have hbD1 : Below wr.heap.size wr wr.drew := dB _
    have q0 := bA hbD1 d0
    have q1 := bA hbD1 d1
    have q2 := bA hbD1 d3
    have q3 := bA hbD1 d4
    have q4 := bA hbD1 l0
    have q5 := bA hbD1 g0
    generalize wr.drew = D1 at *
    refine rY 31 rfl fun K hK => ?_
    go_simp
    have hbV1 : Below D1.heap.size D1 (D1.alloc (.cells #[.int .u8 mk, .int .u8 ((i : Int) % 256)] 5)) := balloc (Below.refl _ _)
    have hcV1 : (D1.alloc (.cells #[.int .u8 mk, .int .u8 ((i : Int) % 256)] 5)).heap[D1.heap.size]? = some (.cells #[.int .u8 mk, .int .u8 ((i : Int) % 256)] 5 (0, 0)) := heap_alloc_new _ _
    obtain ⟨kk1, hkk1⟩ : ∃ k, D1.heap.size = k := ⟨_, rfl⟩
    rw [hkk1] at hcV1 ⊢
    generalize D1.alloc (.cells #[.int .u8 mk, .int .u8 ((i : Int) % 256)] 5) = V1 at *
    clear hkk1
    refine hK.out _ _ ⟨(bA hbV1 q0), (bA hbV1 q1), (bA hbV1 q2), (bA hbV1 q3), (bA hbV1 q4), (bA hbV1 q5)⟩ (fun hH => ?_)
    clear hK K
    refine rY 32 rfl fun K hK => ?_
    go_simp
    refine (HS1.out V1 kk1 (bstep hbD1 hbV1) hcV1).mono ?_
    rintro e x2 ⟨rfl, hx2⟩
    refine hK.out _ _ ⟨(bA hx2 (bA hbV1 q0)), (bA hx2 (bA hbV1 q1)), (bA hx2 (bA hbV1 q2)), (bA hx2 (bA hbV1 q3)), (bA hx2 (bA hbV1 q4)), (bA hx2 (bA hbV1 q5))⟩ (fun hH => ?_)
    clear hK K
    refine tK 33 47 (.bool false) rfl hH ?_
    simp only [aP, sA, sZ, sC]
    refine tK 34 48 (.bool false) rfl hH ?_
    simp only [aP, sA, sZ, sC]
    refine tK 35 49 (.pointer (some ⟨w.heap.size, 1, none⟩)) rfl hH ?_
    simp only [aP, sA, sZ, sC]
    refine tM 36 50 (.slice (some ⟨gb, 0, none⟩) gn gc) rfl hH ?_
    simp only [aP, sA, sZ, sC]
    refine tK 37 51 (.int .i64 (i : Int)) rfl hH ?_
    simp only [aP, sA, sZ, sC]
    refine tK 38 52 (.pointer (some ⟨gb, i, none⟩)) rfl hH ?_
    simp only [aP, sA, sZ, sC]
    refine tM 39 53 (.slice (some ⟨y.k, 0, none⟩) 2 y.c) rfl hH ?_
    simp only [aP, sA, sZ, sC]
    refine tK 40 54 (.pointer (some ⟨w.heap.size, 3, none⟩)) rfl hH ?_
    simp only [aP, sA, sZ, sC]
    refine tM 41 55 (.int .i64 mk) rfl hH ?_
    simp only [aP, sA, sZ, sC]
    refine tX 42 56 (.int .u8 mk) rfl (Or.inl ⟨by kernel_rfl, fun w' hS => by (go_simp <;> exact u8_id _ (by omega))⟩) hH ?_
    simp only [aP, sA, sZ, sC]
    refine tK 43 57 (.int .i64 (i : Int)) rfl hH ?_
    simp only [aP, sA, sZ, sC]
    refine tX 44 58 (.int .u8 ((i : Int) % 256)) rfl (Or.inl ⟨by kernel_rfl, fun w' hS => by (go_simp <;> (first | done | exact IntKind.wrap_u8 _ | (rw [IntKind.wrap_u8])))⟩) hH ?_
    simp only [aP, sA, sZ, sC]
    refine rY 45 rfl fun K hK => ?_
    go_simp
    have hbV3 : Below x2.heap.size x2 (x2.alloc (.cells #[.int .u8 mk, .int .u8 ((i : Int) % 256)] 5)) := balloc (Below.refl _ _)
    have hcV3 : (x2.alloc (.cells #[.int .u8 mk, .int .u8 ((i : Int) % 256)] 5)).heap[x2.heap.size]? = some (.cells #[.int .u8 mk, .int .u8 ((i : Int) % 256)] 5 (0, 0)) := heap_alloc_new _ _
    obtain ⟨kk3, hkk3⟩ : ∃ k, x2.heap.size = k := ⟨_, rfl⟩
    rw [hkk3] at hcV3 ⊢
    generalize x2.alloc (.cells #[.int .u8 mk, .int .u8 ((i : Int) % 256)] 5) = V3 at *
    clear hkk3
    refine hK.out _ _ ⟨(bA hbV3 (bA hx2 (bA hbV1 q0))), (bA hbV3 (bA hx2 (bA hbV1 q1))), (bA hbV3 (bA hx2 (bA hbV1 q2))), (bA hbV3 (bA hx2 (bA hbV1 q3))), (bA hbV3 (bA hx2 (bA hbV1 q4))), (bA hbV3 (bA hx2 (bA hbV1 q5)))⟩ (fun hH => ?_)
    clear hK K
    refine rY 46 rfl fun K hK => ?_
    go_simp
    refine (HS2.out V3 kk3 (bstep (bstep (bstep hbD1 hbV1) hx2) hbV3) hcV3).mono ?_
    rintro e x4 ⟨rfl, hx4⟩
    refine hK.out _ _ ⟨(bA hx4 (bA hbV3 (bA hx2 (bA hbV1 q0)))), (bA hx4 (bA hbV3 (bA hx2 (bA hbV1 q1)))), (bA hx4 (bA hbV3 (bA hx2 (bA hbV1 q2)))), (bA hx4 (bA hbV3 (bA hx2 (bA hbV1 q3)))), (bA hx4 (bA hbV3 (bA hx2 (bA hbV1 q4)))), (bA hx4 (bA hbV3 (bA hx2 (bA hbV1 q5))))⟩ (fun hH => ?_)
    clear hK K
    refine tK 47 61 (.bool false) rfl hH ?_
    simp only [aP, sA, sZ, sC]
    refine tK 48 62 (.bool false) rfl hH ?_
    simp only [aP, sA, sZ, sC]
    refine tK 49 63 (.bool false) rfl hH ?_
    simp only [aP, sA, sZ, sC]
    refine tG 50 64 (.bool false) rfl hH ?_
    simp only [aP, sA, sZ, sC]
    refine wpAnyH_done (by kernel_rfl) ?_ _
    clear hH
    have HN : Hid (Below w.heap.size w x4 /\ Below W.heap.size W x4) := (show _ /\ _ from ⟨bstep HS.out.1 (bstep (bstep (bstep (bstep hbD1 hbV1) hx2) hbV3) hx4), bstep HS.out.2 (bstep (bstep (bstep (bstep hbD1 hbV1) hx2) hbV3) hx4)⟩)
    generalize x4 = wz at HN ⊢
    clear HS HS1 HS2 d0 d1 d3 d4 l0 g0
    go_wp2_with (fail)
    go_meet
    exact ⟨rfl, HN⟩
   case rest =>
   obtain ⟨rfl, HN⟩ := hcut
   clear HS HS1 HS2 d0 d1 d3 d4 l0 g0
   go_wp2
   exact ⟨⟨i + 1, by omega, by go_num, HN⟩, by simp [intOf]; omega⟩
  ·have i2 : ¬ (i : Int) < (n : Int) := by omega
   have HS : Hid (Below w.heap.size w wr /\ Below W.heap.size W wr) := hs
   clear hs hg1 hg2 hgb
   generalize wr = wz at *
   go_wp2
   go_loopw [5] (fun v5 wr => ∃ i : Nat, i ≤ 64 /\ v5 = .int .i64 (i : Int) /\ Hid (Below w.heap.size w wr /\ Below W.heap.size W wr)) (fun v5 _ => 64 - (intOf v5).toNat)
   case atStart => exact ⟨0, by omega, rfl, HS⟩
   case round =>
    clear HS d0 d1 d3 d4 i2 hi
    obtain ⟨i, hi, rfl, hs⟩ := hrel
    have d1 := bA hs.out.2 HC.out.2.1
    have d3 := bA hs.out.2 HC.out.2.2.1
    have d4 := bA hs.out.2 HC.out.2.2.2
    obtain ⟨gb, hgb, hg1, hg2⟩ := HH.out.gb
    by_cases hlt : i < 64
    ·have i1 : (0 : Int) ≤ (i : Int) := Int.natCast_nonneg _
     have i2 : (i : Int) < 64 := by omega
     obtain ⟨ni, hni⟩ : ∃ m, n + i = m := ⟨_, rfl⟩
     have n1 : (0 : Int) ≤ (ni : Int) := Int.natCast_nonneg _
     have n2 : (ni : Int) < (gn : Int) := by have := Hg.out; omega
     obtain ⟨r, hr⟩ : ∃ r, i % 50 = r := ⟨_, rfl⟩
     have hr50 : r < 50 := by rw [<- hr]; exact Nat.mod_lt _ (by omega)
     have hrem : Int.tmod (i : Int) 50 = (r : Int) := by rw [<- hr, Int.tmod_eq_emod_of_nonneg i1]; omega
     obtain ⟨zk, zb⟩ := HH.out.zo i hlt
     obtain ⟨z, hz⟩ : ∃ z, Z i = z := ⟨_, rfl⟩
     have g0 := bA hs.out.1 (hg2 i hlt)
     rw [hni, hz] at g0
     rw [hz] at zk zb
     have z3 : z.bs.length = 3 := by rw [zb]; rfl
     have g0 : wr.cell? ⟨gb, ni, none⟩ = some (.slice (some ⟨z.k, 0, none⟩) 3 z.c) := by rw [<- z3]; exact g0
     have HS1 : Hid (∀ (D : World) (k : Nat), Below wr.heap.size wr D -> D.heap[k]? = some (.cells #[.int .u8 mk, .int .u8 (200 + (r : Int)), .int .u8 1] 5 (0, 0)) -> Calls Try.prog 27 #[.slice (some ⟨z.k, 0, none⟩) 3 z.c, .slice (some ⟨k, 0, none⟩) 3 3] D fun e w' => e = .returned (.bool true) /\ Below D.heap.size D w') := fun D k hb hk => (show Calls _ _ _ _ _ from by
      have r1 := (zk.still (bstep hs.out.1 hb)).rd
      have r2 := rd_lit (bs := tb mk i) hk (by unfold tb; rw [hr]; rfl) (tb_by ⟨hm1, hm2⟩ i)
      rw [zb] at r1
      exact same_eq r1 r2 (by simp [tb]))
     have HS : Hid (Below w.heap.size w wr /\ Below W.heap.size W wr) := hs
     rw [hgb] at d1
     have Hni : Hid (n + i = ni) := hni
     clear hs hlt hgb hg1 hg2 hni hr zk zb hz z3
     go_wp2
     go_upto_region 10 with (fail)
     go_cut [89] (fun v89 wx => v89 = .bool false /\ Hid (Below w.heap.size w wx /\ Below W.heap.size W wx))
     case first =>
      go_wp2_with (fail)
      refine wp_region_held_drew (S := (fun w' => w'.cell? ⟨w.heap.size, 1, none⟩ = some (.slice (some ⟨gb, 0, none⟩) gn gc) /\ w'.cell? ⟨w.heap.size, 3, none⟩ = some (.int .i64 mk) /\ w'.cell? ⟨gb, ni, none⟩ = some (.slice (some ⟨z.k, 0, none⟩) 3 z.c))) (by kernel_rfl) ⟨(dW0 d1), (dW0 d3), (dW0 g0)⟩ (fun hH => ?_)
      simp only [Act.put, lA, lC, lN, zA]
      refine tG 0 73 (.pointer (some ⟨w.heap.size, 1, none⟩)) rfl hH ?_
      simp only [aP, sA, sZ, sC]
      refine tL 1 74 (.slice (some ⟨gb, 0, none⟩) gn gc) rfl hH ?_
      simp only [aP, sA, sZ, sC]
      refine tG 2 75 (.int .i64 (n : Int)) rfl hH ?_
      simp only [aP, sA, sZ, sC]
      refine tG 3 76 (.int .i64 (i : Int)) rfl hH ?_
      simp only [aP, sA, sZ, sC]
      refine tX 4 77 (.int .i64 (ni : Int)) rfl (Or.inl ⟨by rfl, fun w' hS => by (go_simp <;> (rw [wrap_id (by omega) (by omega)]; have := Hni.out; omega))⟩) hH ?_
      simp only [aP, sA, sZ, sC]
      refine tG 5 78 (.pointer (some ⟨gb, ni, none⟩)) rfl hH ?_
      simp only [aP, sA, sZ, sC]
      refine tL 6 79 (.slice (some ⟨z.k, 0, none⟩) 3 z.c) rfl hH ?_
      simp only [aP, sA, sZ, sC]
      refine tG 7 80 (.pointer (some ⟨w.heap.size, 3, none⟩)) rfl hH ?_
      simp only [aP, sA, sZ, sC]
      refine tL 8 81 (.int .i64 mk) rfl hH ?_
      simp only [aP, sA, sZ, sC]
      refine tX 9 82 (.int .u8 mk) rfl (Or.inl ⟨by rfl, fun w' hS => by (go_simp <;> exact u8_id _ (by omega))⟩) hH ?_
      simp only [aP, sA, sZ, sC]
      refine tG 10 83 (.int .i64 (i : Int)) rfl hH ?_
      simp only [aP, sA, sZ, sC]
      refine tX 11 84 (.int .i64 (r : Int)) rfl (Or.inl ⟨by rfl, fun w' hS => by (go_simp <;> exact hrem)⟩) hH ?_
      simp only [aP, sA, sZ, sC]
      refine tX 12 85 (.int .i64 (200 + (r : Int))) rfl (Or.inl ⟨by rfl, fun w' hS => by (go_simp <;> exact wrap_id (by omega) (by omega))⟩) hH ?_
      simp only [aP, sA, sZ, sC]
      refine tX 13 86 (.int .u8 (200 + (r : Int))) rfl (Or.inl ⟨by rfl, fun w' hS => by (go_simp <;> exact u8_id _ (by omega))⟩) hH ?_
      simp only [aP, sA, sZ, sC]
      have hbD1 : Below wr.heap.size wr wr.drew := dB _
      have q0 := bA hbD1 d1
      have q1 := bA hbD1 d3
      have q2 := bA hbD1 g0
      generalize wr.drew = D1 at *
      refine rY 14 rfl fun K hK => ?_
      go_simp
      have hbV5 : Below D1.heap.size D1 (D1.alloc (.cells #[.int .u8 mk, .int .u8 (200 + (r : Int)), .int .u8 1] 5)) := balloc (Below.refl _ _)
      have hcV5 : (D1.alloc (.cells #[.int .u8 mk, .int .u8 (200 + (r : Int)), .int .u8 1] 5)).heap[D1.heap.size]? = some (.cells #[.int .u8 mk, .int .u8 (200 + (r : Int)), .int .u8 1] 5 (0, 0)) := heap_alloc_new _ _
      obtain ⟨kk5, hkk5⟩ : ∃ k, D1.heap.size = k := ⟨_, rfl⟩
      rw [hkk5] at hcV5 ⊢
      generalize D1.alloc (.cells #[.int .u8 mk, .int .u8 (200 + (r : Int)), .int .u8 1] 5) = V5 at *
      clear hkk5
      refine hK.out _ _ ⟨(bA hbV5 q0), (bA hbV5 q1), (bA hbV5 q2)⟩ (fun hH => ?_)
      clear hK K
      refine rY 15 rfl fun K hK => ?_
      go_simp
      refine (HS1.out V5 kk5 (bstep hbD1 hbV5) hcV5).mono ?_
      rintro e x6 ⟨rfl, hx6⟩
      refine hK.out _ _ ⟨(bA hx6 (bA hbV5 q0)), (bA hx6 (bA hbV5 q1)), (bA hx6 (bA hbV5 q2))⟩ (fun hH => ?_)
      clear hK K
      refine tG 16 89 (.bool false) rfl hH ?_
      simp only [aP, sA, sZ, sC]
      refine wpAnyH_done (by kernel_rfl) ?_ _
      clear hH
      have HN : Hid (Below w.heap.size w x6 /\ Below W.heap.size W x6) := (show _ /\ _ from ⟨bstep HS.out.1 (bstep (bstep hbD1 hbV5) hx6), bstep HS.out.2 (bstep (bstep hbD1 hbV5) hx6)⟩)
      generalize x6 = wz at HN ⊢
      clear HS HS1 d1 d3 g0 d4
      go_wp2_with (fail)
      go_meet
      exact ⟨rfl, HN⟩
     case rest =>
     obtain ⟨rfl, HN⟩ := hcut
     clear HS HS1 d1 d3 d4 g0
     go_wp2
     exact ⟨⟨i + 1, by omega, by go_num, HN⟩, by simp [intOf]; omega⟩
    ·have i2 : ¬ (i : Int) < 64 := by omega
     have HS : Hid (Below w.heap.size w wr) := hs.out.1
     clear hs hgb hg1 hg2
     go_wp2
     go_ret
     exact ⟨rfl, HS.out⟩
end
end Go.Proofs.Ythanifbimndhaaa.Ln
