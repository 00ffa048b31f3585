import Derived.Test.YthanifbimndhaaaM38
import Derived.Test.YthanifbimndhaaaM30
import Derived.WalkKit
import Derived.ProofKit
import Derived.OpenShut
import Derived.ShutString
import Derived.ChangeOld
import Derived.Below
import Derived.Deep.Slices
import Derived.SizedLaws
namespace Go.Proofs.Ythanifbimndhaaa.Ln
set_option maxHeartbeats 40000000
open Go.RowKit Mb
set_option linter.unusedVariables false
set_option maxRecDepth 100000
set_option linter.unusedSimpArgs false
section
variable {w w' W : World} {B T : Nat} {Y : Pl}
theorem rdi_lit {k : Nat} {C : Array Value} (h : w.heap[k]? = some (.cells #[.int .i64 1] 3 (0, 0))) : RdI w (some ⟨k, 0, none⟩) 1 1 [1] :=
 ⟨rfl, Nat.le_refl _, by simp, .inr ⟨k, 0, rfl, fun i hi => by
  have e : i = 0 := by omega
  subst e
  exact bC h 0⟩⟩
theorem rd1_lit {k : Nat} {x : Int} (h : w.heap[k]? = some (.cells #[.int .u8 x] 5 (0, 0))) (h0 : 0 ≤ x) (h1 : x ≤ 255) : Rd w (some ⟨k, 0, none⟩) 1 1 [x] := rd_lit (bs := [x]) h rfl (By.of (by simp; omega))
theorem first_any : Calls Try.prog 12 #[] w fun e w' => e = .returned (.bool true) /\ Below w.heap.size w w' := by
 have HN : Hid (Calls Try.prog 23 #[.int .i64 2, .int .i64 0, .int .i64 1, .int .i64 1] w fun e w' => e = .returned (.tuple #[.pointer (some ⟨w.heap.size + 1, 0, none⟩), .int .i64 0]) /\ ∃ M, Fs w w' (w.heap.size + 1) w'.heap.size 0 M) := (show Calls _ _ _ _ _ from f_new)
 have HBt : Hid (Try.prog.built 39 [(0, .int .i64 1), (2, .int .i64 1), (3, .int .i64 1)] = some #[.int .i64 1, .int .i64 0, .int .i64 1, .int .i64 1]) := (show _ = _ from by kernel_rfl)
 have HBf : Hid (∀ (g : Nat), Try.prog.built 55 [(0, .agg #[.int .i64 1, .int .i64 0, .int .i64 1, .int .i64 1]), (1, .int .i64 1), (2, .slice (some ⟨g, 0, none⟩) 1 1)] = some #[.int .i64 1, .int .i64 0, .int .i64 1, .int .i64 1, .int .i64 1, .slice (some ⟨g, 0, none⟩) 1 1]) := fun g => (show _ = _ from by kernel_rfl)
 go_enter Try.func12, Try.ntmps12
 go_wp2_with fail
 refine HN.out.mono ?_
 rintro e w1 ⟨rfl, M, hF⟩
 obtain ⟨b, hb⟩ : ∃ b, w.heap.size + 1 = b := ⟨_, rfl⟩
 rw [hb] at hF ⊢
 obtain ⟨X1, hX1⟩ : ∃ X, w1.alloc (.cells #[.int .i64 1, .int .i64 0, .int .i64 1, .int .i64 1] 39) = X := ⟨_, rfl⟩
 have hbX1 : Below w1.heap.size w1 X1 := by rw [<- hX1]; exact balloc (Below.refl _ _)
 have hkX1 : X1.heap[w1.heap.size]? = some (.cells #[.int .i64 1, .int .i64 0, .int .i64 1, .int .i64 1] 39 (0, 0)) := by rw [<- hX1]; exact heap_alloc_new _ _
 obtain ⟨tb, htb⟩ : ∃ k, w1.heap.size = k := ⟨_, rfl⟩
 rw [htb] at hF hkX1
 obtain ⟨X2, hX2⟩ : ∃ X, X1.alloc (.cells #[.int .i64 1] 3) = X := ⟨_, rfl⟩
 have hbX2 : Below X1.heap.size X1 X2 := by rw [<- hX2]; exact balloc (Below.refl _ _)
 have hkX2 : X2.heap[X1.heap.size]? = some (.cells #[.int .i64 1] 3 (0, 0)) := by rw [<- hX2]; exact heap_alloc_new _ _
 obtain ⟨g2, hg2⟩ : ∃ k, X1.heap.size = k := ⟨_, rfl⟩
 rw [hg2] at hkX2
 have htl : tb < X1.heap.size := lt_heap hkX1
 have hb12 : Below w1.heap.size w1 X2 := bstep hbX1 hbX2
 have HR : Hid (Calls Try.prog 25 #[.pointer (some ⟨b, 0, none⟩), .agg #[.int .i64 1, .int .i64 0, .int .i64 1, .int .i64 1], .slice (some ⟨g2, 0, none⟩) 1 1] X2 fun e w' => e = .returned (.int .i64 0) /\ FsO w X2 w' b tb 1) := (show Calls _ _ _ _ _ from f_reset (hF.still hb12) (rdi_lit (C := #[]) hkX2) (fun e => by have h1 := hF.ok.lt e; have h2 := hbX1.size; omega) (by have h2 := hbX2.size; omega))
 have y0 : X1.cell? ⟨tb, 0, none⟩ = some (.int .i64 1) := bC hkX1 0
 have y1 : X1.cell? ⟨tb, 1, none⟩ = some (.int .i64 0) := bC hkX1 1
 have y2 : X1.cell? ⟨tb, 2, none⟩ = some (.int .i64 1) := bC hkX1 2
 have y3 : X1.cell? ⟨tb, 3, none⟩ = some (.int .i64 1) := bC hkX1 3
 have u0 := bA hbX2 y0
 have u1 := bA hbX2 y1
 have u2 := bA hbX2 y2
 have u3 := bA hbX2 y3
 have Htl : Hid (tb < X2.heap.size) := (show _ < _ from by have h2 := hbX2.size; omega)
 clear HN hF hb hbX1 hkX1 hbX2 hkX2 htl hb12
 go_wp2_with (first | (go_at_call 24; refine (num_any _).mono ?_; rintro e w9 ⟨rfl, rfl⟩) | (refine bstp3 39 0 2 3 (.const (.int .i64 1)) (.const (.int .i64 1)) (.const (.int .i64 1)) _ _ _ _ HBt.out rfl rfl rfl rfl rfl ?_) | fail)
 refine HR.out.mono ?_
 rintro e w3 ⟨rfl, ⟨⟨M, hF⟩, hK⟩⟩
 have z0 := kC hK (fun e => e rfl) u0
 have z1 := kC hK (fun e => e rfl) u1
 have z2 := kC hK (fun e => e rfl) u2
 have z3 := kC hK (fun e => e rfl) u3
 have ht3 : tb < w3.heap.size := Nat.lt_of_lt_of_le Htl.out hK.size
 obtain ⟨X4, hX4⟩ : ∃ X, w3.alloc (.cells #[.int .u8 5] 5) = X := ⟨_, rfl⟩
 have hbX4 : Below w3.heap.size w3 X4 := by rw [<- hX4]; exact balloc (Below.refl _ _)
 have hkX4 : X4.heap[w3.heap.size]? = some (.cells #[.int .u8 5] 5 (0, 0)) := by rw [<- hX4]; exact heap_alloc_new _ _
 obtain ⟨g4, hg4⟩ : ∃ k, w3.heap.size = k := ⟨_, rfl⟩
 rw [hg4] at hkX4
 have HP : Hid (Calls Try.prog 26 #[.pointer (some ⟨b, 0, none⟩), .int .i64 1, .slice (some ⟨g4, 0, none⟩) 1 1] X4 fun e w' => e = .returned (.int .i64 0) /\ FsO w X4 w' b tb 2) := (show Calls _ _ _ _ _ from f_push (hF.still hbX4) (rd1_lit hkX4 (by omega) (by omega)) (by have := hbX4.size; omega))
 have a0 := bA hbX4 z0
 have a1 := bA hbX4 z1
 have a2 := bA hbX4 z2
 have a3 := bA hbX4 z3
 have Htl4 : Hid (tb < X4.heap.size) := (show _ < _ from by have := hbX4.size; omega)
 clear HR hF hK hbX4 hkX4 ht3 Htl y0 y1 y2 y3 u0 u1 u2 u3 z0 z1 z2 z3 hX1 hX2 htb hg2
 as_aux_lemma =>
 go_wp2_with (first | (go_at_call 24; refine (num_any _).mono ?_; rintro e w9 ⟨rfl, rfl⟩) | fail)
 refine HP.out.mono ?_
 rintro e w5 ⟨rfl, ⟨⟨M, hF⟩, hK⟩⟩
 have z0 := kC hK (fun e => e rfl) a0
 have z1 := kC hK (fun e => e rfl) a1
 have z2 := kC hK (fun e => e rfl) a2
 have z3 := kC hK (fun e => e rfl) a3
 obtain ⟨X6, hX6⟩ : ∃ X, w5.alloc (.cells #[.int .u8 6] 5) = X := ⟨_, rfl⟩
 have hbX6 : Below w5.heap.size w5 X6 := by rw [<- hX6]; exact balloc (Below.refl _ _)
 have hkX6 : X6.heap[w5.heap.size]? = some (.cells #[.int .u8 6] 5 (0, 0)) := by rw [<- hX6]; exact heap_alloc_new _ _
 obtain ⟨g6, hg6⟩ : ∃ k, w5.heap.size = k := ⟨_, rfl⟩
 have HF6 : Hid (Fs w X6 b tb 2 M) := (show Fs _ _ _ _ _ _ from hF.still hbX6)
 have HP6 : Hid (Calls Try.prog 26 #[.pointer (some ⟨b, 0, none⟩), .int .i64 1, .slice (some ⟨g6, 0, none⟩) 1 1] X6 fun e w' => e = .returned (.int .i64 42) /\ Below X6.heap.size X6 w') := (show Calls _ _ _ _ _ from f_full HF6.out)
 have c0 := bA hbX6 z0
 have c1 := bA hbX6 z1
 have c2 := bA hbX6 z2
 have c3 := bA hbX6 z3
 clear HP hF hK hbX6 hkX6 Htl4 a0 a1 a2 a3 z0 z1 z2 z3 hX4 hg4
 as_aux_lemma =>
 go_wp2_with (first | (go_at_call 24; refine (num_any _).mono ?_; rintro e w9 ⟨rfl, rfl⟩) | fail)
 refine HP6.out.mono ?_
 rintro e w7 ⟨rfl, hb7⟩
 have HF7 : Hid (Fs w w7 b tb 2 M) := (show Fs _ _ _ _ _ _ from HF6.out.still hb7)
 have HFr : Hid (Calls Try.prog 20 #[.pointer (some ⟨b, 0, none⟩), .int .i64 1] w7 fun e w' => FfO w7 w' e) := (show Calls _ _ _ _ _ from f_frames HF7.out)
 have d0 := bA hb7 c0
 have d1 := bA hb7 c1
 have d2 := bA hb7 c2
 have d3 := bA hb7 c3
 clear HP6 HF6 hb7 c0 c1 c2 c3 hX6 hg6
 as_aux_lemma =>
 go_wp2_with (first | (go_at_call 24; refine (num_any _).mono ?_; rintro e w9 ⟨rfl, rfl⟩) | fail)
 refine HFr.out.mono ?_
 rintro e w8 ⟨fb, yk, rfl, f0, f1, f2, f3, f4, f5, hrd, hb8⟩
 have HF8 : Hid (Fs w w8 b tb 2 M) := (show Fs _ _ _ _ _ _ from HF7.out.still hb8)
 have HSm : Hid (∀ (D : World) (k : Nat), Below w8.heap.size w8 D -> D.heap[k]? = some (.cells #[.int .u8 5] 5 (0, 0)) -> Calls Try.prog 27 #[.slice (some ⟨yk, 0, none⟩) 1 1, .slice (some ⟨k, 0, none⟩) 1 1] D fun e w' => e = .returned (.bool true) /\ Below D.heap.size D w') := fun D k hb hk => (show Calls _ _ _ _ _ from same_eq (hrd.still hb) (rd1_lit hk (by omega) (by omega)) (by omega))
 have t0 := bA hb8 d0
 have t1 := bA hb8 d1
 have t2 := bA hb8 d2
 have t3 := bA hb8 d3
 clear HFr hrd hb8 HF7 d0 d1 d2 d3
 as_aux_lemma =>
 go_wp2
 refine wp_region_held_drew (S := (fun w' => w'.cell? ⟨fb, 0, none⟩ = some (.int .i64 1) /\ w'.cell? ⟨fb, 1, none⟩ = some (.int .i64 0) /\ w'.cell? ⟨fb, 2, none⟩ = some (.int .i64 1) /\ w'.cell? ⟨fb, 3, none⟩ = some (.int .i64 1) /\ w'.cell? ⟨fb, 4, none⟩ = some (.int .i64 1) /\ w'.cell? ⟨fb, 5, none⟩ = some (.slice (some ⟨yk, 0, none⟩) 1 1) /\ w'.cell? ⟨tb, 0, none⟩ = some (.int .i64 1) /\ w'.cell? ⟨tb, 1, none⟩ = some (.int .i64 0) /\ w'.cell? ⟨tb, 2, none⟩ = some (.int .i64 1) /\ w'.cell? ⟨tb, 3, none⟩ = some (.int .i64 1))) (by kernel_rfl) ⟨(dW0 f0), (dW0 f1), (dW0 f2), (dW0 f3), (dW0 f4), (dW0 f5), (dW0 t0), (dW0 t1), (dW0 t2), (dW0 t3)⟩ (fun hH => ?_)
 simp only [Act.put, lA, lC, lN, zA]
 refine tG 0 41 (.slice (some ⟨fb, 0, none⟩) 1 1) rfl hH ?_
 simp only [aP, sA, sZ, sC]
 refine tG 1 42 (.int .i64 1) rfl hH ?_
 simp only [aP, sA, sZ, sC]
 refine tG 2 43 (.bool false) rfl hH ?_
 simp only [aP, sA, sZ, sC]
 refine tG 3 44 (.bool false) rfl hH ?_
 simp only [aP, sA, sZ, sC]
 refine tK 4 45 (.slice (some ⟨fb, 0, none⟩) 1 1) rfl hH ?_
 simp only [aP, sA, sZ, sC]
 refine tK 5 46 (.pointer (some ⟨fb, 0, none⟩)) rfl hH ?_
 simp only [aP, sA, sZ, sC]
 refine tK 6 47 (.pointer (some ⟨fb, 4, none⟩)) rfl hH ?_
 simp only [aP, sA, sZ, sC]
 refine tM 7 48 (.int .i64 1) rfl hH ?_
 simp only [aP, sA, sZ, sC]
 refine tM 8 49 (.bool false) rfl hH ?_
 simp only [aP, sA, sZ, sC]
 refine tG 9 50 (.bool false) rfl hH ?_
 simp only [aP, sA, sZ, sC]
 refine tG 10 51 (.bool false) rfl hH ?_
 simp only [aP, sA, sZ, sC]
 refine tK 11 52 (.slice (some ⟨fb, 0, none⟩) 1 1) rfl hH ?_
 simp only [aP, sA, sZ, sC]
 refine tK 12 53 (.pointer (some ⟨fb, 0, none⟩)) rfl hH ?_
 simp only [aP, sA, sZ, sC]
 refine tK 13 54 (.pointer (some ⟨fb, 0, none⟩)) rfl hH ?_
 simp only [aP, sA, sZ, sC]
 refine tM 14 55 (.agg #[.int .i64 1, .int .i64 0, .int .i64 1, .int .i64 1]) rfl hH ?_
 simp only [aP, sA, sZ, sC]
 refine tM 15 56 (.agg #[.int .i64 1, .int .i64 0, .int .i64 1, .int .i64 1]) rfl hH ?_
 simp only [aP, sA, sZ, sC]
 refine tK 16 57 (.bool false) rfl hH ?_
 simp only [aP, sA, sZ, sC]
 refine tG 17 58 (.bool false) rfl hH ?_
 simp only [aP, sA, sZ, sC]
 refine tG 18 59 (.bool false) rfl hH ?_
 simp only [aP, sA, sZ, sC]
 refine tK 19 60 (.slice (some ⟨fb, 0, none⟩) 1 1) rfl hH ?_
 simp only [aP, sA, sZ, sC]
 refine tK 20 61 (.pointer (some ⟨fb, 0, none⟩)) rfl hH ?_
 simp only [aP, sA, sZ, sC]
 refine tK 21 62 (.pointer (some ⟨fb, 5, none⟩)) rfl hH ?_
 simp only [aP, sA, sZ, sC]
 refine tM 22 63 (.slice (some ⟨yk, 0, none⟩) 1 1) rfl hH ?_
 simp only [aP, sA, sZ, sC]
 have hbD8 : Below w8.heap.size w8 w8.drew := dB _
 have q0 := bA hbD8 f0
 have q1 := bA hbD8 f1
 have q2 := bA hbD8 f2
 have q3 := bA hbD8 f3
 have q4 := bA hbD8 f4
 have q5 := bA hbD8 f5
 have q6 := bA hbD8 t0
 have q7 := bA hbD8 t1
 have q8 := bA hbD8 t2
 have q9 := bA hbD8 t3
 generalize w8.drew = D8 at *
 refine rY 23 rfl fun K hK => ?_
 go_simp
 have hbV1 : Below D8.heap.size D8 (D8.alloc (.cells #[.int .u8 5] 5)) := balloc (Below.refl _ _)
 have hcV1 : (D8.alloc (.cells #[.int .u8 5] 5)).heap[D8.heap.size]? = some (.cells #[.int .u8 5] 5 (0, 0)) := heap_alloc_new _ _
 obtain ⟨kk1, hkk1⟩ : ∃ k, D8.heap.size = k := ⟨_, rfl⟩
 rw [hkk1] at hcV1 ⊢
 generalize D8.alloc (.cells #[.int .u8 5] 5) = V1 at *
 clear hkk1
 refine hK.out _ _ ⟨(bA hbV1 q0), (bA hbV1 q1), (bA hbV1 q2), (bA hbV1 q3), (bA hbV1 q4), (bA hbV1 q5), (bA hbV1 q6), (bA hbV1 q7), (bA hbV1 q8), (bA hbV1 q9)⟩ (fun hH => ?_)
 clear hK K
 refine rY 24 rfl fun K hK => ?_
 go_simp
 refine (HSm.out V1 kk1 (bstep hbD8 hbV1) hcV1).mono ?_
 rintro e x2 ⟨rfl, hx2⟩
 refine hK.out _ _ ⟨(bA hx2 (bA hbV1 q0)), (bA hx2 (bA hbV1 q1)), (bA hx2 (bA hbV1 q2)), (bA hx2 (bA hbV1 q3)), (bA hx2 (bA hbV1 q4)), (bA hx2 (bA hbV1 q5)), (bA hx2 (bA hbV1 q6)), (bA hx2 (bA hbV1 q7)), (bA hx2 (bA hbV1 q8)), (bA hx2 (bA hbV1 q9))⟩ (fun hH => ?_)
 clear hK K
 refine tK 25 66 (.bool false) rfl hH ?_
 simp only [aP, sA, sZ, sC]
 refine tG 26 67 (.bool false) rfl hH ?_
 simp only [aP, sA, sZ, sC]
 refine wpAnyH_done (by kernel_rfl) ?_ _
 clear hH
 have HF9 : Hid (Fs w x2 b tb 2 M) := (show Fs _ _ _ _ _ _ from HF8.out.still (bstep (bstep hbD8 hbV1) hx2))
 have g0 := (bA hx2 (bA hbV1 q6))
 have g1 := (bA hx2 (bA hbV1 q7))
 have g2 := (bA hx2 (bA hbV1 q8))
 have g3 := (bA hx2 (bA hbV1 q9))
 generalize x2 = w9 at HF9 g0 g1 g2 g3 ⊢
 obtain ⟨XA, hXA⟩ : ∃ X, w9.alloc (.cells #[.int .u8 7] 5) = X := ⟨_, rfl⟩
 have hbXA : Below w9.heap.size w9 XA := by rw [<- hXA]; exact balloc (Below.refl _ _)
 have hkXA : XA.heap[w9.heap.size]? = some (.cells #[.int .u8 7] 5 (0, 0)) := by rw [<- hXA]; exact heap_alloc_new _ _
 obtain ⟨ga, hga⟩ : ∃ k, w9.heap.size = k := ⟨_, rfl⟩
 rw [hga] at hkXA
 have HTk : Hid (Calls Try.prog 28 #[.pointer (some ⟨b, 0, none⟩), .int .i64 1, .agg #[.int .i64 1, .int .i64 0, .int .i64 1, .int .i64 1, .int .i64 1, .slice (some ⟨ga, 0, none⟩) 1 1]] XA fun e w' => FtO w XA w' tb e) := (show Calls _ _ _ _ _ from f_take (HF9.out.still hbXA) (rd1_lit hkXA (by omega) (by omega)))
 clear hbXA hkXA HF9 HF8 HSm
 as_aux_lemma =>
 go_wp2_with (first | (refine bstp3 55 0 1 2 (.tmp 70) (.const (.int .i64 1)) (.tmp 71) _ _ _ _ (HBf.out _) rfl rfl rfl rfl rfl ?_) | fail)
 refine HTk.out.mono ?_
 rintro e wB ⟨lb, c, zk, rfl, h0, hrd, hbB⟩
 obtain ⟨XC, hXC⟩ : ∃ X, wB.alloc (.cells #[.int .u8 7] 5) = X := ⟨_, rfl⟩
 have hbXC : Below wB.heap.size wB XC := by rw [<- hXC]; exact balloc (Below.refl _ _)
 have hkXC : XC.heap[wB.heap.size]? = some (.cells #[.int .u8 7] 5 (0, 0)) := by rw [<- hXC]; exact heap_alloc_new _ _
 obtain ⟨gc, hgc⟩ : ∃ k, wB.heap.size = k := ⟨_, rfl⟩
 rw [hgc] at hkXC
 have HbC : Hid (Below w.heap.size w XC) := (show Below _ _ _ from bstep hbB hbXC)
 have HSn : Hid (Calls Try.prog 27 #[.slice (some ⟨zk, 0, none⟩) 1 1, .slice (some ⟨gc, 0, none⟩) 1 1] XC fun e w' => e = .returned (.bool true) /\ Hid (Below w.heap.size w w')) := (show Calls _ _ _ _ _ from (same_eq (hrd.still hbXC) (rd1_lit hkXC (by omega) (by omega)) (by omega)).mono fun e w' hx => ⟨hx.1, (show Below _ _ _ from bstep HbC.out hx.2)⟩)
 clear hbXC hkXC hrd hbB HTk HbC hXA hga
 as_aux_lemma =>
 go_wp2_with (first | (go_at_call 24; refine (num_any _).mono ?_; rintro e w9 ⟨rfl, rfl⟩) | (go_at_call 27; refine HSn.out.mono ?_; rintro e wZ ⟨rfl, HZ⟩) | fail)
 go_ret
 exact ⟨rfl, HZ.out⟩
end
def i64 (v : Int) : Prop := -9223372036854775808 ≤ v /\ v ≤ 9223372036854775807
structure OpIn (W : World) (b o : Nat) : Prop where
 out : ∃ (mu kd pe nn mm ww : Int) (t : Tg) (bs xs : List Int) (ba pa : Option Addr) (bn bc pn pc : Nat), (∀ j, j < 12 -> W.cell? ⟨b, o + j, none⟩ = ([.int .i64 mu, .int .i64 kd, .int .i64 pe, .int .i64 nn, .int .i64 mm, .int .i64 ww, .int .i64 t.e, .int .i64 t.l, .int .i64 t.i, .int .i64 t.c, .slice ba bn bc, .slice pa pn pc] : List Value)[j]?) /\ ArgOk W W.heap.size ba bn bc bs pa pn pc xs
def RdOps (W : World) (a : Option Addr) (n : Nat) : Prop := n = 0 ∨ ∃ b off, a = some ⟨b, off, none⟩ /\ ∀ i, i < n -> OpIn W b (off + i * 12)
end Go.Proofs.Ythanifbimndhaaa.Ln
namespace Go.Proofs.Ythanifbimndhaaa.Oe
set_option maxHeartbeats 40000000
open Go.ChangeShapes Go.WideShapes Go.ChangeAt Go.RowKit Ln Mb
set_option linter.unusedVariables false
set_option linter.unusedSimpArgs false

section
variable {H : Type} {enc : TypeId × Value -> H} {W : World}

def Wt (d : DataW H) (t : TypeId) : Prop := ∀ m ∈ d.weights Try.prog t, m ≤ reachBytes

theorem struct_parts {t : TypeId} {fs : Array Field} {fuel : Nat} {cs : List Value} {x : DataW H × List MemPlace} (ht : Try.prog.underlying t = some (.struct fs)) (h : DataW.trod enc Try.prog W 0 (fun _ => true) true fuel t cs = some x) (hw : Wt x.1 t) :
  ∃ (xs : List (DataW H × List MemPlace)) (n : Nat), xs.length = fs.size /\ (∀ (i : Nat) (f : Field), fs[i]? = some f -> DataW.trod enc Try.prog W 0 (fun _ => true) true n f.type ((cs.drop f.offset).take (Try.prog.cellsOf f.type)) = xs[i]?) /\ ∀ (i : Nat) (f : Field) y, fs[i]? = some f -> xs[i]? = some y -> Wt y.1 f.type := by
 obtain ⟨xs, n, _, hx, _, hl, hF⟩ := DataW.trod_struct ht h
 refine ⟨xs, n, hl, hF, fun i f y hf hy m hm => hw m ?_⟩
 rw [hx]
 simp only [DataW.weights, ht]
 exact DataW.weights_mem_each (j := i) (by rw [List.getElem?_map, Array.getElem?_toList, hf]; rfl) (by rw [List.getElem?_map, hy]; rfl) m hm


theorem cI : Try.prog.cellsOf 3 = 1 := by kernel_rfl
theorem cIs : Try.prog.cellsOf 41 = 1 := by kernel_rfl
theorem cU : Try.prog.cellsOf 5 = 1 := by kernel_rfl
theorem cB : Try.prog.cellsOf 40 = 1 := by kernel_rfl
theorem cO : Try.prog.cellsOf 43 = 12 := by kernel_rfl
theorem cID : Try.prog.cellsOf 39 = 4 := by kernel_rfl
theorem bU : Try.prog.bytesOf 5 = 1 := by kernel_rfl
theorem bI : Try.prog.bytesOf 3 = 8 := by kernel_rfl
theorem bO : Try.prog.bytesOf 43 = 128 := by kernel_rfl
theorem open_i {fuel : Nat} {c : Value} {x : DataW H × List MemPlace} (h : DataW.trod enc Try.prog W 0 (fun _ => true) true fuel 3 [c] = some x) : ∃ v : Int, c = .int .i64 v /\ i64 v := by
 obtain ⟨v, e, _, hw⟩ := DataW.trod_int Try.underlying3 h
 simp only [List.cons.injEq, and_true] at e
 refine ⟨v, e, ?_⟩
 have h2 : -9223372036854775808 ≤ v /\ v ≤ 9223372036854775807 := by simpa [Lit.wf, IntKind.min, IntKind.max, IntKind.signed, IntKind.bits] using hw
 exact h2
theorem row_of {k : IntKind} {x : Addr} {l c : Nat} {zs : List Int} (hl : l ≤ c) (hz : zs.length = c) (hcell : ∀ i, i < zs.length -> W.cell? (x.add i) = some (.int k (zs.getD i 0))) : l = 0 ∨ ∃ b off, some x = some (⟨b, off, none⟩ : Addr) /\ ∀ i, i < l -> W.cell? ⟨b, off + i, none⟩ = some (.int k ((zs.take l).getD i 0)) := by
 by_cases h0 : l = 0
 ·exact .inl h0
 ·obtain ⟨b, off, spot⟩ := x
  have hc := hcell 0 (by omega)
  have hspot : spot = none := by simpa [Addr.add] using World.cell?_spot hc
  subst hspot
  refine .inr ⟨b, off, rfl, fun i hi => ?_⟩
  have := hcell i (by omega)
  rw [Addr.add_lit] at this
  rw [this]
  simp [List.getD, hi]


theorem open_bs {fuel : Nat} {v : Value} {x : DataW H × List MemPlace} (h : DataW.trod enc Try.prog W 0 (fun _ => true) true fuel 40 [v] = some x) (hw : Wt x.1 40) : ∃ a n c xs, v = .slice a n c /\ Rd W a n c xs /\ n ≤ 140737488351232 := by
 rcases open_ints Try.underlying40 Try.underlying5 cU h with ⟨hcs, _⟩ | ⟨x, l, c, zs, hcs, _, hl, hm, hz, hx3, hcell, hwz⟩
 ·simp only [List.cons.injEq, and_true] at hcs
  subst hcs
  exact ⟨none, 0, 0, [], rfl, ⟨rfl, Nat.le_refl _, fun _ => rfl, .inl rfl, fun i => by simp⟩, by omega⟩
 ·simp only [List.cons.injEq, and_true] at hcs
  subst hcs
  simp only [if_true] at hz
  refine ⟨some x, l, c, zs.take l, rfl, ⟨by rw [List.length_take]; omega, hl, fun e => (by cases e), row_of hl hz hcell, fun i => ?_⟩, ?_⟩
  ·by_cases hi : i < (zs.take l).length
   ·have hmem : (zs.take l).getD i 0 ∈ zs := by
     have : (zs.take l).getD i 0 ∈ zs.take l := by simp only [List.getD, List.getElem?_eq_getElem hi]; exact List.getElem_mem hi
     exact List.mem_of_mem_take this
    have := hwz _ hmem
    simpa [Lit.wf, IntKind.min, IntKind.max, IntKind.signed, IntKind.bits] using this
   ·simp [List.getD, List.getElem?_eq_none (by omega : (zs.take l).length ≤ i)]
  ·have := hw ((((lits .u8 (zs.take l) : List (DataW H)).length + (lits .u8 (zs.drop l) : List (DataW H)).length) * Try.prog.bytesOf 5)) (by rw [hx3]; simp [DataW.weights, Try.underlying40])
   rw [bU] at this
   simp only [lits, List.length_map, List.length_take, List.length_drop, reachBytes] at this
   omega
theorem wAll {e : TypeId} : ∀ {l : List (DataW H)} {d : DataW H}, d ∈ l -> ∀ m ∈ d.weights Try.prog e, m ∈ DataW.weightsAll Try.prog e l
 | d0 :: l, d, hd, m, hm => by
  simp only [DataW.weightsAll, List.mem_append]
  rcases List.mem_cons.1 hd with rfl | hd
  ·exact .inl hm
  ·exact .inr (wAll hd m hm)


theorem list4 {α : Type} {l : List α} (h : l.length = 4) : ∃ c0 c1 c2 c3, l = [c0, c1, c2, c3] := by
 match l, h with
 | [c0, c1, c2, c3], _ => exact ⟨c0, c1, c2, c3, rfl⟩
theorem slice_parts {t e : TypeId} {fuel k : Nat} {v : Value} {x : DataW H × List MemPlace} (ht : Try.prog.underlying t = some (.slice e)) (hc : Try.prog.cellsOf e = k) (hk : 0 < k) (h : DataW.trod enc Try.prog W 0 (fun _ => true) true fuel t [v] = some x) (hw : Wt x.1 t) :
  v = .slice none 0 0 ∨ ∃ (ad : Addr) (len cap n : Nat) (D : Nat -> DataW H) (Pl : Nat -> List MemPlace), v = .slice (some ad) len cap /\ len * Try.prog.bytesOf e ≤ reachBytes /\ ∀ i, i < len -> Wt (D i) e /\ ∃ cs', cs'.length = k /\ (∀ j, j < k -> W.cell? (ad.add (i * k + j)) = cs'[j]?) /\ DataW.trod enc Try.prog W 0 (fun _ => true) true n e cs' = some (D i, Pl i) := by
 rcases Deep.open_slice ht h with ⟨hcs, _⟩ | ⟨a, len, cap, m, n, D, Pl, hcs, _, hl, _, hm, hx, hel⟩
 ·simp only [List.cons.injEq, and_true] at hcs
  exact .inl hcs
 ·simp only [List.cons.injEq, and_true] at hcs
  simp only [if_true] at hm
  have hx1 : x.1 = .slice ((List.range len).map D) ((List.range (m - len)).map fun j => D (len + j)) := by rw [hx]
  refine .inr ⟨a, len, cap, n, D, Pl, hcs, ?_, fun i hi => ⟨fun w hw' => hw w ?_, ?_⟩⟩
  ·have := hw (((((List.range len).map D).length + ((List.range (m - len)).map fun j => D (len + j)).length)) * Try.prog.bytesOf e) (by rw [hx1]; simp [DataW.weights, ht])
   simp only [List.length_map, List.length_range] at this
   refine Nat.le_trans (Nat.mul_le_mul_right _ ?_) this
   omega
  ·rw [hx1]
   simp only [DataW.weights, ht, List.mem_cons, List.mem_append]
   exact .inr (.inl (wAll (List.mem_map.2 ⟨i, List.mem_range.2 hi, rfl⟩) w hw'))
  ·obtain ⟨cs', h1, h2⟩ := hel i (by omega)
   rw [hc] at h1
   obtain ⟨_, hlen, hcell⟩ := World.cells?_some h1
   refine ⟨cs', hlen, fun j hj => ?_, h2⟩
   have := hcell j (by omega)
   rw [Addr.add_add] at this
   exact this


theorem open_is {fuel : Nat} {v : Value} {x : DataW H × List MemPlace} (h : DataW.trod enc Try.prog W 0 (fun _ => true) true fuel 41 [v] = some x) (hw : Wt x.1 41) : ∃ a n c xs, v = .slice a n c /\ RdI W a n c xs /\ n * 8 ≤ 140737488351232 := by
 rcases open_ints Try.underlying41 Try.underlying3 cI h with ⟨hcs, _⟩ | ⟨x, l, c, zs, hcs, _, hl, hm, hz, hx3, hcell, hwz⟩
 ·simp only [List.cons.injEq, and_true] at hcs
  subst hcs
  exact ⟨none, 0, 0, [], rfl, ⟨rfl, Nat.le_refl _, fun _ => rfl, .inl rfl⟩, by omega⟩
 ·simp only [List.cons.injEq, and_true] at hcs
  subst hcs
  simp only [if_true] at hz
  refine ⟨some x, l, c, zs.take l, rfl, ⟨by rw [List.length_take]; omega, hl, fun e => (by cases e), row_of hl hz hcell⟩, ?_⟩
  have := hw ((((lits .i64 (zs.take l) : List (DataW H)).length + (lits .i64 (zs.drop l) : List (DataW H)).length) * Try.prog.bytesOf 3)) (by rw [hx3]; simp [DataW.weights, Try.underlying41])
  rw [bI] at this
  simp only [lits, List.length_map, List.length_take, List.length_drop, reachBytes] at this
  omega
theorem list9 {α : Type} {l : List α} (h : l.length = 9) : ∃ c0 c1 c2 c3 c4 c5 c6 c7 c8, l = [c0, c1, c2, c3, c4, c5, c6, c7, c8] := by
 match l, h with
 | [c0, c1, c2, c3, c4, c5, c6, c7, c8], _ => exact ⟨c0, c1, c2, c3, c4, c5, c6, c7, c8, rfl⟩
theorem list12 {α : Type} {l : List α} (h : l.length = 12) : ∃ c0 c1 c2 c3 c4 c5 c6 c7 c8 c9 c10 c11, l = [c0, c1, c2, c3, c4, c5, c6, c7, c8, c9, c10, c11] := by
 match l, h with
 | [c0, c1, c2, c3, c4, c5, c6, c7, c8, c9, c10, c11], _ => exact ⟨c0, c1, c2, c3, c4, c5, c6, c7, c8, c9, c10, c11, rfl⟩
set_option maxRecDepth 100000 in
theorem open_id {fuel : Nat} {c0 c1 c2 c3 : Value} {x : DataW H × List MemPlace} (h : DataW.trod enc Try.prog W 0 (fun _ => true) true fuel 39 [c0, c1, c2, c3] = some x) (hw : Wt x.1 39) : ∃ t : Tg, c0 = .int .i64 t.e /\ c1 = .int .i64 t.l /\ c2 = .int .i64 t.i /\ c3 = .int .i64 t.c := by
 obtain ⟨xs, m, hxl, hF, hW⟩ := struct_parts Try.underlying39 h hw
 obtain ⟨y0, y1, y2, y3, rfl⟩ := list4 hxl
 have h0 : DataW.trod enc Try.prog W 0 (fun _ => true) true m 3 [c0] = some y0 := by simpa [cI] using hF 0 _ rfl
 have h1 : DataW.trod enc Try.prog W 0 (fun _ => true) true m 3 [c1] = some y1 := by simpa [cI] using hF 1 _ rfl
 have h2 : DataW.trod enc Try.prog W 0 (fun _ => true) true m 3 [c2] = some y2 := by simpa [cI] using hF 2 _ rfl
 have h3 : DataW.trod enc Try.prog W 0 (fun _ => true) true m 3 [c3] = some y3 := by simpa [cI] using hF 3 _ rfl
 obtain ⟨a, rfl, _⟩ := open_i h0
 obtain ⟨b, rfl, _⟩ := open_i h1
 obtain ⟨c, rfl, _⟩ := open_i h2
 obtain ⟨d, rfl, _⟩ := open_i h3
 exact ⟨⟨a, b, c, d⟩, rfl, rfl, rfl, rfl⟩
set_option maxRecDepth 100000 in
theorem open_op {fuel b o : Nat} {cs : List Value} {x : DataW H × List MemPlace} (hl : cs.length = 12) (hc : ∀ j, j < 12 -> W.cell? ⟨b, o + j, none⟩ = cs[j]?) (h : DataW.trod enc Try.prog W 0 (fun _ => true) true fuel 43 cs = some x) (hw : Wt x.1 43) : OpIn W b o := by
 obtain ⟨c0, c1, c2, c3, c4, c5, c6, c7, c8, c9, c10, c11, rfl⟩ := list12 hl
 obtain ⟨xs, m, hxl, hF, hW⟩ := struct_parts Try.underlying43 h hw
 obtain ⟨y0, y1, y2, y3, y4, y5, y6, y7, y8, rfl⟩ := list9 hxl
 have h0 : DataW.trod enc Try.prog W 0 (fun _ => true) true m 3 [c0] = some y0 := by simpa [cI] using hF 0 _ rfl
 have h1 : DataW.trod enc Try.prog W 0 (fun _ => true) true m 3 [c1] = some y1 := by simpa [cI] using hF 1 _ rfl
 have h2 : DataW.trod enc Try.prog W 0 (fun _ => true) true m 3 [c2] = some y2 := by simpa [cI] using hF 2 _ rfl
 have h3 : DataW.trod enc Try.prog W 0 (fun _ => true) true m 3 [c3] = some y3 := by simpa [cI] using hF 3 _ rfl
 have h4 : DataW.trod enc Try.prog W 0 (fun _ => true) true m 3 [c4] = some y4 := by simpa [cI] using hF 4 _ rfl
 have h5 : DataW.trod enc Try.prog W 0 (fun _ => true) true m 3 [c5] = some y5 := by simpa [cI] using hF 5 _ rfl
 have h6 : DataW.trod enc Try.prog W 0 (fun _ => true) true m 39 [c6, c7, c8, c9] = some y6 := by simpa [cID] using hF 6 _ rfl
 have h7 : DataW.trod enc Try.prog W 0 (fun _ => true) true m 40 [c10] = some y7 := by simpa [cB] using hF 7 _ rfl
 have h8 : DataW.trod enc Try.prog W 0 (fun _ => true) true m 41 [c11] = some y8 := by simpa [cIs] using hF 8 _ rfl
 obtain ⟨mu, rfl, _⟩ := open_i h0
 obtain ⟨kd, rfl, _⟩ := open_i h1
 obtain ⟨pe, rfl, _⟩ := open_i h2
 obtain ⟨nn, rfl, _⟩ := open_i h3
 obtain ⟨mm, rfl, _⟩ := open_i h4
 obtain ⟨ww, rfl, _⟩ := open_i h5
 obtain ⟨t, rfl, rfl, rfl, rfl⟩ := open_id h6 (hW 6 _ _ rfl rfl)
 obtain ⟨ba, bn, bc, bs, rfl, hb1, hb2⟩ := open_bs h7 (hW 7 _ _ rfl rfl)
 obtain ⟨pa, pn, pc, xs, rfl, hp1, hp2⟩ := open_is h8 (hW 8 _ _ rfl rfl)
 refine ⟨mu, kd, pe, nn, mm, ww, t, bs, xs, ba, pa, bn, bc, pn, pc, hc, ⟨hb1, hp1, fun h0 b off e => ?_, fun h0 b off e => ?_, hb2, hp2⟩⟩
 ·rcases hb1.at_ with e2 | ⟨b', off', e2, hcc⟩
  ·omega
  ·rw [e] at e2; cases e2; exact World.block_lt_of_cell? W _ (hcc 0 h0)
 ·rcases hp1.at_ with e2 | ⟨b', off', e2, hcc⟩
  ·omega
  ·rw [e] at e2; cases e2; exact World.block_lt_of_cell? W _ (hcc 0 h0)
set_option maxRecDepth 100000 in
theorem open_ops {base : Nat} {v : Value} {d : DataW H} {p : List MemPlace} (hv : Value.okWide Try.prog W .any base 22 v) (h : DataW.Trod enc Try.prog W 0 (fun _ => true) true 22 v d p) (hw : Wt d 22) : ∃ a n c, v = .slice a n c /\ RdOps W a n /\ n ≤ 140737488351232 := by
 obtain ⟨fuel, hf⟩ := h
 obtain ⟨a0, n0, c0, rfl⟩ := okWide_slice Try.underlying22 hv
 rcases slice_parts (v := .slice a0 n0 c0) Try.underlying22 cO (by omega) (by simpa [Value.cells] using hf) hw with h1 | ⟨ad, len, cap, n, D, Pl, h1, h2, h3⟩
 ·simp only [Value.slice.injEq] at h1
  obtain ⟨rfl, rfl, rfl⟩ := h1
  exact ⟨none, 0, 0, rfl, .inl rfl, by omega⟩
 ·simp only [Value.slice.injEq] at h1
  obtain ⟨rfl, rfl, rfl⟩ := h1
  rw [bO] at h2
  refine ⟨_, _, _, rfl, ?_, by simp only [reachBytes] at h2; omega⟩
  by_cases h0 : n0 = 0
  ·exact .inl h0
  ·obtain ⟨b, off, spot⟩ := ad
   obtain ⟨_, cs', hl, hcc, _⟩ := h3 0 (by omega)
   have hspot : spot = none := by
    have h4 := hcc 0 (by omega)
    rw [List.getElem?_eq_getElem (by omega)] at h4
    simpa [Addr.add] using World.cell?_spot h4
   subst hspot
   refine .inr ⟨b, off, rfl, fun i hi => ?_⟩
   obtain ⟨hwi, cs', hl, hcc, ht⟩ := h3 i hi
   refine open_op hl (fun j hj => ?_) ht hwi
   have := hcc j hj
   rw [Addr.add_lit] at this
   rw [<- this, Nat.add_assoc]
end
end Go.Proofs.Ythanifbimndhaaa.Oe
namespace Go.Proofs.Ythanifbimndhaaa.Ln
set_option maxHeartbeats 40000000
open Go.RowKit Mb
set_option linter.unusedVariables false
set_option maxRecDepth 100000
set_option linter.unusedSimpArgs false
section
variable {w w' W : World} {B T : Nat} {Y : Pl}
def pl0 (b : Nat) : Pl := ⟨b, fun _ => none, .slice none 0 0, 0, [], .slice none 0 0, [], .slice none 0 0, [], 0⟩
theorem pl0_ok (h : W.heap[B]? = some (.cells #[.pointer none, .pointer none, .pointer none, .pointer none, .pointer none, .pointer none, .slice none 0 0, .slice none 0 0, .int .i64 0, .slice none 0 0, .slice none 0 0, .int .i64 0] 37 (0, 0))) : PlOk (pl0 B) W B 0 := by
 refine { bk := ⟨h, nil_row, fun p hp => (by cases hp), ?_, Nat.le_of_lt (lt_heap h), Int.le_refl _, by simp [pl0], by simp [pl0]⟩, gd := fun g hg => (by cases hg), nx := rfl, lo := Nat.le_refl _, rk := nil_row, ro := nil_row, kok := fun p hp => (by cases hp), ook := fun p hp => (by cases hp), duo := fun i M R hi hY => (by cases hY), mm := fun i i' M R M' R' hi hi' hne hY => (by cases hY), mq := fun j hj => ?_, kk := fun i j p q hi => (by simp [pl0] at hi), oo := fun i j p q hi => (by simp [pl0] at hi), dk := fun p hp => (by cases hp), dO := fun p hp => (by cases hp), ck := by simp [pl0], co := by simp [pl0], t1 := by omega, tb := by simp [pl0] }
 ·intro i j p q hi
  simp [pl0] at hi
 ·obtain ⟨i, M, R, hi, hY, _⟩ := hj
  cases hY
structure PyS (w wr : World) (B yb i : Nat) : Prop where
 out : ∃ Yi : Pl, PlOk Yi wr B i /\ Yi.b = yb /\ Yi.tn ≤ (Yi.os.length : Int) /\ Below B w wr
theorem PyS.step {wr w2 : World} {yb i : Nat} {Yi : Pl} (h : PlOk Yi wr B i) (hb : Yi.b = yb) (h4 : Below B w wr) (hy : YsO wr w2 B i Yi) : PyS w w2 B yb (i + 1) := by
 obtain ⟨Y', h1, h2, h3, h5⟩ := hy.out
 exact ⟨Y', h1, h2.trans hb, h3, h4.trans h5⟩
theorem play_any {sa : Option Addr} {sn sc : Nat} {lo hi : Int} (h : RdOps w sa sn) (hn : sn ≤ 140737488351232) : Calls Try.prog 9 #[.slice sa sn sc, .int .i64 lo, .int .i64 hi] w fun e w' => e = .returned (.bool true) /\ Below w.heap.size w w' := by
 have HR : Hid (RdOps w sa sn) := h
 have hs0 : (sn : Int) ≤ 140737488351232 := by omega
 obtain ⟨W, hW⟩ : ∃ W, w.alloc (.cells #[.pointer none, .pointer none, .pointer none, .pointer none, .pointer none, .pointer none, .slice none 0 0, .slice none 0 0, .int .i64 0, .slice none 0 0, .slice none 0 0, .int .i64 0] 37) = W := ⟨_, rfl⟩
 have HP0 : Hid (PyS w W w.heap.size w.heap.size 0) := (show PyS _ _ _ _ _ from ⟨pl0 w.heap.size, pl0_ok (by rw [<- hW]; exact heap_alloc_new _ _), rfl, by simp [pl0], by rw [<- hW]; exact balloc (Below.refl _ _)⟩)
 obtain ⟨yb, hyb⟩ : ∃ b, w.heap.size = b := ⟨_, rfl⟩
 have Hyb : Hid (w.heap.size = yb) := hyb
 have HP0 : Hid (PyS w W w.heap.size yb 0) := (show PyS _ _ _ _ _ from by have := HP0.out; rw [hyb] at this ⊢; exact this)
 clear h hn
 go_enter Try.func9, Try.ntmps9
 go_wp2
 go_loopw [8, 9, 10, 11] (fun v8 v9 _ _ wr => ∃ i : Nat, i ≤ sn /\ i ≤ 400 /\ v8 = .bool true /\ v9 = .int .i64 (i : Int) /\ Hid (PyS w wr w.heap.size yb i)) (fun _ v9 _ _ _ => sn - (intOf v9).toNat)
 case atStart => exact ⟨0, by omega, by omega, rfl, rfl, HP0⟩
 case round =>
  clear HP0
  obtain ⟨i, hi, hi4, rfl, rfl, hs⟩ := hrel
  by_cases hlt : i < sn
  ·have l1 : (0 : Int) ≤ (i : Int) := Int.natCast_nonneg _
   have l2 : (i : Int) < (sn : Int) := by omega
   by_cases hl4 : i < 400
   ·have l3 : (i : Int) < 400 := by omega
    obtain ⟨Yi, hP, eb, etn, hbel⟩ := hs.out.out
    obtain ⟨sb, so, hsa, hop⟩ : ∃ b off, sa = some ⟨b, off, none⟩ /\ ∀ i, i < sn -> OpIn w b (off + i * 12) := by
     rcases HR.out with h0 | h0
     ·omega
     ·exact h0
    subst hsa
    obtain ⟨mu, kd, pe, nn, mm, ww, t, bs, xs, ba, pa, bn, bc, pn, pc, hc, hA⟩ := (hop i hlt).out
    have hcw : ∀ j, j < 12 -> wr.cell? ⟨sb, so + i * 12 + j, none⟩ = ([.int .i64 mu, .int .i64 kd, .int .i64 pe, .int .i64 nn, .int .i64 mm, .int .i64 ww, .int .i64 t.e, .int .i64 t.l, .int .i64 t.i, .int .i64 t.c, .slice ba bn bc, .slice pa pn pc] : List Value)[j]? := fun j hj => by
     have h1 := hc j hj
     have h2 : ∃ v, w.cell? ⟨sb, so + i * 12 + j, none⟩ = some v := ⟨_, h1.trans (List.getElem?_eq_getElem (by simpa using hj))⟩
     obtain ⟨v, h2⟩ := h2
     exact (hbel.cell (p := ⟨sb, so + i * 12 + j, none⟩) (World.block_lt_of_cell? w _ h2)).trans h1
    have e0 : wr.cell? ⟨sb, so + i * 12, none⟩ = some (.int .i64 mu) := hcw 0 (by omega)
    have e1 : wr.cell? ⟨sb, so + i * 12 + 1, none⟩ = some (.int .i64 kd) := hcw 1 (by omega)
    have e2 : wr.cell? ⟨sb, so + i * 12 + 2, none⟩ = some (.int .i64 pe) := hcw 2 (by omega)
    have e3 : wr.cell? ⟨sb, so + i * 12 + 3, none⟩ = some (.int .i64 nn) := hcw 3 (by omega)
    have e4 : wr.cell? ⟨sb, so + i * 12 + 4, none⟩ = some (.int .i64 mm) := hcw 4 (by omega)
    have e5 : wr.cell? ⟨sb, so + i * 12 + 5, none⟩ = some (.int .i64 ww) := hcw 5 (by omega)
    have e6 : wr.cell? ⟨sb, so + i * 12 + 6, none⟩ = some (.int .i64 t.e) := hcw 6 (by omega)
    have e7 : wr.cell? ⟨sb, so + i * 12 + 7, none⟩ = some (.int .i64 t.l) := hcw 7 (by omega)
    have e8 : wr.cell? ⟨sb, so + i * 12 + 8, none⟩ = some (.int .i64 t.i) := hcw 8 (by omega)
    have e9 : wr.cell? ⟨sb, so + i * 12 + 9, none⟩ = some (.int .i64 t.c) := hcw 9 (by omega)
    have e10 : wr.cell? ⟨sb, so + i * 12 + 10, none⟩ = some (.slice ba bn bc) := hcw 10 (by omega)
    have e11 : wr.cell? ⟨sb, so + i * 12 + 11, none⟩ = some (.slice pa pn pc) := hcw 11 (by omega)
    obtain ⟨X, hX⟩ : ∃ X, wr.alloc (.cells #[.int .i64 mu, .int .i64 kd, .int .i64 pe, .int .i64 nn, .int .i64 mm, .int .i64 ww, .int .i64 t.e, .int .i64 t.l, .int .i64 t.i, .int .i64 t.c, .slice ba bn bc, .slice pa pn pc] 43) = X := ⟨_, rfl⟩
    have hbX : Below wr.heap.size wr X := by rw [<- hX]; exact balloc (Below.refl _ _)
    have hkX : X.heap[wr.heap.size]? = some (.cells #[.int .i64 mu, .int .i64 kd, .int .i64 pe, .int .i64 nn, .int .i64 mm, .int .i64 ww, .int .i64 t.e, .int .i64 t.l, .int .i64 t.i, .int .i64 t.c, .slice ba bn bc, .slice pa pn pc] 43 (0, 0)) := by rw [<- hX]; exact heap_alloc_new _ _
    have d := fun j => bC hkX j
    have hbwX : Below w.heap.size w X := hbel.trans (hbX.mono hbel.size)
    have HS : Hid (Calls Try.prog 10 #[.pointer (some ⟨yb, 0, none⟩), .agg #[.int .i64 mu, .int .i64 kd, .int .i64 pe, .int .i64 nn, .int .i64 mm, .int .i64 ww, .int .i64 t.e, .int .i64 t.l, .int .i64 t.i, .int .i64 t.c, .slice ba bn bc, .slice pa pn pc]] X fun e w2 => e = .returned (.bool true) /\ Hid (PyS w w2 w.heap.size yb (i + 1))) := (show Calls _ _ _ _ _ from by
     rw [<- eb]
     refine (step_any (hP.still hbX) etn (by omega) (hA.on hbwX)).mono fun e w2 hx => ⟨hx.1, (show PyS _ _ _ _ _ from ?_)⟩
     exact PyS.step (hP.still hbX) rfl hbwX hx.2)
    clear hs hlt hl4 hP eb etn hbel hop hc hA hcw hbX hkX hbwX
    go_wp2_with fail
    refine HS.out.mono ?_
    rintro e w2 ⟨rfl, H2⟩
    clear HS e0 e1 e2 e3 e4 e5 e6 e7 e8 e9 e10 e11 d hX
    go_wp2
    exact ⟨⟨i + 1, by omega, by omega, rfl, by go_num, H2⟩, by simp [intOf]; omega⟩
   ·have l3 : ¬ (i : Int) < 400 := by omega
    obtain ⟨Yi, hP, eb, etn, hbel⟩ := hs.out.out
    have HS : Hid (Calls Try.prog 11 #[.pointer (some ⟨yb, 0, none⟩)] wr fun e w2 => e = .returned (.bool true) /\ Hid (Below w.heap.size w w2)) := (show Calls _ _ _ _ _ from by
     rw [<- eb]
     exact (settle_any hP hP.bk.b).mono fun e w2 hx => ⟨hx.1, (show Below _ _ _ from hbel.trans hx.2)⟩)
    clear hs hlt hl4 hP eb etn hbel
    go_wp2_with (first
     | (go_at_call 11; refine HS.out.mono ?_; rintro e w2 ⟨rfl, H2⟩)
     | (go_at_call 12; refine first_any.mono ?_; rintro e w3 ⟨rfl, hb3⟩; have H3 : Hid (Below w.heap.size w w3) := (show Below _ _ _ from bstep H2.out hb3); clear hb3)
     | fail)
    go_ret
    exact ⟨rfl, H3.out⟩
  ·have l2 : ¬ (i : Int) < (sn : Int) := by omega
   obtain ⟨Yi, hP, eb, etn, hbel⟩ := hs.out.out
   have HS : Hid (Calls Try.prog 11 #[.pointer (some ⟨yb, 0, none⟩)] wr fun e w2 => e = .returned (.bool true) /\ Hid (Below w.heap.size w w2)) := (show Calls _ _ _ _ _ from by
    rw [<- eb]
    exact (settle_any hP hP.bk.b).mono fun e w2 hx => ⟨hx.1, (show Below _ _ _ from hbel.trans hx.2)⟩)
   clear hs hlt hP eb etn hbel
   go_wp2_with (first
    | (go_at_call 11; refine HS.out.mono ?_; rintro e w2 ⟨rfl, H2⟩)
    | (go_at_call 12; refine first_any.mono ?_; rintro e w3 ⟨rfl, hb3⟩; have H3 : Hid (Below w.heap.size w w3) := (show Below _ _ _ from bstep H2.out hb3); clear hb3)
    | fail)
   go_ret
   exact ⟨rfl, H3.out⟩
end
end Go.Proofs.Ythanifbimndhaaa.Ln
