import Derived.Test.YtobaooebjgoaiaaV47
import Derived.Test.YtobaooebjgoaiaaV07
namespace Go.Proofs.Ytobaooebjgoaiaa.Hh
open Go.RowKit Go.Maps Mb
set_option linter.unusedVariables false
set_option linter.unusedSimpArgs false
set_option maxRecDepth 100000
open Go.Proofs.Ytobaooebjgoaiaa.Fm
section
variable {w w' w0 w1 w2 w3 Z X Y V : World} {B : Nat} {S S' : St} {hb cb db : Nat} {f f' : Nat → Nat → Nat → Value}
def S0 : St := ⟨fun _ => ⟨none, 0, 0⟩, fun _ => ⟨none, 0, 0⟩, fun _ => 0, fun _ _ => ⟨none, 0, 0⟩, fun _ _ => ⟨none, 0, 0⟩, fun _ => .slice none 0 0⟩
def f0 : Nat → Nat → Nat → Value := fun _ _ _ => undef
theorem bHeld : Try.prog.built 40 [] = some S0.cs := by kernel_rfl
theorem S0.bt (h : X.heap[hb]? = some (.cells S0.cs 40 (0, 0))) : Bt S0 X hb hb f0 :=
 ⟨⟨h, Nat.le_refl _, fun c hc => ⟨rfl, .inl ⟨rfl, rfl⟩⟩, fun c hc => ⟨rfl, .inl ⟨rfl, rfl⟩⟩, fun c hc j hj => by have hj : (Value.slice none 0 0).ownBlock = some j := hj; simp [Value.ownBlock] at hj, fun c hc => ⟨fun i hi => absurd hi (Nat.not_lt_zero i), fun i j hi => absurd hi (Nat.not_lt_zero i)⟩, fun c hc => ⟨fun i hi => absurd hi (Nat.not_lt_zero i), fun i hi => absurd hi (Nat.not_lt_zero i), fun i j hi => absurd hi (Nat.not_lt_zero i)⟩⟩,
  ⟨fun _ _ => rfl, fun _ _ => Nat.zero_le _, fun c hc i hi => absurd hi (Nat.not_lt_zero i)⟩, fun _ _ => rfl, rfl, rfl, rfl⟩
structure Sg (w : World) (B hb cb db : Nat) (k1 k2 : Ca) (S : St) (f : Nat → Nat → Nat → Value) (X : World) (m : Nat) : Prop where
 bt : Bt S X B hb f
 n2 : S.N 2 = 2 * m
 n5 : S.N 5 = m
 n : ∀ d, d < 6 → S.N d ≤ 200 * m
 b : Below w.heap.size w X
 c1 : X.heap[cb]? = some (.cells k1.cs.toArray 31 (0, 0))
 c2 : X.heap[db]? = some (.cells k2.cs.toArray 31 (0, 0))
 g1 : w.heap.size ≤ B
 g2 : cb < B ∧ db < B
section
variable {k1 k2 k : Ca} {who : List Int} {ds : List Dx} {m : Nat}
theorem Sg.next (h : Sg w B hb cb db k1 k2 S f X m) (a : AsO X S B hb f k who ds m Y) : ∃ S' f', Sg w B hb cb db k1 k2 S' f' Y (m + 1) ∧ Old S S' f f' ∧ Ans S' f' k who ds m := by
 obtain ⟨S', f', b1, o1, a1, n2, n5, n, kk, ow⟩ := a.out
 exact ⟨S', f', ⟨b1, n2, n5, n, h.b.trans (kk.below h.b.size (fun j hj hp => by have h1 := (h.bt.ok.lt hp).2; have h2 := h.g1; omega)), kk.obj h.c1 (fun hp => by have h1 := (h.bt.ok.lt hp).2; have h2 := h.g2; omega), kk.obj h.c2 (fun hp => by have h1 := (h.bt.ok.lt hp).2; have h2 := h.g2; omega), h.g1, h.g2⟩, o1, a1⟩
theorem Sg.asked (h : Sg w B hb cb db k1 k2 S f X m) (c : Cs w k who ds) (hm : m ≤ 10) : Calls Try.prog 4 #[.pointer (some ⟨hb, 0, none⟩), .agg k.cs.toArray] X fun e w' => e = .returned (.bool true) ∧ AsO X S B hb f k who ds m w' :=
 asked_any h.bt c h.g1 h.b hm h.n2 h.n5 h.n
theorem Sg.still (h : Sg w B hb cb db k1 k2 S f X m) (hb' : Below X.heap.size X Y) : Sg w B hb cb db k1 k2 S f Y m :=
 { h with bt := h.bt.still hb', b := bstep h.b hb', c1 := blk_on hb' h.c1, c2 := blk_on hb' h.c2 }
end
theorem info_case : (Try.prog.info? 31).map (·.size) = some 13 := by kernel_rfl
set_option maxHeartbeats 16000000 in
theorem flushHeld_any {k1 k2 : Ca} {who1 who2 : List Int} {ds1 ds2 : List Dx} (c1 : Cs w k1 who1 ds1) (c2 : Cs w k2 who2 ds2) : Calls Try.prog 3 #[.agg k1.cs.toArray, .agg k2.cs.toArray] w fun e w' => e = .returned (.bool true) ∧ Below w.heap.size w w' := by
 have HC1 : Hid (Cs w k1 who1 ds1) := c1
 have HC2 : Hid (Cs w k2 who2 ds2) := c2
 generalize hWa : w.alloc (.cells k1.cs.toArray 31) = Wa
 have b1 : Below w.heap.size w Wa := hWa ▸ balloc (Below.refl _ _)
 have e1 : Wa.heap[w.heap.size]? = some (.cells k1.cs.toArray 31 (0, 0)) := by rw [← hWa]; exact heap_alloc_new w _
 generalize hWb : Wa.alloc (.cells k2.cs.toArray 31) = Wb
 have b2 : Below Wa.heap.size Wa Wb := hWb ▸ balloc (Below.refl _ _)
 have e2 : Wb.heap[Wa.heap.size]? = some (.cells k2.cs.toArray 31 (0, 0)) := by rw [← hWb]; exact heap_alloc_new Wa _
 generalize hWc : Wb.alloc (.cells S0.cs 40) = Wc
 have b3 : Below Wb.heap.size Wb Wc := hWc ▸ balloc (Below.refl _ _)
 have e3 : Wc.heap[Wb.heap.size]? = some (.cells S0.cs 40 (0, 0)) := by rw [← hWc]; exact heap_alloc_new Wb _
 have G0 : Hid (Sg w Wb.heap.size Wb.heap.size w.heap.size Wa.heap.size k1 k2 S0 f0 Wc 0) := ⟨S0.bt e3, rfl, rfl, fun _ _ => Nat.zero_le _, bstep (bstep b1 b2) b3, blk_on b3 (blk_on b2 e1), blk_on b3 e2, Nat.le_trans b1.size b2.size, Nat.lt_of_lt_of_le (lt_heap e1) b2.size, lt_heap e2⟩
 have HL : Hid (∀ {S f X m}, Sg w Wb.heap.size Wb.heap.size w.heap.size Wa.heap.size k1 k2 S f X m → X.rangeAt w.heap.size 0 k1.cs ∧ X.rangeAt Wa.heap.size 0 k2.cs) := fun h => ⟨blk_range h.c1, blk_range h.c2⟩
 have Hk1 : Hid (k1.cs.length = 13) := rfl
 have Hk2 : Hid (k2.cs.length = 13) := rfl
 have HbH : Hid (Try.prog.built 40 [] = some S0.cs) := bHeld
 obtain ⟨z0, hz0⟩ : ∃ z, S0.cs = z := ⟨_, rfl⟩
 rw [hz0] at hWc HbH
 have HZ0 : Hid (S0.cs = z0) := hz0
 clear c1 c2 b1 e1 b2 e2 b3 e3 hz0
 obtain ⟨ca1, hca1⟩ : ∃ z, k1.cs.toArray = z := ⟨_, rfl⟩
 obtain ⟨ca2, hca2⟩ : ∃ z, k2.cs.toArray = z := ⟨_, rfl⟩
 rw [hca1] at hWa ⊢
 rw [hca2] at hWb ⊢
 clear hca1 hca2
 go_enter Try.func3, Try.ntmps3
 go_upto_region 2 with (first
  | (refine wl_buildZ rfl 40 _ rfl (cs := z0) (built_eq (by kernel_rfl) HbH.out) ?_)
  | fail)
 go_upto_region 6 with (first
  | (refine load_mid 31 (.tmp 2) (HL.out G0.out).1 _ Try.underlying31 rfl (by rw [Hk1.out]; exact info_case) rfl rfl rfl ?_)
  | (go_at_call 4; refine (G0.out.asked HC1.out (by omega)).mono ?_; rintro e X1 ⟨rfl, a1⟩; obtain ⟨S1, f1, g1, o1, n1⟩ := G0.out.next a1; have G1 : Hid (Sg w Wb.heap.size Wb.heap.size w.heap.size Wa.heap.size k1 k2 S1 f1 X1 1) := g1; have N1 : Hid (Ans S1 f1 k1 who1 ds1 0) := n1; clear G0 a1 g1 o1 n1)
  | (refine load_mid 31 (.tmp 3) (HL.out G1.out).2 _ Try.underlying31 rfl (by rw [Hk2.out]; exact info_case) rfl rfl rfl ?_)
  | (go_at_call 4; refine (G1.out.asked HC2.out (by omega)).mono ?_; rintro e X2 ⟨rfl, a2⟩; obtain ⟨S2, f2, g2, o2, n2⟩ := G1.out.next a2; have G2 : Hid (Sg w Wb.heap.size Wb.heap.size w.heap.size Wa.heap.size k1 k2 S2 f2 X2 2) := g2; have N2 : Hid (Ans S2 f2 k1 who1 ds1 0 ∧ Ans S2 f2 k2 who2 ds2 1) := ⟨N1.out.old o2, n2⟩; clear G1 N1 a2 g2 o2 n2)
  | (refine load_mid 31 (.tmp 3) (HL.out G2.out).2 _ Try.underlying31 rfl (by rw [Hk2.out]; exact info_case) rfl rfl rfl ?_)
  | (go_at_call 4; refine (G2.out.asked HC2.out (by omega)).mono ?_; rintro e X3 ⟨rfl, a3⟩; obtain ⟨S3, f3, g3, o3, n3⟩ := G2.out.next a3; have G3 : Hid (Sg w Wb.heap.size Wb.heap.size w.heap.size Wa.heap.size k1 k2 S3 f3 X3 3) := g3; have N3 : Hid (Ans S3 f3 k1 who1 ds1 0 ∧ Ans S3 f3 k2 who2 ds2 1 ∧ Ans S3 f3 k2 who2 ds2 2) := ⟨N2.out.1.old o3, N2.out.2.old o3, n3⟩; clear G2 N2 a3 g3 o3 n3)
  | (refine load_mid 31 (.tmp 2) (HL.out G3.out).1 _ Try.underlying31 rfl (by rw [Hk1.out]; exact info_case) rfl rfl rfl ?_)
  | (go_at_call 4; refine (G3.out.asked HC1.out (by omega)).mono ?_; rintro e X4 ⟨rfl, a4⟩; obtain ⟨S4, f4, g4, o4, n4⟩ := G3.out.next a4; have G4 : Hid (Sg w Wb.heap.size Wb.heap.size w.heap.size Wa.heap.size k1 k2 S4 f4 X4 4) := g4; have N4 : Hid (Ans S4 f4 k1 who1 ds1 0 ∧ Ans S4 f4 k2 who2 ds2 1 ∧ Ans S4 f4 k2 who2 ds2 2 ∧ Ans S4 f4 k1 who1 ds1 3) := ⟨N3.out.1.old o4, N3.out.2.1.old o4, N3.out.2.2.old o4, n4⟩; clear G3 N3 a4 g4 o4 n4)
  | (refine load_mid 31 (.tmp 2) (HL.out G4.out).1 _ Try.underlying31 rfl (by rw [Hk1.out]; exact info_case) rfl rfl rfl ?_)
  | (go_at_call 4; refine (G4.out.asked HC1.out (by omega)).mono ?_; rintro e X5 ⟨rfl, a5⟩; obtain ⟨S5, f5, g5, o5, n5⟩ := G4.out.next a5; have G5 : Hid (Sg w Wb.heap.size Wb.heap.size w.heap.size Wa.heap.size k1 k2 S5 f5 X5 5) := g5; have N5 : Hid (Ans S5 f5 k1 who1 ds1 0 ∧ Ans S5 f5 k2 who2 ds2 1 ∧ Ans S5 f5 k2 who2 ds2 2 ∧ Ans S5 f5 k1 who1 ds1 3 ∧ Ans S5 f5 k1 who1 ds1 4) := ⟨N4.out.1.old o5, N4.out.2.1.old o5, N4.out.2.2.1.old o5, N4.out.2.2.2.old o5, n5⟩; clear G4 N4 a5 g5 o5 n5)
  | (refine load_mid 31 (.tmp 2) (HL.out G5.out).1 _ Try.underlying31 rfl (by rw [Hk1.out]; exact info_case) rfl rfl rfl ?_)
  | (go_at_call 5; refine (still_any (i := 0) G5.out.bt (HC1.out.still G5.out.b) N5.out.1 (.inl ⟨rfl, rfl⟩)).mono ?_; rintro e Y1 ⟨rfl, hb1⟩; have H1 : Hid (Sg w Wb.heap.size Wb.heap.size w.heap.size Wa.heap.size k1 k2 S5 f5 Y1 5) := G5.out.still hb1; clear G5 hb1)
  | (refine load_mid 31 (.tmp 3) (HL.out H1.out).2 _ Try.underlying31 rfl (by rw [Hk2.out]; exact info_case) rfl rfl rfl ?_)
  | (go_at_call 5; refine (still_any (i := 1) H1.out.bt (HC2.out.still H1.out.b) N5.out.2.1 (.inr (.inl ⟨rfl, rfl⟩))).mono ?_; rintro e Y2 ⟨rfl, hb2⟩; have H2 : Hid (Sg w Wb.heap.size Wb.heap.size w.heap.size Wa.heap.size k1 k2 S5 f5 Y2 5) := H1.out.still hb2; clear H1 hb2)
  | (refine load_mid 31 (.tmp 3) (HL.out H2.out).2 _ Try.underlying31 rfl (by rw [Hk2.out]; exact info_case) rfl rfl rfl ?_)
  | (go_at_call 5; refine (still_any (i := 2) H2.out.bt (HC2.out.still H2.out.b) N5.out.2.2.1 (.inr (.inr (.inl ⟨rfl, rfl⟩)))).mono ?_; rintro e Y3 ⟨rfl, hb3⟩; have H3 : Hid (Sg w Wb.heap.size Wb.heap.size w.heap.size Wa.heap.size k1 k2 S5 f5 Y3 5) := H2.out.still hb3; clear H2 hb3)
  | (refine load_mid 31 (.tmp 2) (HL.out H3.out).1 _ Try.underlying31 rfl (by rw [Hk1.out]; exact info_case) rfl rfl rfl ?_)
  | (go_at_call 5; refine (still_any (i := 3) H3.out.bt (HC1.out.still H3.out.b) N5.out.2.2.2.1 (.inr (.inr (.inr (.inl ⟨rfl, rfl⟩))))).mono ?_; rintro e Y4 ⟨rfl, hb4⟩; have H4 : Hid (Sg w Wb.heap.size Wb.heap.size w.heap.size Wa.heap.size k1 k2 S5 f5 Y4 5) := H3.out.still hb4; clear H3 hb4)
  | (refine load_mid 31 (.tmp 2) (HL.out H4.out).1 _ Try.underlying31 rfl (by rw [Hk1.out]; exact info_case) rfl rfl rfl ?_)
  | (go_at_call 5; refine (still_any (i := 4) H4.out.bt (HC1.out.still H4.out.b) N5.out.2.2.2.2 (.inr (.inr (.inr (.inr ⟨rfl, rfl⟩))))).mono ?_; rintro e Y5 ⟨rfl, hb5⟩; have H5 : Hid (Sg w Wb.heap.size Wb.heap.size w.heap.size Wa.heap.size k1 k2 S5 f5 Y5 5) := H4.out.still hb5; clear H4 hb5)
  | (go_at_call 6; refine (alone_any H5.out.bt.ok H5.out.bt.fit H5.out.bt.z H5.out.bt.h3 H5.out.bt.h4 H5.out.bt.h15 (by have := (H5.out.bt.ok.lt (.inl rfl)).1; omega)).mono ?_; rintro e Y6 ⟨rfl, hk6⟩; have HK6 : Hid (Kept Y5 Y6 (S5.own Wb.heap.size)) := hk6; clear hk6)
  | fail)
 have HB6 : Hid (Below w.heap.size w Y6) := H5.out.b.trans (HK6.out.below H5.out.b.size (fun j hj hp => by have h1 := (H5.out.bt.ok.lt hp).2; have h2 := H5.out.g1; omega))
 have HE1 : Hid (Y6.heap[w.heap.size]? = some (.cells k1.cs.toArray 31 (0, 0))) := HK6.out.obj H5.out.c1 (fun hp => by have h1 := (H5.out.bt.ok.lt hp).2; have h2 := H5.out.g2; omega)
 have HE2 : Hid (Y6.heap[Wa.heap.size]? = some (.cells k2.cs.toArray 31 (0, 0))) := HK6.out.obj H5.out.c2 (fun hp => by have h1 := (H5.out.bt.ok.lt hp).2; have h2 := H5.out.g2; omega)
 generalize hWd : Y6.alloc (.cells z0 40) = Wd
 have b4 : Below Y6.heap.size Y6 Wd := hWd ▸ balloc (Below.refl _ _)
 have e4 : Wd.heap[Y6.heap.size]? = some (.cells S0.cs 40 (0, 0)) := by rw [← hWd, HZ0.out]; exact heap_alloc_new Y6 _
 have G6 : Hid (Sg w Y6.heap.size Y6.heap.size w.heap.size Wa.heap.size k1 k2 S0 f0 Wd 0) := ⟨S0.bt e4, rfl, rfl, fun _ _ => Nat.zero_le _, bstep HB6.out b4, blk_on b4 HE1.out, blk_on b4 HE2.out, HB6.out.size, lt_heap HE1.out, lt_heap HE2.out⟩
 have HL6 : Hid (∀ {S f X m}, Sg w Y6.heap.size Y6.heap.size w.heap.size Wa.heap.size k1 k2 S f X m → X.rangeAt w.heap.size 0 k1.cs ∧ X.rangeAt Wa.heap.size 0 k2.cs) := fun h => ⟨blk_range h.c1, blk_range h.c2⟩
 clear b4 e4 H5 HK6 N5 hWa hWb hWc
 go_upto_region 7 with (first
  | (refine wl_buildZ rfl 40 _ rfl (cs := z0) (built_eq (by kernel_rfl) HbH.out) ?_)
  | fail)
 go_wp2_with (first
  | (refine load_mid 31 (.tmp 2) (HL6.out G6.out).1 _ Try.underlying31 rfl (by rw [Hk1.out]; exact info_case) rfl rfl rfl ?_)
  | (go_at_call 4; refine (G6.out.asked HC1.out (by omega)).mono ?_; rintro e X7 ⟨rfl, a7⟩; obtain ⟨S7, f7, g7, o7, n7⟩ := G6.out.next a7; have G7 : Hid (Sg w Y6.heap.size Y6.heap.size w.heap.size Wa.heap.size k1 k2 S7 f7 X7 1) := g7; clear G6 a7 g7 o7 n7)
  | (refine load_mid 31 (.tmp 3) (HL6.out G7.out).2 _ Try.underlying31 rfl (by rw [Hk2.out]; exact info_case) rfl rfl rfl ?_)
  | (go_at_call 4; refine (G7.out.asked HC2.out (by omega)).mono ?_; rintro e X8 ⟨rfl, a8⟩; obtain ⟨S8, f8, g8, o8, n8⟩ := G7.out.next a8; have G8 : Hid (Sg w Y6.heap.size Y6.heap.size w.heap.size Wa.heap.size k1 k2 S8 f8 X8 2) := g8; clear G7 a8 g8 o8 n8)
  | fail)
 go_ret
 exact ⟨rfl, G8.out.b⟩
end
end Go.Proofs.Ytobaooebjgoaiaa.Hh
