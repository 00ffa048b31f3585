import Derived.Test.YtdegjhkjmgimpaaV38
namespace Go.Proofs.Ytdegjhkjmgimpaa.Ms
open Go.RowKit Go.Maps Mb Oe
set_option linter.unusedVariables false
set_option linter.unusedSimpArgs false
set_option maxRecDepth 100000
section
variable {A A' : Ag} {w w' W Z Y : World} {B B' : Nat} {T : Int} {P : Nat → Prop} {S S' : Si}
theorem So.rd (h : So B S w) : S.Rd w := ⟨⟨own_rd h.s, own_rd h.ve, h.pl, by have := h.sn; omega, by have := h.vn; omega⟩, h.v4, own_rdM h.v, h.vk, h.u4, own_rdM h.u, h.uk, own_rd h.t, by have := h.tn; omega⟩
theorem So.keep (h : So B S w) (k : Kept w w' P) (hp : ∀ j, B ≤ j → ¬ P j) : So B S w' :=
  { h with s := k.owns h.s (fun j hj => hp j (World.ownsRow.lt h.s j hj).1), ve := k.owns h.ve (fun j hj => hp j (World.ownsRow.lt h.ve j hj).1), v := k.owns h.v (fun j hj => hp j (World.ownsRow.lt h.v j hj).1), u := k.owns h.u (fun j hj => hp j (World.ownsRow.lt h.u j hj).1), t := k.owns h.t (fun j hj => hp j (World.ownsRow.lt h.t j hj).1) }
theorem So.still (h : So B S w) (hb : Below w.heap.size w w') : So B S w' := h.keep (Kept.ofBelow hb (fun _ => False)) (fun _ _ => id)
theorem own_empty0 (W : World) (t s : Nat) : (W.alloc (.cells #[] t)).ownsRow W.heap.size t s (.slice (some ⟨W.heap.size, 0, none⟩) 0 0) 0 [] := World.ownsRow_made W #[] 0 (Nat.le_refl _) (Nat.zero_le _) (by simp)
theorem own_nn {t s n c : Nat} {a : Option Addr} {l : List Value} (h : w.ownsRow B t s (.slice a n c) n l) : a = none → n = 0 ∧ c = 0 := fun e => by
  subst e
  rcases h.2 with ⟨h1, _⟩ | ⟨g, cap, cur, hv, _⟩
  · simp only [Value.slice.injEq, true_and] at h1
    exact h1
  · cases hv
theorem own_nw {t s n c : Nat} {a : Option Addr} {l : List Value} (h : w.ownsRow B t s (.slice a n c) n l) : ∀ ad, a = some ad → ∀ j u, l[j]? = some u → w.cell? (ad.add j) = some u := fun ad e j u hu => by
  subst e
  rcases h.2 with ⟨h1, _⟩ | ⟨g, cap, cur, hv, _⟩
  · cases h1
  · simp only [Value.slice.injEq, Option.some.injEq] at hv
    obtain ⟨rfl, -, rfl⟩ := hv
    have hj := (List.getElem?_eq_some_iff.1 hu).1
    rw [Addr.add_lit, Nat.zero_add]
    exact (World.ownsRow.cellAt h j (by rw [← h.1]; exact hj)).trans hu
theorem own_fw {b t s n kb i : Nat} {v x : Value} {l : List Value} (h : Z.ownsRow b t s v n l) (hb : Below Z.heap.size Z Y) (hc : kb < b) : (Y.setCell ⟨kb, i, none⟩ x).ownsRow b t s v n l := own_set (own_still h hb) (fun e => by have := (World.ownsRow.lt h _ e).1; omega)
theorem oneTI : (Try.prog.info? 29).map (·.size) = some 1 := by kernel_rfl
theorem oneTM : (Try.prog.info? 40).map (·.size) = some 1 := by kernel_rfl
def zSi : Array Value := #[.slice none 0 0, .int .i64 0, .int .i64 0, .int .i64 0, .int .i64 0, .int .i64 0, .int .i64 0, .int .i64 0, .slice none 0 0, .int .i64 0, .int .i64 0, .int .i64 0, .int .i64 0, .slice none 0 0, .int .i64 0, .int .i64 0, .int .i64 0, .int .i64 0, .slice none 0 0, .slice none 0 0, .bool false, .bool false]
theorem zSight : (Try.prog.info? 50).map (·.zero) = some (some (.agg zSi)) := by kernel_rfl
set_option maxHeartbeats 8000000 in
theorem hold_any (h : So B S w) (hB : B ≤ w.heap.size) : Calls Try.prog 11 #[.agg S.cs.toArray] w fun e w' => ∃ S' : Si, e = .returned (.agg S'.cs.toArray) ∧ So w.heap.size S' w' ∧ S'.sg = S.sg ∧ Below w.heap.size w w' := by
  obtain ⟨bi, bih, biz0, biz1, biz2⟩ := tU
  obtain ⟨fi, fih, fiz0, fiz1, fiz2⟩ := tFl3
  generalize hW : w.alloc (.cells S.cs.toArray 50) = W
  have hbW : Below w.heap.size w W := by rw [← hW]; exact balloc (Below.refl _ w)
  have hblk : W.heap[w.heap.size]? = some (.cells S.cs.toArray 50 (0, 0)) := by rw [← hW]; exact heap_alloc_new w _
  have HW : Hid (Below w.heap.size w W) := hbW
  have HS : Hid (∀ X, Below w.heap.size w X → So B S X) := fun X hX => h.still hX
  have HK : Hid (∀ X, Below W.heap.size W X → X.heap[w.heap.size]? = some (.cells S.cs.toArray 50 (0, 0))) := fun X hX => (hX.block _ (lt_heap hblk)).trans hblk
  have HWs : Hid (w.heap.size < W.heap.size) := lt_heap hblk
  have HR0 : Hid (W.rangeAt w.heap.size 0 S.cs) := Ln.blk_range hblk
  have HLc : Hid (S.cs.length = 22) := rfl
  have Hn : Hid (S.p.sn ≤ 16 ∧ S.p.vn ≤ 16 ∧ S.vk ≤ 16 ∧ S.uk ≤ 16 ∧ S.tn ≤ 16) := ⟨h.sn, h.vn, h.vk, h.uk, h.tn⟩
  have hf := h
  clear hbW hblk h
  go_enter Try.func11, Try.ntmps11
  go_upto_region 2 with (first
    | (refine wl_allocZ rfl 50 rfl zSight ?_; intro R1 k1 b1 s1; have KR : Hid (R1.heap[W.heap.size]? = some (.cells zSi 50 (0, 0))) := k1; have BR : Hid (Below W.heap.size W R1) := b1; have HR1 : Hid (R1.rangeAt w.heap.size 0 S.cs) := Ln.blk_range (HK.out R1 b1); clear k1 b1 s1 HR0)
    | (refine load_mid 50 (.tmp 1) HR1.out _ Try.underlying50 rfl (by rw [HLc.out]; exact info_sight) rfl rfl rfl ?_)
    | (refine wl_allocZ rfl 50 rfl zSight ?_; intro R2 k1 b1 s1; have KC : Hid (R2.heap[R1.heap.size]? = some (.cells zSi 50 (0, 0))) := k1; have BC : Hid (Below R1.heap.size R1 R2) := b1; clear k1 b1 s1)
    | (refine wl_storeZ rfl 50 _ _ rfl (L := S.cs) rfl rfl KC.out (by rw [HLc.out]; exact info_sight) (by rw [HLc.out]; rfl) S.one ?_; intro Z1 k2 kk2; have KZ1 : Hid (Z1.heap[R1.heap.size]? = some (.cells S.cs.toArray 50 (0, 0))) := k2; have KK : Hid (Kept R2 Z1 (fun j => j = R1.heap.size)) := kk2; clear k2 kk2)
    | fail)
  have HBz1 : Hid (Below R1.heap.size R1 Z1) := (show Below R1.heap.size R1 Z1 from BC.out.trans (KK.out.below BC.out.size (fun q hq e => by have e' : q = R1.heap.size := e; omega)))
  generalize hcb : R1.heap.size = cb at *
  have HC : Hid (W.heap.size < cb) := (show W.heap.size < cb from by have := lt_heap KR.out; omega)
  have HCl1 : Hid (cb < Z1.heap.size) := lt_heap KZ1.out
  have HB1 : Hid (Below W.heap.size W Z1) := by have h1 := HBz1.out; rw [← hcb] at h1; exact bstep BR.out h1
  have KR1 : Hid (Z1.heap[W.heap.size]? = some (.cells zSi 50 (0, 0))) := by have h1 := HBz1.out; exact (h1.block _ (by have := HC.out; exact this)).trans KR.out
  clear KC BC KK HBz1 hcb KR BR HR1
  have y1 : (Z1.alloc (.cells #[] 3)).cell? ⟨w.heap.size, 0, none⟩ = some (.slice S.p.sa S.p.sn S.p.sc) := below_at (balloc (Below.refl _ Z1)) (blk_cell (HK.out Z1 HB1.out) 0)
  have o1 := own_still (HS.out Z1 (bstep HW.out HB1.out)).s (balloc (o := .cells #[] 3) (Below.refl _ Z1))
  have HO1 : Hid (World.ownsRow _ _ _ _ _ _ _) := o1
  clear o1
  have n1 := Hn.out.1
  go_upto_region 3 with (first
    | (refine app_g rfl _ _ 29 rfl Z1.heap.size 3 bi (.int .i64 0) 1 8 Try.underlying29 bih biz0 biz1 biz2 rfl (by omega) (.slice (some ⟨Z1.heap.size, 0, none⟩) 0 0) 0 [] rfl (own_empty0 Z1 3 1) S.p.sa S.p.sn S.p.sc (ints S.p.ss) rfl (own_nn HO1.out) HO1.out.1 (own_nw HO1.out) (ints_one _) (by unfold maxLen; omega) (by omega) (by simp) ?_; intro v1 Y ho hk he; rw [Nat.zero_add, List.nil_append] at ho; obtain ⟨a1, c1, rfl⟩ := own_sh ho.out; have HOy1 : Hid (Y.ownsRow Z1.heap.size 3 1 (.slice a1 S.p.sn c1) S.p.sn (ints S.p.ss)) := ho.out; have BY : Hid (Below Z1.heap.size Z1 Y) := (show Below Z1.heap.size Z1 Y from (balloc (Below.refl _ Z1)).trans (hk.out.below (by simp) (fun q hq e => by simp [Value.ownBlock] at e; omega))); have KY : Hid (Y.heap[cb]? = some (.cells (S.cs).toArray 50 (0, 0))) := (BY.out.block _ HCl1.out).trans KZ1.out; clear ho hk he)
    | (refine wl_stS rfl 29 _ _ rfl (g := cb) (p := 0) rfl rfl KY.out (show 0 < 22 from by omega) oneTI rfl ?_; have KZ2 : Hid ((Y.setCell ⟨cb, 0, none⟩ (.slice a1 S.p.sn c1)).heap[cb]? = some (.cells ((S.cs).set 0 (.slice a1 S.p.sn c1)).toArray 50 (0, 0))) := blk_set KY.out (by simp); have HB2 : Hid (Below W.heap.size W (Y.setCell ⟨cb, 0, none⟩ (.slice a1 S.p.sn c1))) := bset (bstep HB1.out BY.out) (by have := HC.out; omega) _ _; have KR2 : Hid ((Y.setCell ⟨cb, 0, none⟩ (.slice a1 S.p.sn c1)).heap[W.heap.size]? = some (.cells zSi 50 (0, 0))) := blk_set_ne ((BY.out.block _ (lt_heap KR1.out)).trans KR1.out) (by have := HC.out; omega); have HP1_2 : Hid ((Y.setCell ⟨cb, 0, none⟩ (.slice a1 S.p.sn c1)).ownsRow Z1.heap.size 3 1 (.slice a1 S.p.sn c1) S.p.sn (ints S.p.ss)) := own_set HOy1.out (fun e => by have := (World.ownsRow.lt HOy1.out _ e).1; have := HCl1.out; omega); have HSz1 : Hid (Z1.heap.size < (Y.setCell ⟨cb, 0, none⟩ (.slice a1 S.p.sn c1)).heap.size ∨ Z1.heap.size ≤ (Y.setCell ⟨cb, 0, none⟩ (.slice a1 S.p.sn c1)).heap.size) := .inr (by have := BY.out.size; simpa using this); have HCl2 : Hid (cb < (Y.setCell ⟨cb, 0, none⟩ (.slice a1 S.p.sn c1)).heap.size) := lt_heap KZ2.out; have HU1 : Hid (∀ j, (Value.slice a1 S.p.sn c1).ownBlock = some j → Z1.heap.size ≤ j ∧ j < (Y.setCell ⟨cb, 0, none⟩ (.slice a1 S.p.sn c1)).heap.size) := fun j hj => World.ownsRow.lt HP1_2.out j hj; generalize Y.setCell ⟨cb, 0, none⟩ (.slice a1 S.p.sn c1) = Z2 at *)
    | fail)
  clear y1 HO1 HOy1 BY KY KZ1 HB1 KR1 n1
  have y2 : (Z2.alloc (.cells #[] 3)).cell? ⟨w.heap.size, 8, none⟩ = some (.slice S.p.va S.p.vn S.p.vc) := below_at (balloc (Below.refl _ Z2)) (blk_cell (HK.out Z2 HB2.out) 8)
  have o2 := own_still (HS.out Z2 (bstep HW.out HB2.out)).ve (balloc (o := .cells #[] 3) (Below.refl _ Z2))
  have HO2 : Hid (World.ownsRow _ _ _ _ _ _ _) := o2
  clear o2
  have n2 := Hn.out.2.1
  go_upto_region 4 with (first
    | (refine app_g rfl _ _ 29 rfl Z2.heap.size 3 bi (.int .i64 0) 1 8 Try.underlying29 bih biz0 biz1 biz2 rfl (by omega) (.slice (some ⟨Z2.heap.size, 0, none⟩) 0 0) 0 [] rfl (own_empty0 Z2 3 1) S.p.va S.p.vn S.p.vc (ints S.p.vs) rfl (own_nn HO2.out) HO2.out.1 (own_nw HO2.out) (ints_one _) (by unfold maxLen; omega) (by omega) (by simp) ?_; intro v1 Y ho hk he; rw [Nat.zero_add, List.nil_append] at ho; obtain ⟨a2, c2, rfl⟩ := own_sh ho.out; have HOy2 : Hid (Y.ownsRow Z2.heap.size 3 1 (.slice a2 S.p.vn c2) S.p.vn (ints S.p.vs)) := ho.out; have BY : Hid (Below Z2.heap.size Z2 Y) := (show Below Z2.heap.size Z2 Y from (balloc (Below.refl _ Z2)).trans (hk.out.below (by simp) (fun q hq e => by simp [Value.ownBlock] at e; omega))); have KY : Hid (Y.heap[cb]? = some (.cells ((S.cs).set 0 (.slice a1 S.p.sn c1)).toArray 50 (0, 0))) := (BY.out.block _ HCl2.out).trans KZ2.out; clear ho hk he)
    | (refine wl_stS rfl 29 _ _ rfl (g := cb) (p := 8) rfl rfl KY.out (show 8 < 22 from by omega) oneTI rfl ?_; have KZ3 : Hid ((Y.setCell ⟨cb, 8, none⟩ (.slice a2 S.p.vn c2)).heap[cb]? = some (.cells (((S.cs).set 0 (.slice a1 S.p.sn c1)).set 8 (.slice a2 S.p.vn c2)).toArray 50 (0, 0))) := blk_set KY.out (by simp); have HB3 : Hid (Below W.heap.size W (Y.setCell ⟨cb, 8, none⟩ (.slice a2 S.p.vn c2))) := bset (bstep HB2.out BY.out) (by have := HC.out; omega) _ _; have KR3 : Hid ((Y.setCell ⟨cb, 8, none⟩ (.slice a2 S.p.vn c2)).heap[W.heap.size]? = some (.cells zSi 50 (0, 0))) := blk_set_ne ((BY.out.block _ (lt_heap KR2.out)).trans KR2.out) (by have := HC.out; omega); have HP2_3 : Hid ((Y.setCell ⟨cb, 8, none⟩ (.slice a2 S.p.vn c2)).ownsRow Z2.heap.size 3 1 (.slice a2 S.p.vn c2) S.p.vn (ints S.p.vs)) := own_set HOy2.out (fun e => by have := (World.ownsRow.lt HOy2.out _ e).1; have := HCl2.out; omega); have HSz2 : Hid (Z2.heap.size < (Y.setCell ⟨cb, 8, none⟩ (.slice a2 S.p.vn c2)).heap.size ∨ Z2.heap.size ≤ (Y.setCell ⟨cb, 8, none⟩ (.slice a2 S.p.vn c2)).heap.size) := .inr (by have := BY.out.size; simpa using this); have HP1_3 : Hid ((Y.setCell ⟨cb, 8, none⟩ (.slice a2 S.p.vn c2)).ownsRow Z1.heap.size 3 1 (.slice a1 S.p.sn c1) S.p.sn (ints S.p.ss)) := own_fw HP1_2.out BY.out HCl1.out; have HCl3 : Hid (cb < (Y.setCell ⟨cb, 8, none⟩ (.slice a2 S.p.vn c2)).heap.size) := lt_heap KZ3.out; have HU2 : Hid (∀ j, (Value.slice a2 S.p.vn c2).ownBlock = some j → Z2.heap.size ≤ j ∧ j < (Y.setCell ⟨cb, 8, none⟩ (.slice a2 S.p.vn c2)).heap.size) := fun j hj => World.ownsRow.lt HP2_3.out j hj; generalize Y.setCell ⟨cb, 8, none⟩ (.slice a2 S.p.vn c2) = Z3 at *)
    | fail)
  clear y2 HO2 HOy2 BY KY KZ2 HB2 KR2 n2
  clear HP1_2
  have y3 : (Z3.alloc (.cells #[] 79)).cell? ⟨w.heap.size, 13, none⟩ = some (.slice S.va S.vk S.vc) := below_at (balloc (Below.refl _ Z3)) (blk_cell (HK.out Z3 HB3.out) 13)
  have o3 := own_still (HS.out Z3 (bstep HW.out HB3.out)).v (balloc (o := .cells #[] 79) (Below.refl _ Z3))
  have HO3 : Hid (World.ownsRow _ _ _ _ _ _ _) := o3
  clear o3
  have n3 := Hn.out.2.2.1
  go_upto_region 5 with (first
    | (refine app_g rfl _ _ 40 rfl Z3.heap.size 79 fi (.agg #[.int .i64 0, .int .i64 0, .int .i64 0]) 3 24 Try.underlying40 fih fiz0 fiz1 fiz2 rfl (by omega) (.slice (some ⟨Z3.heap.size, 0, none⟩) 0 0) 0 [] rfl (own_empty0 Z3 79 3) S.va S.vk S.vc (ints S.vm) rfl (own_nn HO3.out) HO3.out.1 (own_nw HO3.out) (ints_one _) (by unfold maxLen; omega) (by omega) (by simp) ?_; intro v1 Y ho hk he; rw [Nat.zero_add, List.nil_append] at ho; obtain ⟨a3, c3, rfl⟩ := own_sh ho.out; have HOy3 : Hid (Y.ownsRow Z3.heap.size 79 3 (.slice a3 S.vk c3) S.vk (ints S.vm)) := ho.out; have BY : Hid (Below Z3.heap.size Z3 Y) := (show Below Z3.heap.size Z3 Y from (balloc (Below.refl _ Z3)).trans (hk.out.below (by simp) (fun q hq e => by simp [Value.ownBlock] at e; omega))); have KY : Hid (Y.heap[cb]? = some (.cells (((S.cs).set 0 (.slice a1 S.p.sn c1)).set 8 (.slice a2 S.p.vn c2)).toArray 50 (0, 0))) := (BY.out.block _ HCl3.out).trans KZ3.out; clear ho hk he)
    | (refine wl_stS rfl 40 _ _ rfl (g := cb) (p := 13) rfl rfl KY.out (show 13 < 22 from by omega) oneTM rfl ?_; have KZ4 : Hid ((Y.setCell ⟨cb, 13, none⟩ (.slice a3 S.vk c3)).heap[cb]? = some (.cells ((((S.cs).set 0 (.slice a1 S.p.sn c1)).set 8 (.slice a2 S.p.vn c2)).set 13 (.slice a3 S.vk c3)).toArray 50 (0, 0))) := blk_set KY.out (by simp); have HB4 : Hid (Below W.heap.size W (Y.setCell ⟨cb, 13, none⟩ (.slice a3 S.vk c3))) := bset (bstep HB3.out BY.out) (by have := HC.out; omega) _ _; have KR4 : Hid ((Y.setCell ⟨cb, 13, none⟩ (.slice a3 S.vk c3)).heap[W.heap.size]? = some (.cells zSi 50 (0, 0))) := blk_set_ne ((BY.out.block _ (lt_heap KR3.out)).trans KR3.out) (by have := HC.out; omega); have HP3_4 : Hid ((Y.setCell ⟨cb, 13, none⟩ (.slice a3 S.vk c3)).ownsRow Z3.heap.size 79 3 (.slice a3 S.vk c3) S.vk (ints S.vm)) := own_set HOy3.out (fun e => by have := (World.ownsRow.lt HOy3.out _ e).1; have := HCl3.out; omega); have HSz3 : Hid (Z3.heap.size < (Y.setCell ⟨cb, 13, none⟩ (.slice a3 S.vk c3)).heap.size ∨ Z3.heap.size ≤ (Y.setCell ⟨cb, 13, none⟩ (.slice a3 S.vk c3)).heap.size) := .inr (by have := BY.out.size; simpa using this); have HP1_4 : Hid ((Y.setCell ⟨cb, 13, none⟩ (.slice a3 S.vk c3)).ownsRow Z1.heap.size 3 1 (.slice a1 S.p.sn c1) S.p.sn (ints S.p.ss)) := own_fw HP1_3.out BY.out HCl1.out; have HP2_4 : Hid ((Y.setCell ⟨cb, 13, none⟩ (.slice a3 S.vk c3)).ownsRow Z2.heap.size 3 1 (.slice a2 S.p.vn c2) S.p.vn (ints S.p.vs)) := own_fw HP2_3.out BY.out HCl2.out; have HCl4 : Hid (cb < (Y.setCell ⟨cb, 13, none⟩ (.slice a3 S.vk c3)).heap.size) := lt_heap KZ4.out; have HU3 : Hid (∀ j, (Value.slice a3 S.vk c3).ownBlock = some j → Z3.heap.size ≤ j ∧ j < (Y.setCell ⟨cb, 13, none⟩ (.slice a3 S.vk c3)).heap.size) := fun j hj => World.ownsRow.lt HP3_4.out j hj; generalize Y.setCell ⟨cb, 13, none⟩ (.slice a3 S.vk c3) = Z4 at *)
    | fail)
  clear y3 HO3 HOy3 BY KY KZ3 HB3 KR3 n3
  clear HP1_3
  clear HP2_3
  have y4 : (Z4.alloc (.cells #[] 79)).cell? ⟨w.heap.size, 18, none⟩ = some (.slice S.ua S.uk S.uc) := below_at (balloc (Below.refl _ Z4)) (blk_cell (HK.out Z4 HB4.out) 18)
  have o4 := own_still (HS.out Z4 (bstep HW.out HB4.out)).u (balloc (o := .cells #[] 79) (Below.refl _ Z4))
  have HO4 : Hid (World.ownsRow _ _ _ _ _ _ _) := o4
  clear o4
  have n4 := Hn.out.2.2.2.1
  go_upto_region 6 with (first
    | (refine app_g rfl _ _ 40 rfl Z4.heap.size 79 fi (.agg #[.int .i64 0, .int .i64 0, .int .i64 0]) 3 24 Try.underlying40 fih fiz0 fiz1 fiz2 rfl (by omega) (.slice (some ⟨Z4.heap.size, 0, none⟩) 0 0) 0 [] rfl (own_empty0 Z4 79 3) S.ua S.uk S.uc (ints S.um) rfl (own_nn HO4.out) HO4.out.1 (own_nw HO4.out) (ints_one _) (by unfold maxLen; omega) (by omega) (by simp) ?_; intro v1 Y ho hk he; rw [Nat.zero_add, List.nil_append] at ho; obtain ⟨a4, c4, rfl⟩ := own_sh ho.out; have HOy4 : Hid (Y.ownsRow Z4.heap.size 79 3 (.slice a4 S.uk c4) S.uk (ints S.um)) := ho.out; have BY : Hid (Below Z4.heap.size Z4 Y) := (show Below Z4.heap.size Z4 Y from (balloc (Below.refl _ Z4)).trans (hk.out.below (by simp) (fun q hq e => by simp [Value.ownBlock] at e; omega))); have KY : Hid (Y.heap[cb]? = some (.cells ((((S.cs).set 0 (.slice a1 S.p.sn c1)).set 8 (.slice a2 S.p.vn c2)).set 13 (.slice a3 S.vk c3)).toArray 50 (0, 0))) := (BY.out.block _ HCl4.out).trans KZ4.out; clear ho hk he)
    | (refine wl_stS rfl 40 _ _ rfl (g := cb) (p := 18) rfl rfl KY.out (show 18 < 22 from by omega) oneTM rfl ?_; have KZ5 : Hid ((Y.setCell ⟨cb, 18, none⟩ (.slice a4 S.uk c4)).heap[cb]? = some (.cells (((((S.cs).set 0 (.slice a1 S.p.sn c1)).set 8 (.slice a2 S.p.vn c2)).set 13 (.slice a3 S.vk c3)).set 18 (.slice a4 S.uk c4)).toArray 50 (0, 0))) := blk_set KY.out (by simp); have HB5 : Hid (Below W.heap.size W (Y.setCell ⟨cb, 18, none⟩ (.slice a4 S.uk c4))) := bset (bstep HB4.out BY.out) (by have := HC.out; omega) _ _; have KR5 : Hid ((Y.setCell ⟨cb, 18, none⟩ (.slice a4 S.uk c4)).heap[W.heap.size]? = some (.cells zSi 50 (0, 0))) := blk_set_ne ((BY.out.block _ (lt_heap KR4.out)).trans KR4.out) (by have := HC.out; omega); have HP4_5 : Hid ((Y.setCell ⟨cb, 18, none⟩ (.slice a4 S.uk c4)).ownsRow Z4.heap.size 79 3 (.slice a4 S.uk c4) S.uk (ints S.um)) := own_set HOy4.out (fun e => by have := (World.ownsRow.lt HOy4.out _ e).1; have := HCl4.out; omega); have HSz4 : Hid (Z4.heap.size < (Y.setCell ⟨cb, 18, none⟩ (.slice a4 S.uk c4)).heap.size ∨ Z4.heap.size ≤ (Y.setCell ⟨cb, 18, none⟩ (.slice a4 S.uk c4)).heap.size) := .inr (by have := BY.out.size; simpa using this); have HP1_5 : Hid ((Y.setCell ⟨cb, 18, none⟩ (.slice a4 S.uk c4)).ownsRow Z1.heap.size 3 1 (.slice a1 S.p.sn c1) S.p.sn (ints S.p.ss)) := own_fw HP1_4.out BY.out HCl1.out; have HP2_5 : Hid ((Y.setCell ⟨cb, 18, none⟩ (.slice a4 S.uk c4)).ownsRow Z2.heap.size 3 1 (.slice a2 S.p.vn c2) S.p.vn (ints S.p.vs)) := own_fw HP2_4.out BY.out HCl2.out; have HP3_5 : Hid ((Y.setCell ⟨cb, 18, none⟩ (.slice a4 S.uk c4)).ownsRow Z3.heap.size 79 3 (.slice a3 S.vk c3) S.vk (ints S.vm)) := own_fw HP3_4.out BY.out HCl3.out; have HCl5 : Hid (cb < (Y.setCell ⟨cb, 18, none⟩ (.slice a4 S.uk c4)).heap.size) := lt_heap KZ5.out; have HU4 : Hid (∀ j, (Value.slice a4 S.uk c4).ownBlock = some j → Z4.heap.size ≤ j ∧ j < (Y.setCell ⟨cb, 18, none⟩ (.slice a4 S.uk c4)).heap.size) := fun j hj => World.ownsRow.lt HP4_5.out j hj; generalize Y.setCell ⟨cb, 18, none⟩ (.slice a4 S.uk c4) = Z5 at *)
    | fail)
  clear y4 HO4 HOy4 BY KY KZ4 HB4 KR4 n4
  clear HP1_4
  clear HP2_4
  clear HP3_4
  have y5 : (Z5.alloc (.cells #[] 3)).cell? ⟨w.heap.size, 19, none⟩ = some (.slice S.ta S.tn S.tc) := below_at (balloc (Below.refl _ Z5)) (blk_cell (HK.out Z5 HB5.out) 19)
  have o5 := own_still (HS.out Z5 (bstep HW.out HB5.out)).t (balloc (o := .cells #[] 3) (Below.refl _ Z5))
  have HO5 : Hid (World.ownsRow _ _ _ _ _ _ _) := o5
  clear o5
  have n5 := Hn.out.2.2.2.2
  go_upto_region 7 with (first
    | (refine app_g rfl _ _ 29 rfl Z5.heap.size 3 bi (.int .i64 0) 1 8 Try.underlying29 bih biz0 biz1 biz2 rfl (by omega) (.slice (some ⟨Z5.heap.size, 0, none⟩) 0 0) 0 [] rfl (own_empty0 Z5 3 1) S.ta S.tn S.tc (ints S.ts) rfl (own_nn HO5.out) HO5.out.1 (own_nw HO5.out) (ints_one _) (by unfold maxLen; omega) (by omega) (by simp) ?_; intro v1 Y ho hk he; rw [Nat.zero_add, List.nil_append] at ho; obtain ⟨a5, c5, rfl⟩ := own_sh ho.out; have HOy5 : Hid (Y.ownsRow Z5.heap.size 3 1 (.slice a5 S.tn c5) S.tn (ints S.ts)) := ho.out; have BY : Hid (Below Z5.heap.size Z5 Y) := (show Below Z5.heap.size Z5 Y from (balloc (Below.refl _ Z5)).trans (hk.out.below (by simp) (fun q hq e => by simp [Value.ownBlock] at e; omega))); have KY : Hid (Y.heap[cb]? = some (.cells (((((S.cs).set 0 (.slice a1 S.p.sn c1)).set 8 (.slice a2 S.p.vn c2)).set 13 (.slice a3 S.vk c3)).set 18 (.slice a4 S.uk c4)).toArray 50 (0, 0))) := (BY.out.block _ HCl5.out).trans KZ5.out; clear ho hk he)
    | (refine wl_stS rfl 29 _ _ rfl (g := cb) (p := 19) rfl rfl KY.out (show 19 < 22 from by omega) oneTI rfl ?_; have KZ6 : Hid ((Y.setCell ⟨cb, 19, none⟩ (.slice a5 S.tn c5)).heap[cb]? = some (.cells ((((((S.cs).set 0 (.slice a1 S.p.sn c1)).set 8 (.slice a2 S.p.vn c2)).set 13 (.slice a3 S.vk c3)).set 18 (.slice a4 S.uk c4)).set 19 (.slice a5 S.tn c5)).toArray 50 (0, 0))) := blk_set KY.out (by simp); have HB6 : Hid (Below W.heap.size W (Y.setCell ⟨cb, 19, none⟩ (.slice a5 S.tn c5))) := bset (bstep HB5.out BY.out) (by have := HC.out; omega) _ _; have KR6 : Hid ((Y.setCell ⟨cb, 19, none⟩ (.slice a5 S.tn c5)).heap[W.heap.size]? = some (.cells zSi 50 (0, 0))) := blk_set_ne ((BY.out.block _ (lt_heap KR5.out)).trans KR5.out) (by have := HC.out; omega); have HP5_6 : Hid ((Y.setCell ⟨cb, 19, none⟩ (.slice a5 S.tn c5)).ownsRow Z5.heap.size 3 1 (.slice a5 S.tn c5) S.tn (ints S.ts)) := own_set HOy5.out (fun e => by have := (World.ownsRow.lt HOy5.out _ e).1; have := HCl5.out; omega); have HSz5 : Hid (Z5.heap.size < (Y.setCell ⟨cb, 19, none⟩ (.slice a5 S.tn c5)).heap.size ∨ Z5.heap.size ≤ (Y.setCell ⟨cb, 19, none⟩ (.slice a5 S.tn c5)).heap.size) := .inr (by have := BY.out.size; simpa using this); have HP1_6 : Hid ((Y.setCell ⟨cb, 19, none⟩ (.slice a5 S.tn c5)).ownsRow Z1.heap.size 3 1 (.slice a1 S.p.sn c1) S.p.sn (ints S.p.ss)) := own_fw HP1_5.out BY.out HCl1.out; have HP2_6 : Hid ((Y.setCell ⟨cb, 19, none⟩ (.slice a5 S.tn c5)).ownsRow Z2.heap.size 3 1 (.slice a2 S.p.vn c2) S.p.vn (ints S.p.vs)) := own_fw HP2_5.out BY.out HCl2.out; have HP3_6 : Hid ((Y.setCell ⟨cb, 19, none⟩ (.slice a5 S.tn c5)).ownsRow Z3.heap.size 79 3 (.slice a3 S.vk c3) S.vk (ints S.vm)) := own_fw HP3_5.out BY.out HCl3.out; have HP4_6 : Hid ((Y.setCell ⟨cb, 19, none⟩ (.slice a5 S.tn c5)).ownsRow Z4.heap.size 79 3 (.slice a4 S.uk c4) S.uk (ints S.um)) := own_fw HP4_5.out BY.out HCl4.out; have HCl6 : Hid (cb < (Y.setCell ⟨cb, 19, none⟩ (.slice a5 S.tn c5)).heap.size) := lt_heap KZ6.out; have HU5 : Hid (∀ j, (Value.slice a5 S.tn c5).ownBlock = some j → Z5.heap.size ≤ j ∧ j < (Y.setCell ⟨cb, 19, none⟩ (.slice a5 S.tn c5)).heap.size) := fun j hj => World.ownsRow.lt HP5_6.out j hj; generalize Y.setCell ⟨cb, 19, none⟩ (.slice a5 S.tn c5) = Z6 at *)
    | fail)
  clear y5 HO5 HOy5 BY KY KZ5 HB5 KR5 n5
  clear HP1_5
  clear HP2_5
  clear HP3_5
  clear HP4_5
  have HLf : Hid ((((((S.cs).set 0 (.slice a1 S.p.sn c1)).set 8 (.slice a2 S.p.vn c2)).set 13 (.slice a3 S.vk c3)).set 18 (.slice a4 S.uk c4)).set 19 (.slice a5 S.tn c5) = (⟨⟨a1, S.p.sn, c1, S.p.ss, S.p.cid, S.p.rev, S.p.top, S.p.prev, a2, S.p.vn, c2, S.p.vs⟩, S.vi, a3, S.vk, c3, S.vm, S.ui, a4, S.uk, c4, S.um, a5, S.tn, c5, S.ts, S.ok, S.op⟩ : Si).cs) := rfl
  generalize hSs : (⟨⟨a1, S.p.sn, c1, S.p.ss, S.p.cid, S.p.rev, S.p.top, S.p.prev, a2, S.p.vn, c2, S.p.vs⟩, S.vi, a3, S.vk, c3, S.vm, S.ui, a4, S.uk, c4, S.um, a5, S.tn, c5, S.ts, S.ok, S.op⟩ : Si) = S' at HLf
  have KF : Hid (Z6.heap[cb]? = some (.cells S'.cs.toArray 50 (0, 0))) := by have h1 := KZ6.out; rw [HLf.out] at h1; exact h1
  have HRf : Hid (Z6.rangeAt cb 0 S'.cs) := Ln.blk_range KF.out
  have HLs : Hid (S'.cs.length = 22) := rfl
  clear KZ6 HLf KF
  go_wp2_with (first
    | (refine load_mid 50 (.tmp 3) HRf.out _ Try.underlying50 rfl (by rw [HLs.out]; exact info_sight) rfl rfl rfl ?_)
    | (refine wl_storeZ rfl 50 _ _ rfl (L := S'.cs) rfl rfl KR6.out (by rw [HLs.out]; exact info_sight) (by rw [HLs.out]; rfl) S'.one ?_; intro M k2 kk2; have KM : Hid (M.heap[W.heap.size]? = some (.cells S'.cs.toArray 50 (0, 0))) := k2; have KK : Hid (Kept Z6 M (fun j => j = W.heap.size)) := kk2; clear k2 kk2)
    | fail)
  (try simp only [Exit.inBlock, Exit.then])
  refine bodyPost_ret (v := .agg S'.cs.toArray) (results_cell_row rfl _ _ W.heap.size 50 _ (0, 0) _ rfl KM.out Try.underlying50 rfl (by rw [List.size_toArray, HLs.out]; exact info_sight)) rfl ?_
  have hc := HC.out
  have hl1 := HCl1.out
  have hws := HWs.out
  have hz1 : Z1.heap.size ≤ Z2.heap.size := HSz1.out.elim (fun h => Nat.le_of_lt h) id
  have hz2 : Z2.heap.size ≤ Z3.heap.size := HSz2.out.elim (fun h => Nat.le_of_lt h) id
  have hz3 : Z3.heap.size ≤ Z4.heap.size := HSz3.out.elim (fun h => Nat.le_of_lt h) id
  have hz4 : Z4.heap.size ≤ Z5.heap.size := HSz4.out.elim (fun h => Nat.le_of_lt h) id
  refine ⟨S', rfl, ?_, by rw [← hSs]; rfl, bstep HW.out (HB6.out.trans (KK.out.below HB6.out.size (fun q hq e => by have e' : q = W.heap.size := e; omega)))⟩
  have p1 := KK.out.owns HP1_6.out (fun j hj e => by have := (World.ownsRow.lt HP1_6.out j hj).1; have e' : j = W.heap.size := e; omega)
  have p2 := KK.out.owns HP2_6.out (fun j hj e => by have := (World.ownsRow.lt HP2_6.out j hj).1; have e' : j = W.heap.size := e; omega)
  have p3 := KK.out.owns HP3_6.out (fun j hj e => by have := (World.ownsRow.lt HP3_6.out j hj).1; have e' : j = W.heap.size := e; omega)
  have p4 := KK.out.owns HP4_6.out (fun j hj e => by have := (World.ownsRow.lt HP4_6.out j hj).1; have e' : j = W.heap.size := e; omega)
  have p5 := KK.out.owns HP5_6.out (fun j hj e => by have := (World.ownsRow.lt HP5_6.out j hj).1; have e' : j = W.heap.size := e; omega)
  have HD : Hid ((∀ j, (Value.slice a1 S.p.sn c1).ownBlock = some j → (Value.slice a2 S.p.vn c2).ownBlock ≠ some j) ∧ (∀ j, (Value.slice a1 S.p.sn c1).ownBlock = some j → (Value.slice a5 S.tn c5).ownBlock ≠ some j) ∧ (∀ j, (Value.slice a2 S.p.vn c2).ownBlock = some j → (Value.slice a5 S.tn c5).ownBlock ≠ some j) ∧ (∀ j, (Value.slice a3 S.vk c3).ownBlock = some j → (Value.slice a4 S.uk c4).ownBlock ≠ some j)) := ⟨fun j h1 h2 => by have := HU1.out j h1; have := HU2.out j h2; omega, fun j h1 h2 => by have := HU1.out j h1; have := HU5.out j h2; omega, fun j h1 h2 => by have := HU2.out j h1; have := HU5.out j h2; omega, fun j h1 h2 => by have := HU3.out j h1; have := HU4.out j h2; omega⟩
  rw [← hSs]
  exact ⟨own_lower p1 (by omega), own_lower p2 (by omega), own_lower p3 (by omega), own_lower p4 (by omega), own_lower p5 (by omega), fun j h1 h2 => HD.out.1 j h1 h2, fun j h1 h2 => HD.out.2.1 j h1 h2, fun j h1 h2 => HD.out.2.2.1 j h1 h2, fun j h1 h2 => HD.out.2.2.2 j h1 h2, hf.pl, hf.v4, hf.vk, hf.u4, hf.uk, hf.tn, hf.sn, hf.vn⟩
end
end Go.Proofs.Ytdegjhkjmgimpaa.Ms
