import Derived.Test.YteeoffbjjifleaaY7
import Derived.Test.YteeoffbjjifleaaY8
import Derived.Test.YteeoffbjjifleaaY9
namespace Go.Proofs.Yteeoffbjjifleaa.Fm
open Go.RowKit Go.Maps Mb
set_option linter.unusedVariables false
set_option maxRecDepth 100000
set_option linter.unusedSimpArgs false
section
variable {w w' W : World} {B : Nat}
set_option maxHeartbeats 8000000 in
theorem flushLacks_any {k : Ca} (hr : RdFs w k.ao k.fs) (hi : ∀ i, i < k.fs.length → (k.fs.getD i fl0).In w) (ho : k.own.In w) (hn : k.fs.length ≤ 1048576) : Calls Try.prog 3 #[.agg k.cs.toArray] w fun e w' => e = .returned (.bool true) ∧ Below w.heap.size w w' := by
  generalize hW1 : w.alloc (.cells k.cs.toArray 31) = W1
  have b1 : Below w.heap.size w W1 := hW1 ▸ balloc (Below.refl _ _)
  have k1 : W1.heap[w.heap.size]? = some (.cells k.cs.toArray 31 (0, 0)) := by rw [← hW1]; exact heap_alloc_new w _
  have HB1 : Hid (Below w.heap.size w W1) := b1
  have HK1 : Hid (W1.heap[w.heap.size]? = some (.cells k.cs.toArray 31 (0, 0))) := k1
  have HR1 : Hid (RdFs W1 k.ao k.fs) := hr.still b1
  have HO1 : Hid (k.own.In W1) := ho.still b1
  have HTw := twins_any (w := W1) (cp := k.cp) (hr.still b1) (fun i hh => (hi i hh).still b1) hn
  have HI : Hid (∀ i, i < k.fs.length → (k.fs.getD i fl0).c.sl.length ≤ 1048576 ∧ (k.fs.getD i fl0).c.hv.length ≤ 1048576) := fun i hh => ⟨(hi i hh).sn, (hi i hh).hn⟩
  have HIo : Hid (k.own.c.sl.length ≤ 1048576 ∧ k.own.c.hv.length ≤ 1048576) := ⟨ho.sn, ho.hn⟩
  have Hn : Hid (k.fs.length ≤ 1048576) := hn
  have Hc7 : Hid (k.own.cs.length = 7) := rfl
  have HCs : Hid (∀ X : World, X.heap[w.heap.size]? = some (.cells k.cs.toArray 31 (0, 0)) → X.cell? ⟨w.heap.size, 0, none⟩ = some (.slice k.ao k.fs.length k.cp) ∧ X.cell? ⟨w.heap.size, 8, none⟩ = some (.int .i64 k.d) ∧ X.rangeAt w.heap.size 1 k.own.cs) := fun X h => ⟨blk_cell h 0, blk_cell h 8, Ca.own_at h⟩
  clear hr hi ho b1 k1 hn
  generalize k.cs.toArray = ca at hW1 ⊢
  obtain ⟨q0, -, -⟩ := HCs.out _ HK1.out
  go_enter Try.func3, Try.ntmps3
  go_upto_region 2 with (first
    | (go_at_call 6; refine HTw.mono ?_; rintro e V1 ⟨ta, tc, ia, ic, xs, rfl, hT, hv1, hcap, hcm⟩)
    | fail)
  clear q0 HTw hW1
  have BV1 : Hid (Below W1.heap.size W1 V1) := hv1
  have HT1 : Hid (Tws V1 W1.heap.size ta ia xs k.fs) := hT
  have HTn := twin_any (HO1.out.still hv1)
  have Hld1 : Hid (V1.rangeAt w.heap.size 1 k.own.cs) := (HCs.out _ (blk_on hv1 HK1.out)).2.2
  clear hT hv1
  go_upto_region 3 with (first
    | (refine load_mid 28 (.tmp 17) Hld1.out _ Try.underlying28 rfl (by rw [Hc7.out]; exact info_flush) rfl rfl rfl ?_)
    | (go_at_call 7; refine HTn.mono ?_; rintro e V2 ⟨x, rfl, hx, hv2⟩; have HX2 : Hid _ := hx; have BV2 : Hid _ := hv2; clear hx hv2)
    | (refine wl_allocZ rfl 36 rfl zTwin ?_; intro V3 k3 b3 s3; have K3 : Hid _ := k3; have BV3 : Hid _ := b3; clear k3 b3 s3)
    | (refine wl_storeZ rfl 36 _ _ rfl (L := x.tw) rfl rfl K3.out info_twin rfl (tw_one _) ?_; intro V4 k4 hk4; have K4 : Hid _ := k4; have KK4 : Hid _ := hk4; clear k4 hk4)
    | fail)
  have BV4 : Hid (Below V2.heap.size V2 V4) := BV3.out.trans (KK4.out.below BV3.out.size (fun q hq e => by omega))
  have BW4 : Hid (Below W1.heap.size W1 V4) := bstep (bstep BV1.out BV2.out) BV4.out
  have HL : Hid (Lw W1 V4 w.heap.size V2.heap.size k ta ia xs x) := ⟨blk_on BW4.out HK1.out, K4.out, HT1.out.still (bstep BV2.out BV4.out), ⟨HX2.out.ce, own_lower (own_still HX2.out.s BV4.out) BV1.out.size, own_lower (own_still HX2.out.h BV4.out) BV1.out.size⟩, HR1.out.still BW4.out, HO1.out.rd.still BW4.out, BW4.out⟩
  have Hce : Hid (x.c = k.own.c) := HX2.out.ce
  have Hlen : Hid (xs.length = k.fs.length) := HT1.out.len
  have HLa := lacks_any (w := V4) (cp := ic) (fs := xs) (own := x) (HL.out.t.rd HL.out.r) (HL.out.x.rd HL.out.o) hcap hcm (by rw [Hlen.out]; exact Hn.out) k.d
  rw [HL.out.t.cos, Hce.out] at HLa
  have Hld2 : Hid (V4.rangeAt V2.heap.size 0 x.cs) := tw_pre K4.out
  have Hx7 : Hid (x.cs.length = 7) := rfl
  obtain ⟨-, q8, -⟩ := HCs.out _ HL.out.c
  generalize hvb : V2.heap.size = vb at *
  have Hvb : Hid (V2.heap.size = vb) := hvb
  clear HTn Hld1 HT1 K3 BV3 K4 KK4 BV4 BV1 BV2 HX2 hvb
  go_upto_region 4 with (first
    | (refine load_mid 28 (.tmp 23) Hld2.out _ Try.underlying28 rfl (by rw [Hx7.out]; exact info_flush) rfl rfl rfl ?_)
    | (go_at_call 8; refine HLa.mono ?_; rintro e V5 ⟨la, lc, l, E, rfl, hS, hlo, hv5⟩; have HS5 : Hid (LkS (cos k.fs) k.own.c k.d E l) := hS; have HO5 : Hid _ := hlo; have BV5 : Hid _ := hv5; clear hS hlo hv5)
    | fail)
  have HL5 : Hid (Lw W1 V5 w.heap.size vb k ta ia xs x) := HL.out.still BV5.out
  have HQa := qlacks_any (w := V5) (cp := k.cp) HL5.out.r HL5.out.o Hn.out k.d
  obtain ⟨q0, q8', -⟩ := HCs.out _ HL5.out.c
  have Hld3 : Hid (V5.rangeAt w.heap.size 1 k.own.cs) := (HCs.out _ HL5.out.c).2.2
  clear HLa Hld2 q8
  go_upto_region 5 with (first
    | (refine load_mid 28 (.tmp 32) Hld3.out _ Try.underlying28 rfl (by rw [Hc7.out]; exact info_flush) rfl rfl rfl ?_)
    | (go_at_call 9; refine HQa.mono ?_; rintro e V6 ⟨ka, kc, l', E', rfl, hS, hko, hv6⟩; have HS6 : Hid (LkS (cos k.fs) k.own.c k.d E' l') := hS; have HO6 : Hid _ := hko; have BV6 : Hid _ := hv6; clear hS hko hv6)
    | fail)
  obtain ⟨rfl, rfl⟩ := HS5.out.eq HS6.out
  have HL6 : Hid (Lw W1 V6 w.heap.size vb k ta ia xs x) := HL5.out.still BV6.out
  have HO56 : Hid (V6.ownsRow V4.heap.size 48 2 (.slice la l.length lc) l.length (slCells l)) := own_still HO5.out BV6.out
  have HlL : Hid (l.length ≤ 1000000000000000000) := (show l.length ≤ 1000000000000000000 from by
    rcases HO6.out.2 with ⟨_, h4⟩ | ⟨g, cap, cur, hv, _, hgc, hnc, hcm', hcs, _⟩
    · omega
    · exact LkS.len HS6.out)
  have HSs := sameSlots_any (ca := lc) (cb := kc) (own_rdS HO56.out rfl) (own_rdS HO6.out rfl) HlL.out
  have HAU : Hid (∀ X, Below V6.heap.size V6 X → Calls Try.prog 12 #[.slice ta xs.length tc, .slice ia xs.length ic, .slice k.ao k.fs.length k.cp] X fun e w' => e = .returned (.bool true) ∧ Below X.heap.size X w') := fun X hX => allUn_any (HL6.out.t.still hX) (HL6.out.r.still hX) Hn.out HI.out
  have HUn : Hid (∀ X, Below V6.heap.size V6 X → Calls Try.prog 13 #[.agg x.tw.toArray, .agg k.own.cs.toArray] X fun e w' => e = .returned (.bool true) ∧ Below X.heap.size X w') := fun X hX => untouched_any (HL6.out.x.still hX) (HL6.out.o.still hX) HIo.out.1 HIo.out.2
  have HN : Calls Try.prog 10 #[.int .i64 E] V6 fun e w' => e = .returned (.int .i64 E) ∧ V6 = w' := (num_any (w := V6) E).mono fun _ _ h => ⟨h.1, h.2.symm⟩
  have HqX : Hid (∀ X, Below V6.heap.size V6 X → X.cell? ⟨w.heap.size, 0, none⟩ = some (.slice k.ao k.fs.length k.cp) ∧ X.rangeAt w.heap.size 1 k.own.cs ∧ X.rangeAt vb 0 x.tw) := fun X hX => ⟨(HCs.out _ (blk_on hX HL6.out.c)).1, (HCs.out _ (blk_on hX HL6.out.c)).2.2, blk_range (blk_on hX HL6.out.v)⟩
  have Hx9 : Hid (x.tw.length = 9) := rfl
  clear HQa q0 q8' Hld3 HS5 HS6 HO6
  go_wp2_with (first
    | (go_at_call 10; refine HN.mono ?_; rintro e Vz ⟨rfl, rfl⟩)
    | (go_at_call 11; refine HSs.mono ?_; rintro e V7 ⟨rfl, hb7⟩; have BV7 : Hid (Below V6.heap.size V6 V7) := hb7; clear hb7; obtain ⟨q7, -, -⟩ := HqX.out _ BV7.out)
    | (go_at_call 12; refine (HAU.out _ BV7.out).mono ?_; rintro e V8 ⟨rfl, hb8⟩; have BV8 : Hid (Below V6.heap.size V6 V8) := bstep BV7.out hb8; clear hb8 q7)
    | (refine load_mid 36 (.tmp 5) (HqX.out _ BV8.out).2.2 _ Try.underlying36 rfl (by rw [Hx9.out]; exact info_twin) rfl rfl rfl ?_)
    | (refine load_mid 28 (.tmp 59) (HqX.out _ BV8.out).2.1 _ Try.underlying28 rfl (by rw [Hc7.out]; exact info_flush) rfl rfl rfl ?_)
    | (go_at_call 13; refine (HUn.out _ BV8.out).mono ?_; rintro e V9 ⟨rfl, hb9⟩; have BV9 : Hid (Below V6.heap.size V6 V9) := bstep BV8.out hb9; clear hb9)
    | fail)
  have HO9 : Hid (V9.ownsRow V4.heap.size 48 2 (.slice la l.length lc) l.length (slCells l)) := own_still HO56.out BV9.out
  have B49 : Hid (Below V4.heap.size V4 V9) := bstep (bstep BV5.out BV6.out) BV9.out
  generalize hln : l.length = n at *
  have Hln : Hid (l.length = n) := hln
  have HnB : Hid (n ≤ 1000000000000000000) := HlL.out
  clear hln HSs HAU HUn HN HqX HL6 HL5 HO56 BV9 BV8 BV7 BV6 BV5 HO5 HlL
  have hnB := HnB.out
  go_loopw [10] (fun iv wr => ∃ i : Nat, i ≤ n ∧ iv = .int .i64 (i : Int) ∧ (∃ l' : List (Int × Int), l'.length = n ∧ wr.ownsRow V4.heap.size 48 2 (.slice la n lc) n (slCells l')) ∧ Below V4.heap.size V4 wr) (fun iv _ => n - (intOf iv).toNat)
  case atStart => exact ⟨0, Nat.zero_le _, rfl, ⟨l, Hln.out, HO9.out⟩, B49.out⟩
  case round =>
    obtain ⟨i, hi, rfl, hl', hb⟩ := hrel
    have HB : Hid (Below V4.heap.size V4 wr) := hb
    have HLl : Hid (∃ l' : List (Int × Int), l'.length = n ∧ wr.ownsRow V4.heap.size 48 2 (.slice la n lc) n (slCells l')) := hl'
    clear hb hl'
    by_cases hlt : i < n
    · obtain ⟨l', hl1, hl2⟩ := HLl.out
      obtain ⟨g, rfl⟩ : ∃ g, la = some ⟨g, 0, none⟩ := by
        rcases hl2.2 with ⟨h3, h4⟩ | ⟨g, cap, cur, hv, _⟩
        · omega
        · simp at hv; exact ⟨g, hv.1⟩
      obtain ⟨p1, p2, p3⟩ := own_put hl2 hl1 hlt ((99 : Int), (i : Int))
      have P1 : Hid (wr.there g (i * 2) 2) := p1
      have P2 : Hid (V4.heap.size ≤ g) := p2
      have P3 : Hid ((wr.setCells g (i * 2) (slotV ((99 : Int), (i : Int)))).ownsRow V4.heap.size 48 2 (.slice (some ⟨g, 0, none⟩) n lc) n (slCells (l'.set i ((99 : Int), (i : Int))))) := p3
      have Hl1 : Hid ((l'.set i ((99 : Int), (i : Int))).length = n) := (show _ = _ from by rw [List.length_set]; exact hl1)
      have HKs : Hid (Below V4.heap.size V4 (wr.setCells g (i * 2) (slotV ((99 : Int), (i : Int))))) := HB.out.trans ((ksets (P := fun j => j = g) rfl _ _ _).below HB.out.size (fun q hq e => by omega))
      clear p1 p2 p3 hl2 hl1 HLl
      have i1 : (0 : Int) ≤ (i : Int) := Int.natCast_nonneg _
      have i2 : (i : Int) < (n : Int) := by omega
      go_wp2_with (first
        | (refine wl_buildZ rfl 48 _ rfl (cs := (slotV ((99 : Int), (i : Int))).toArray) (built_eq (by kernel_rfl) (bSlot (i : Int))) ?_)
        | (refine wl_storeM rfl 48 _ _ rfl (g := g) (off := 0 + i * 2) (L := slotV ((99 : Int), (i : Int))) rfl rfl (by rw [Nat.zero_add]; exact P1.out) info_slot (slotV_one _) ?_; rw [Nat.zero_add]; generalize wr.setCells g (i * 2) (slotV ((99 : Int), (i : Int))) = Wn at *)
        | (refine wl_storeM rfl 48 _ _ rfl (g := g) (off := i * 2) (L := slotV ((99 : Int), (i : Int))) rfl rfl P1.out info_slot (slotV_one _) ?_; generalize wr.setCells g (i * 2) (slotV ((99 : Int), (i : Int))) = Wn at *)
        | fail)
      exact ⟨⟨i + 1, by omega, by go_num, ⟨_, Hl1.out, P3.out⟩, HKs.out⟩, by simp [intOf]; omega⟩
    · obtain rfl : i = n := by omega
      have HLf : Hid (Lw W1 wr w.heap.size vb k ta ia xs x) := HL.out.still HB.out
      have HAU : Hid (Calls Try.prog 12 #[.slice ta xs.length tc, .slice ia xs.length ic, .slice k.ao k.fs.length k.cp] wr fun e w' => e = .returned (.bool true) ∧ Below wr.heap.size wr w') := allUn_any HLf.out.t HLf.out.r Hn.out HI.out
      have HUn : Hid (∀ X, Below wr.heap.size wr X → Calls Try.prog 13 #[.agg x.tw.toArray, .agg k.own.cs.toArray] X fun e w' => e = .returned (.bool true) ∧ Below X.heap.size X w') := fun X hX => untouched_any (HLf.out.x.still hX) (HLf.out.o.still hX) HIo.out.1 HIo.out.2
      have HqX : Hid (∀ X, Below wr.heap.size wr X → X.rangeAt w.heap.size 1 k.own.cs ∧ X.rangeAt vb 0 x.tw) := fun X hX => ⟨(HCs.out _ (blk_on hX HLf.out.c)).2.2, blk_range (blk_on hX HLf.out.v)⟩
      obtain ⟨q0, -, -⟩ := HCs.out _ HLf.out.c
      clear HLl
      go_wp2_with (first
        | (go_at_call 12; refine HAU.out.mono ?_; rintro e Y1 ⟨rfl, hy1⟩; have BY1 : Hid (Below wr.heap.size wr Y1) := hy1; clear hy1)
        | (refine load_mid 36 (.tmp 5) (HqX.out _ BY1.out).2 _ Try.underlying36 rfl (by rw [Hx9.out]; exact info_twin) rfl rfl rfl ?_)
        | (refine load_mid 28 (.tmp 82) (HqX.out _ BY1.out).1 _ Try.underlying28 rfl (by rw [Hc7.out]; exact info_flush) rfl rfl rfl ?_)
        | (go_at_call 13; refine (HUn.out _ BY1.out).mono ?_; rintro e Y2 ⟨rfl, hy2⟩; have BY2 : Hid (Below wr.heap.size wr Y2) := bstep BY1.out hy2; clear hy2)
        | fail)
      go_ret
      exact ⟨rfl, bstep HB1.out (bstep HLf.out.b BY2.out)⟩
end
end Go.Proofs.Yteeoffbjjifleaa.Fm
