import Derived.Test.YtpkcgjnaegaecaaYq5
import Derived.Test.YtpkcgjnaegaecaaY9
namespace Go.Proofs.Ytpkcgjnaegaecaa.Fm
open Go.RowKit Go.Maps Mb
set_option linter.unusedVariables false
set_option maxRecDepth 100000
set_option linter.unusedSimpArgs false
section
variable {w w' W : World} {B : Nat}
set_option maxHeartbeats 8000000 in
theorem flushDuty_any {k : Ca} {who : List Int} (hr : RdFs w k.ao k.fs) (hi : ∀ i, i < k.fs.length → (k.fs.getD i fl0).In w) (hn : k.fs.length ≤ 1048576) (hw : RdI w k.wa who) (hwl : who.length = k.wn) (hwn : who.length ≤ 1048576) (hwz : k.wa = none → who.length = 0 ∧ k.wc = 0) : Calls Try.prog 5 #[.agg k.cs.toArray] w fun e w' => e = .returned (.bool true) ∧ Below w.heap.size w w' := by
  generalize hW1 : w.alloc (.cells k.cs.toArray 58) = W1
  have b1 : Below w.heap.size w W1 := hW1 ▸ balloc (Below.refl _ _)
  have k1 : W1.heap[w.heap.size]? = some (.cells k.cs.toArray 58 (0, 0)) := by rw [← hW1]; exact heap_alloc_new w _
  have HB1 : Hid (Below w.heap.size w W1) := b1
  have HK1 : Hid (W1.heap[w.heap.size]? = some (.cells k.cs.toArray 58 (0, 0))) := k1
  have HR1 : Hid (RdFs W1 k.ao k.fs) := hr.still b1
  have HW1 : Hid (RdI W1 k.wa who) := hw.still b1
  have HTw := twins_any (w := W1) (cp := k.cp) (hr.still b1) (fun i hh => (hi i hh).still b1) hn
  have HI : Hid (∀ i, i < k.fs.length → (k.fs.getD i fl0).c.sl.length ≤ 1048576 ∧ (k.fs.getD i fl0).c.hv.length ≤ 1048576) := fun i hh => ⟨(hi i hh).sn, (hi i hh).hn⟩
  have Hn : Hid (k.fs.length ≤ 1048576) := hn
  have Hwn : Hid (who.length ≤ 1048576) := hwn
  have Hwz : Hid (k.wa = none → k.wn = 0 ∧ k.wc = 0) := fun h => by rw [← hwl]; exact hwz h
  have Hwl : Hid (who.length = k.wn) := hwl
  have hkn : k.wn ≤ 1048576 := by rw [← hwl]; exact hwn
  have HCs : Hid (∀ X : World, X.heap[w.heap.size]? = some (.cells k.cs.toArray 58 (0, 0)) → X.cell? ⟨w.heap.size, 0, none⟩ = some (.slice k.ao k.fs.length k.cp) ∧ X.cell? ⟨w.heap.size, 9, none⟩ = some (.slice k.wa k.wn k.wc) ∧ X.cell? ⟨w.heap.size, 10, none⟩ = some (.int .i64 k.self) ∧ X.cell? ⟨w.heap.size, 11, none⟩ = some (.int .i64 k.q)) := fun X h => ⟨blk_cell h 0, blk_cell h 9, blk_cell h 10, blk_cell h 11⟩
  obtain ⟨ii, ihi, ihz0, ihz1, ihz2⟩ := int_info
  clear hr hi b1 k1 hn hw hwl hwn hwz
  generalize k.cs.toArray = ca at hW1 ⊢
  obtain ⟨q0, -, -, -⟩ := HCs.out _ HK1.out
  go_enter Try.func5, Try.ntmps5
  go_upto_region 2 with (first
    | (go_at_call 23; refine HTw.mono ?_; rintro e V1 ⟨ta, tc, ia, ic, xs, rfl, hT, hv1, hcap, hcm⟩)
    | fail)
  clear q0 HTw hW1
  have BV1 : Hid (Below W1.heap.size W1 V1) := hv1
  have HT1 : Hid (Tws V1 W1.heap.size ta ia xs k.fs) := hT
  have HWv : Hid (RdI V1 k.wa who) := HW1.out.still hv1
  have q9 : (V1.alloc (.cells #[] 3)).cell? ⟨w.heap.size, 9, none⟩ = some (.slice k.wa k.wn k.wc) := below_at (balloc (Below.refl _ _)) (HCs.out _ (blk_on hv1 HK1.out)).2.1
  clear hT hv1
  go_upto_region 3 with (first
    | (at_builtin; refine copy_app rfl _ _ 28 3 rfl ii (.int .i64 0) 1 8 Try.underlying28 ihi ihz0 ihz1 ihz2 rfl (by omega) rfl k.wa k.wn k.wc (ints who) rfl Hwz.out (by rw [ints_len, Hwl.out, Nat.mul_one]) (rdI_news HWv.out) (ints_one _) (by unfold maxLen; omega) (by omega) ?_; intro a2 c2 V2 hbv2 hov2)
    | fail)
  have BV2 : Hid (Below V1.heap.size V1 V2) := hbv2
  have HO2 : Hid (V2.ownsRow V1.heap.size 3 1 (.slice a2 k.wn c2) k.wn (ints who)) := hov2
  have BW2 : Hid (Below W1.heap.size W1 V2) := bstep BV1.out hbv2
  clear hbv2 hov2 q9 HWv
  have Hlen : Hid (xs.length = k.fs.length) := HT1.out.len
  have HDu := duty_any (w := V2) (wcp := c2) (cp := ic) (who := who) (fs := xs) (own_rdI HO2.out Hwl.out) Hwn.out ((HT1.out.still BV2.out).rd (HR1.out.still BW2.out)) (by rw [Hlen.out]; exact Hn.out) k.self k.q
  rw [HT1.out.cos, Hwl.out] at HDu
  obtain ⟨-, -, q10, q11⟩ := HCs.out _ (blk_on BW2.out HK1.out)
  go_upto_region 4 with (first
    | (go_at_call 12; refine HDu.mono ?_; rintro e V5 ⟨la, lc, l, E, rfl, hS, hlo, hv5⟩; have HS5 : Hid (DuS (cos k.fs) who k.self k.q E l) := hS; have HO5 : Hid _ := hlo; have BV5 : Hid _ := hv5; clear hS hlo hv5)
    | fail)
  have BW5 : Hid (Below W1.heap.size W1 V5) := bstep BW2.out BV5.out
  have HQa := qduty_any (w := V5) (wcp := k.wc) (cp := k.cp) (HW1.out.still BW5.out) Hwn.out (HR1.out.still BW5.out) Hn.out k.self k.q
  rw [Hwl.out] at HQa
  obtain ⟨q0, q9, q10', q11'⟩ := HCs.out _ (blk_on BW5.out HK1.out)
  clear HDu q10 q11
  go_upto_region 5 with (first
    | (go_at_call 24; refine HQa.mono ?_; rintro e V6 ⟨ka, kc, l', E', rfl, hS, hko, hv6⟩; have HS6 : Hid (DuS (cos k.fs) who k.self k.q E' l') := hS; have HO6 : Hid _ := hko; have BV6 : Hid _ := hv6; clear hS hko hv6)
    | fail)
  obtain ⟨rfl, rfl⟩ := HS5.out.eq HS6.out
  have BW6 : Hid (Below W1.heap.size W1 V6) := bstep BW5.out BV6.out
  have HT6 : Hid (Tws V6 W1.heap.size ta ia xs k.fs) := HT1.out.still (bstep (bstep BV2.out BV5.out) BV6.out)
  have HO56 : Hid (V6.ownsRow V2.heap.size 40 2 (.slice la l.length lc) l.length (slCells l)) := own_still HO5.out BV6.out
  have HlL : Hid (l.length ≤ 1000000000000000000) := HS6.out.len
  have HSs := sameSlots_any (ca := lc) (cb := kc) (own_rdS HO56.out rfl) (own_rdS HO6.out rfl) HlL.out
  have HSi : Hid (∀ X, Below V6.heap.size V6 X → Calls Try.prog 27 #[.slice a2 k.wn c2, .slice k.wa k.wn k.wc] X fun e w' => e = .returned (.bool true) ∧ Below X.heap.size X w') := fun X hX => by
    have := sameInts_any (w := X) (ca := c2) (cb := k.wc) ((own_rdI (own_still HO2.out (bstep BV5.out BV6.out)) Hwl.out).still hX) (HW1.out.still (bstep BW6.out hX)) (by have := Hwn.out; omega)
    rw [Hwl.out] at this
    exact this
  have HN : Calls Try.prog 25 #[.int .i64 E] V6 fun e w' => e = .returned (.int .i64 E) ∧ V6 = w' := (num_any (w := V6) E).mono fun _ _ h => ⟨h.1, h.2.symm⟩
  have HqX : Hid (∀ X, Below V6.heap.size V6 X → X.cell? ⟨w.heap.size, 9, none⟩ = some (.slice k.wa k.wn k.wc)) := fun X hX => (HCs.out _ (blk_on (bstep BW6.out hX) HK1.out)).2.1
  clear HQa q0 q9 q10' q11' HS5 HS6 HO6
  go_upto_region 8 with (first
    | (go_at_call 25; refine HN.mono ?_; rintro e Vz ⟨rfl, rfl⟩)
    | (go_at_call 26; refine HSs.mono ?_; rintro e V7 ⟨rfl, hb7⟩; have BV7 : Hid (Below V6.heap.size V6 V7) := hb7; clear hb7; have q7 := HqX.out _ BV7.out)
    | (go_at_call 27; refine (HSi.out _ BV7.out).mono ?_; rintro e V8 ⟨rfl, hb8⟩; have BV8 : Hid (Below V6.heap.size V6 V8) := bstep BV7.out hb8; clear hb8 q7)
    | fail)
  have HO9 : Hid (V8.ownsRow V2.heap.size 40 2 (.slice la l.length lc) l.length (slCells l)) := own_still HO56.out BV8.out
  have B49 : Hid (Below V2.heap.size V2 V8) := bstep (bstep BV5.out BV6.out) BV8.out
  have HTv : Hid (Tws V2 W1.heap.size ta ia xs k.fs) := HT1.out.still BV2.out
  generalize hln : l.length = n at *
  have Hln : Hid (l.length = n) := hln
  have HnB : Hid (n ≤ 1000000000000000000) := HlL.out
  clear hln HSs HSi HN HqX HT6 HO56 BV8 BV7 BV6 BV5 HO5 HlL BW5 BW6
  have hnB := HnB.out
  go_loopw [10] (fun iv wr => ∃ i : Nat, i ≤ n ∧ iv = .int .i64 (i : Int) ∧ (∃ l' : List (Int × Int), l'.length = n ∧ wr.ownsRow V2.heap.size 40 2 (.slice la n lc) n (slCells l')) ∧ Below V2.heap.size V2 wr) (fun iv _ => n - (intOf iv).toNat)
  case atStart => exact ⟨0, Nat.zero_le _, rfl, ⟨l, Hln.out, HO9.out⟩, B49.out⟩
  case round =>
    obtain ⟨i, hi, rfl, hl', hb⟩ := hrel
    have HB : Hid (Below V2.heap.size V2 wr) := hb
    have HLl : Hid (∃ l' : List (Int × Int), l'.length = n ∧ wr.ownsRow V2.heap.size 40 2 (.slice la n lc) n (slCells l')) := hl'
    clear hb hl'
    by_cases hlt : i < n
    · obtain ⟨l', hl1, hl2⟩ := HLl.out
      obtain ⟨g, rfl⟩ : ∃ g, la = some ⟨g, 0, none⟩ := by
        rcases hl2.2 with ⟨h3, h4⟩ | ⟨g, cap, cur, hv, _⟩
        · omega
        · simp at hv; exact ⟨g, hv.1⟩
      obtain ⟨p1, p2, p3⟩ := own_put hl2 hl1 hlt ((99 : Int), (i : Int))
      have P1 : Hid (wr.there g (i * 2) 2) := p1
      have P2 : Hid (V2.heap.size ≤ g) := p2
      have P3 : Hid ((wr.setCells g (i * 2) (slotV ((99 : Int), (i : Int)))).ownsRow V2.heap.size 40 2 (.slice (some ⟨g, 0, none⟩) n lc) n (slCells (l'.set i ((99 : Int), (i : Int))))) := p3
      have Hl1 : Hid ((l'.set i ((99 : Int), (i : Int))).length = n) := (show _ = _ from by rw [List.length_set]; exact hl1)
      have HKs : Hid (Below V2.heap.size V2 (wr.setCells g (i * 2) (slotV ((99 : Int), (i : Int))))) := HB.out.trans ((ksets (P := fun j => j = g) rfl _ _ _).below HB.out.size (fun q hq e => by omega))
      clear p1 p2 p3 hl2 hl1 HLl
      have i1 : (0 : Int) ≤ (i : Int) := Int.natCast_nonneg _
      have i2 : (i : Int) < (n : Int) := by omega
      go_wp2_with (first
        | (refine wl_buildZ rfl 40 _ rfl (cs := (slotV ((99 : Int), (i : Int))).toArray) (built_eq (by kernel_rfl) (bSlot (i : Int))) ?_)
        | (refine wl_storeM rfl 40 _ _ rfl (g := g) (off := 0 + i * 2) (L := slotV ((99 : Int), (i : Int))) rfl rfl (by rw [Nat.zero_add]; exact P1.out) info_slot (slotV_one _) ?_; rw [Nat.zero_add]; generalize wr.setCells g (i * 2) (slotV ((99 : Int), (i : Int))) = Wn at *)
        | (refine wl_storeM rfl 40 _ _ rfl (g := g) (off := i * 2) (L := slotV ((99 : Int), (i : Int))) rfl rfl P1.out info_slot (slotV_one _) ?_; generalize wr.setCells g (i * 2) (slotV ((99 : Int), (i : Int))) = Wn at *)
        | fail)
      exact ⟨⟨i + 1, by omega, by go_num, ⟨_, Hl1.out, P3.out⟩, HKs.out⟩, by simp [intOf]; omega⟩
    · obtain rfl : i = n := by omega
      have BWr : Hid (Below W1.heap.size W1 wr) := bstep BW2.out HB.out
      have HAU : Hid (Calls Try.prog 28 #[.slice ta xs.length tc, .slice ia xs.length ic, .slice k.ao k.fs.length k.cp] wr fun e w' => e = .returned (.bool true) ∧ Below wr.heap.size wr w') := allUn_any (HTv.out.still HB.out) (HR1.out.still BWr.out) Hn.out HI.out
      obtain ⟨q0, -, -, -⟩ := HCs.out _ (blk_on BWr.out HK1.out)
      clear HLl
      go_wp2_with (first
        | (go_at_call 28; refine HAU.out.mono ?_; rintro e Y1 ⟨rfl, hy1⟩; have BY1 : Hid (Below wr.heap.size wr Y1) := hy1; clear hy1)
        | fail)
      go_ret
      exact ⟨rfl, bstep HB1.out (bstep BWr.out BY1.out)⟩
end
end Go.Proofs.Ytpkcgjnaegaecaa.Fm
