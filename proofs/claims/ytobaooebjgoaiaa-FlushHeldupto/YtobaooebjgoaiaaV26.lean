import Derived.Test.YtobaooebjgoaiaaV23
import Derived.Test.YtobaooebjgoaiaaV17
namespace Go.Proofs.Ytobaooebjgoaiaa.Fm
open Go.RowKit Go.Maps Mb
set_option linter.unusedVariables false
set_option maxRecDepth 100000
set_option linter.unusedSimpArgs false
section
variable {w w' W : World} {B : Nat}
theorem whP_none {cs : List Co} {pos : Int} (h : atP cs pos = none) : whP cs pos = false := by unfold whP; rw [h]
theorem whP_some {cs : List Co} {pos : Int} {s : Int × Int} (h : atP cs pos = some s) : whP cs pos = hasA cs s := by unfold whP; rw [h]
theorem hasA_yes {cs : List Co} {s : Int × Int} {i : Nat} (hi : i < cs.length) (h : has (cs.getD i c0) s = true) : hasA cs s = true := by
 unfold hasA
 rw [List.any_eq_true]
 exact ⟨i, List.mem_range.2 hi, h⟩
theorem hasA_no {cs : List Co} {s : Int × Int} (h : ∀ i, i < cs.length → has (cs.getD i c0) s = false) : hasA cs s = false := by
 unfold hasA
 rw [List.any_eq_false]
 intro i hi
 rw [h i (List.mem_range.1 hi)]
 simp
set_option maxHeartbeats 4000000 in
theorem qwhole_any {ao : Option Addr} {cp : Nat} {fs : List Fl} (hr : RdFs w ao fs) (hn : fs.length ≤ 1000000000000000000) (ht : Tog (cos fs)) (pos : Int) (hp0 : 0 ≤ pos) (hp1 : pos ≤ 4611686018427389904) : Calls Try.prog 69 #[.slice ao fs.length cp, .int .i64 pos] w fun e w' => e = .returned (.bool (whP (cos fs) pos)) ∧ Below w.heap.size w w' := by
 have HR : Hid (RdFs w ao fs) := hr
 have HT : Hid (Tog (cos fs)) := ht
 have HAt := qAt_any (cp := cp) hr hn (fun i hi => by
  have h := ht.snd i (by rw [cos_len]; exact hi)
  rw [cos_at] at h
  exact ⟨h.b0, by have := h.bM; omega⟩) pos hp0 hp1
 have hcl := cos_len fs
 generalize hL : fs.length = L at *
 have HLe : Hid (fs.length = L) := hL
 have HcL : Hid ((cos fs).length = L) := hcl
 clear hr hL ht hcl
 have Hsome : Hid (∀ s, atP (cos fs) pos = some s → 1 ≤ s.2) := fun s hs => (tog_pair HT.out ((atP_iff HT.out.con pos s).1 hs)).2.2.2.2.2.1
 have Hn0 : Hid (atP (cos fs) pos = none → whP (cos fs) pos = false) := whP_none
 have Hs0 : Hid (∀ s, atP (cos fs) pos = some s → whP (cos fs) pos = hasA (cos fs) s) := fun s => whP_some
 cases hat : atP (cos fs) pos with
 | none =>
  rw [hat] at HAt
  have Hr : Hid (whP (cos fs) pos = false) := Hn0.out hat
  clear Hsome Hn0 Hs0 hat
  go_enter Try.func69, Try.ntmps69
  go_wp2_with (first
   | (go_at_call 44; refine HAt.mono ?_; rintro e V ⟨rfl, hbv⟩)
   | (refine wl_st 76 (.tmp 5) (.tmp 10) rfl ?_)
   | fail)
  have HB : Hid (Below w.heap.size w V) := hbv
  clear hbv HAt
  refine wl_store 76 (.tmp 5) (.tmp 10) (L := slotV z2) (new_there _ _ _ rfl) info_slot (slotV_one _) rfl rfl rfl (by kernel_rfl) ?_
  simp only [Act.put,gA9,gZ9,gC9,sA9,sZ9,sC9]
  refine ⟨?_⟩
  obtain ⟨hn1, hn2⟩ := newvar V 76 #[.int .i64 0, .int .i64 0] (slotV z2) rfl
  have HBn : Hid (Below w.heap.size w ((V.alloc (.cells #[.int .i64 0, .int .i64 0] 76)).setCells V.heap.size 0 (slotV z2))) := bstep HB.out hn1
  have Hv5 : Hid (((V.alloc (.cells #[.int .i64 0, .int .i64 0] 76)).setCells V.heap.size 0 (slotV z2)).heap[V.heap.size]? = some (.cells (slotV z2).toArray 76 (0, 0))) := hn2
  have Hn1 : Hid (Below V.heap.size V ((V.alloc (.cells #[.int .i64 0, .int .i64 0] 76)).setCells V.heap.size 0 (slotV z2))) := hn1
  clear hn1 hn2 HB
  generalize (V.alloc (.cells #[.int .i64 0, .int .i64 0] 76)).setCells V.heap.size 0 (slotV z2) = V2 at *
  generalize hvb : V.heap.size = v5 at *
  have Hvbv5 : Hid (V.heap.size = v5) := hvb
  clear hvb
  have HB := HBn
  clear HBn
  have q1 : V2.cell? ⟨v5, 1, none⟩ = some (.int .i64 0) := blk_cell Hv5.out 1
  go_wp2
  go_ret
  exact ⟨congrArg (fun b => Ending.returned (.bool b)) Hr.out.symm, HB.out⟩
 | some s =>
  rw [hat] at HAt
  have Hr : Hid (whP (cos fs) pos = hasA (cos fs) s) := Hs0.out s hat
  have hs1 := Hsome.out s hat
  clear Hsome Hn0 Hs0 hat
  simp only [Option.getD_some] at HAt
  go_enter Try.func69, Try.ntmps69
  go_wp2_with (first
   | (go_at_call 44; refine HAt.mono ?_; rintro e V ⟨rfl, hbv⟩)
   | (refine wl_st 76 (.tmp 5) (.tmp 10) rfl ?_)
   | fail)
  have HB : Hid (Below w.heap.size w V) := hbv
  clear hbv HAt
  refine wl_store 76 (.tmp 5) (.tmp 10) (L := slotV s) (new_there _ _ _ rfl) info_slot (slotV_one _) rfl rfl rfl (by kernel_rfl) ?_
  simp only [Act.put,gA9,gZ9,gC9,sA9,sZ9,sC9]
  refine ⟨?_⟩
  obtain ⟨hn1, hn2⟩ := newvar V 76 #[.int .i64 0, .int .i64 0] (slotV s) rfl
  have HBn : Hid (Below w.heap.size w ((V.alloc (.cells #[.int .i64 0, .int .i64 0] 76)).setCells V.heap.size 0 (slotV s))) := bstep HB.out hn1
  have Hv5 : Hid (((V.alloc (.cells #[.int .i64 0, .int .i64 0] 76)).setCells V.heap.size 0 (slotV s)).heap[V.heap.size]? = some (.cells (slotV s).toArray 76 (0, 0))) := hn2
  have Hn1 : Hid (Below V.heap.size V ((V.alloc (.cells #[.int .i64 0, .int .i64 0] 76)).setCells V.heap.size 0 (slotV s))) := hn1
  clear hn1 hn2 HB
  generalize (V.alloc (.cells #[.int .i64 0, .int .i64 0] 76)).setCells V.heap.size 0 (slotV s) = V2 at *
  generalize hvb : V.heap.size = v5 at *
  have Hvbv5 : Hid (V.heap.size = v5) := hvb
  clear hvb
  have HB := HBn
  clear HBn
  have q1 : V2.cell? ⟨v5, 1, none⟩ = some (.int .i64 s.2) := blk_cell Hv5.out 1
  have hne : ¬ s.2 = 0 := by omega
  generalize hs2 : s.2 = s2 at *
  have hne2 : (s2 == 0) = false := by simpa using hne
  have hne3 : decide (s2 = 0) = false := decide_eq_false hne
  go_wp2
  clear hs2 q1
  go_loopw [6] (fun i wr => ∃ c : Nat, c ≤ L ∧ i = .int .i64 c ∧ (∀ k, k < c → has ((cos fs).getD k c0) s = false) ∧ Below V2.heap.size V2 wr) (fun i _ => L - (intOf i).toNat)
  case atStart => exact ⟨0, Nat.zero_le _, rfl, fun k hk => by omega, Below.refl _ _⟩
  case round =>
   obtain ⟨c, hc, rfl, hno, hb⟩ := hrel
   have HN : Hid (∀ k, k < c → has ((cos fs).getD k c0) s = false) := hno
   have HB2 : Hid (Below V2.heap.size V2 wr) := hb
   clear hno hb
   have HBw : Hid (Below w.heap.size w wr) := bstep HB.out HB2.out
   have Hv : Hid (wr.heap[v5]? = some (.cells (slotV s).toArray 76 (0, 0))) := (HB2.out.block _ (lt_heap Hv5.out)).trans Hv5.out
   by_cases hlt : c < L
   ·have hrw := HR.out.still (bstep HBw.out (Below.refl _ _).drew)
    obtain ⟨b, off, rfl, hcc⟩ := hrw.at (i := c) (by rw [HLe.out]; exact hlt)
    have HQ : Hid (Calls Try.prog 45 #[.agg (fs.getD c fl0).cs.toArray, .agg (slotV s).toArray] wr.drew fun e w' => e = .returned (.bool (has (fs.getD c fl0).c s)) ∧ Below wr.drew.heap.size wr.drew w') := qhas_any (hrw.el c (by rw [HLe.out]; exact hlt)) s
    have HcA : Hid ((cos fs).getD c c0 = (fs.getD c fl0).c) := cos_at fs c
    have r5 := blk_range (w := wr.drew) Hv.out
    have i1 : (0 : Int) ≤ (c : Int) := Int.natCast_nonneg _
    have i2 : (c : Int) < (L : Int) := by omega
    generalize fs.getD c fl0 = f at *
    have Hf7 : Hid (f.cs.length = 7) := rfl
    clear hrw
    cases hh : has f.c s with
    | true =>
     rw [hh] at HQ
     have Hr2 : Hid (whP (cos fs) pos = true) := (show _ = _ from by rw [Hr.out]; exact hasA_yes (i := c) (by rw [HcL.out]; exact hlt) (by rw [HcA.out]; exact hh))
     clear hh
     go_wp2_with (fail)
     refine wp_region_held_drew (S := (fun w' => w'.rangeAt b (off + c * 7) f.cs ∧ w'.rangeAt v5 0 (slotV s))) (by kernel_rfl) ⟨hcc, r5⟩ (fun hHeld => ?_)
     simp only [Act.put, List.size_toArray, List.length_cons, List.length_nil, Nat.zero_add]
     refine wG9 0 (.slice (some ⟨b, off, none⟩) L cp) rfl hHeld ?_
     simp only [Act.put,gA9,gZ9,gC9,sA9,sZ9,sC9]
     refine wG9 1 (.int .i64 (c : Int)) rfl hHeld ?_
     simp only [Act.put,gA9,gZ9,gC9,sA9,sZ9,sC9]
     refine wG9 2 (.pointer (some ⟨b, off + c * 7, none⟩)) rfl hHeld ?_
     simp only [Act.put,gA9,gZ9,gC9,sA9,sZ9,sC9]
     refine wpAnyH_take (i := 3) (v := .agg (f.cs).toArray) rfl (by kernel_rfl) (by kernel_rfl) (by kernel_rfl) (fun _ _ _ h => h) (yieldsIf_load_mid (by rfl) 28 (.tmp 22) rfl b (off + c * 7) (by rfl) (f.cs) _ (fun w' hS => hS.1) Try.underlying28 rfl (by rw [Hf7.out]; exact info_flush)) hHeld ?_
     simp only [Act.put,gA9,gZ9,gC9,sA9,sZ9,sC9]
     refine wpAnyH_take (i := 4) (v := .agg (slotV s).toArray) rfl (by kernel_rfl) (by kernel_rfl) (by kernel_rfl) (fun _ _ _ h => h) (yieldsIf_load_mid (by rfl) 76 (.tmp 5) rfl v5 (0) (by rfl) (slotV s) _ (fun w' hS => hS.2) Try.underlying76 rfl info_slot) hHeld ?_
     simp only [Act.put,gA9,gZ9,gC9,sA9,sZ9,sC9]
     refine wpAnyH_ready (rs := [5]) (by kernel_rfl) (by simp) ?_
     refine AllReadyH.cons rfl (fun K hK => ?_) AllReadyH.nil
     go_simp
     refine (HQ.out).mono ?_
     rintro e V3 ⟨rfl, hb3⟩
     refine hK.out _ _ ⟨fun q v hv => below_at hb3 (hcc q v hv), fun q v hv => below_at hb3 (r5 q v hv)⟩ (fun hHeld => ?_)
     clear hK K
     refine wG9 6 (.bool true) rfl hHeld ?_
     simp only [Act.put,gA9,gZ9,gC9,sA9,sZ9,sC9]
     refine wpAnyH_done (by kernel_rfl) ?_ _
     clear hHeld
     go_wp2
     go_ret
     exact ⟨congrArg (fun b => Ending.returned (.bool b)) Hr2.out.symm, bstep HBw.out.drew hb3⟩
    | false =>
     rw [hh] at HQ
     have HN2 : Hid (∀ k, k < c + 1 → has ((cos fs).getD k c0) s = false) := fun k hk => by
      by_cases e : k = c
      ·subst e; rw [HcA.out]; exact hh
      ·exact HN.out k (by omega)
     clear hh
     go_wp2_with (fail)
     refine wp_region_held_drew (S := (fun w' => w'.rangeAt b (off + c * 7) f.cs ∧ w'.rangeAt v5 0 (slotV s))) (by kernel_rfl) ⟨hcc, r5⟩ (fun hHeld => ?_)
     simp only [Act.put, List.size_toArray, List.length_cons, List.length_nil, Nat.zero_add]
     refine wG9 0 (.slice (some ⟨b, off, none⟩) L cp) rfl hHeld ?_
     simp only [Act.put,gA9,gZ9,gC9,sA9,sZ9,sC9]
     refine wG9 1 (.int .i64 (c : Int)) rfl hHeld ?_
     simp only [Act.put,gA9,gZ9,gC9,sA9,sZ9,sC9]
     refine wG9 2 (.pointer (some ⟨b, off + c * 7, none⟩)) rfl hHeld ?_
     simp only [Act.put,gA9,gZ9,gC9,sA9,sZ9,sC9]
     refine wpAnyH_take (i := 3) (v := .agg (f.cs).toArray) rfl (by kernel_rfl) (by kernel_rfl) (by kernel_rfl) (fun _ _ _ h => h) (yieldsIf_load_mid (by rfl) 28 (.tmp 22) rfl b (off + c * 7) (by rfl) (f.cs) _ (fun w' hS => hS.1) Try.underlying28 rfl (by rw [Hf7.out]; exact info_flush)) hHeld ?_
     simp only [Act.put,gA9,gZ9,gC9,sA9,sZ9,sC9]
     refine wpAnyH_take (i := 4) (v := .agg (slotV s).toArray) rfl (by kernel_rfl) (by kernel_rfl) (by kernel_rfl) (fun _ _ _ h => h) (yieldsIf_load_mid (by rfl) 76 (.tmp 5) rfl v5 (0) (by rfl) (slotV s) _ (fun w' hS => hS.2) Try.underlying76 rfl info_slot) hHeld ?_
     simp only [Act.put,gA9,gZ9,gC9,sA9,sZ9,sC9]
     refine wpAnyH_ready (rs := [5]) (by kernel_rfl) (by simp) ?_
     refine AllReadyH.cons rfl (fun K hK => ?_) AllReadyH.nil
     go_simp
     refine (HQ.out).mono ?_
     rintro e V3 ⟨rfl, hb3⟩
     refine hK.out _ _ ⟨fun q v hv => below_at hb3 (hcc q v hv), fun q v hv => below_at hb3 (r5 q v hv)⟩ (fun hHeld => ?_)
     clear hK K
     refine wG9 6 (.bool false) rfl hHeld ?_
     simp only [Act.put,gA9,gZ9,gC9,sA9,sZ9,sC9]
     refine wpAnyH_done (by kernel_rfl) ?_ _
     clear hHeld
     go_wp2
     exact ⟨⟨c + 1, by omega, by go_num, HN2.out, bstep HB2.out.drew hb3⟩, by simp [intOf]; omega⟩
   ·obtain rfl : L = c := by omega
    have Hr2 : Hid (whP (cos fs) pos = false) := (show _ = _ from by rw [Hr.out]; exact hasA_no (fun i hi => HN.out i (by rw [← HcL.out]; exact hi)))
    go_wp2
    go_ret
    exact ⟨congrArg (fun b => Ending.returned (.bool b)) Hr2.out.symm, HBw.out⟩
set_option maxHeartbeats 4000000 in
theorem qend_any {ao : Option Addr} {cp : Nat} {fs : List Fl} (hr : RdFs w ao fs) (hn : fs.length ≤ 1000000000000000000) (ht : Tog (cos fs)) : Calls Try.prog 43 #[.slice ao fs.length cp] w fun e w' => ∃ n : Nat, e = .returned (.int .i64 (baseOf (cos fs) + n)) ∧ Ends (cos fs) n ∧ Below w.heap.size w w' := by
 have HR : Hid (RdFs w ao fs) := hr
 have HT : Hid (Tog (cos fs)) := ht
 have HBa := qBase_any (cp := cp) hr hn
 have HQ : Hid (∀ (W : World) (pos : Int), Below w.heap.size w W → 0 ≤ pos → pos ≤ 4611686018427389904 → Calls Try.prog 69 #[.slice ao fs.length cp, .int .i64 pos] W fun e w' => e = .returned (.bool (whP (cos fs) pos)) ∧ Below W.heap.size W w') := fun W pos hb h0 h1 => qwhole_any (hr.still hb) hn ht pos h0 h1
 have hb0 : 0 ≤ baseOf (cos fs) := baseK_nn _ _
 have hbM : baseOf (cos fs) ≤ 4611686018427387904 := baseK_le _ ht.snd _ (Nat.le_refl _)
 generalize fs.length = L at *
 have Hle : Hid (∀ n : Nat, (∀ j : Nat, j < n → whP (cos fs) (baseOf (cos fs) + 1 + j) = true) → n ≤ 128) := fun n h => Ends.le HT.out h
 have HEn : Hid (∀ n : Nat, Ends (cos fs) n ↔ (∀ j : Nat, j < n → whP (cos fs) (baseOf (cos fs) + 1 + j) = true) ∧ whP (cos fs) (baseOf (cos fs) + 1 + n) = false) := fun n => Iff.rfl
 generalize hbs : baseOf (cos fs) = bs at *
 clear hr ht hbs
 go_enter Try.func43, Try.ntmps43
 go_wp2_with (first | (go_at_call 42; refine HBa.mono ?_; rintro e w2 ⟨rfl, rfl⟩) | fail)
 clear HBa
 go_loopw [3, 4] (fun kv i wr => ∃ n : Nat, n ≤ 128 ∧ kv = .int .i64 (bs + n) ∧ i = .int .i64 n ∧ (∀ j : Nat, j < n → whP (cos fs) (bs + 1 + j) = true) ∧ Below w2.heap.size w2 wr) (fun _ i _ => 2049 - (intOf i).toNat)
 case atStart => exact ⟨0, by omega, by simp, rfl, fun j hj => by omega, Below.refl _ _⟩
 case round =>
  obtain ⟨n, hn128, rfl, rfl, hwh, hb⟩ := hrel
  have HW : Hid (∀ j : Nat, j < n → whP (cos fs) (bs + 1 + j) = true) := hwh
  have HB : Hid (Below w2.heap.size w2 wr) := hb
  clear hwh hb
  have HQ2 := HQ.out wr (bs + (n : Int) + 1) HB.out (by omega) (by omega)
  have i1 : (n : Int) ≤ 2048 := by omega
  have hpn : bs + (n : Int) + 1 = bs + 1 + (n : Int) := by omega
  have Hpn : Hid (bs + (n : Int) + 1 = bs + 1 + (n : Int)) := hpn
  clear hpn
  cases hw : whP (cos fs) (bs + (n : Int) + 1) with
  | true =>
   rw [hw] at HQ2
   have HW2 : Hid (∀ j : Nat, j < n + 1 → whP (cos fs) (bs + 1 + j) = true) := fun j hj => by
    by_cases e : j = n
    ·subst e; rw [← Hpn.out]; exact hw
    ·exact HW.out j (by omega)
   have h128 : n + 1 ≤ 128 := Hle.out _ HW2.out
   clear hw
   go_wp2_with (first | (go_at_call 69; refine HQ2.mono ?_; rintro e V ⟨rfl, hb2⟩) | fail)
   exact ⟨⟨n + 1, h128, by first | (simp; done) | (simp; omega) | (congr 1; omega), by go_num, HW2.out, bstep HB.out hb2⟩, by simp [intOf]; omega⟩
  | false =>
   rw [hw] at HQ2
   have HE : Hid (Ends (cos fs) n) := (HEn.out n).2 ⟨HW.out, by rw [← Hpn.out]; exact hw⟩
   clear hw
   go_wp2_with (first | (go_at_call 69; refine HQ2.mono ?_; rintro e V ⟨rfl, hb2⟩) | fail)
   go_ret
   exact ⟨n, rfl, HE.out, bstep HB.out hb2⟩
end
end Go.Proofs.Ytobaooebjgoaiaa.Fm
namespace Go.Proofs.Ytobaooebjgoaiaa.Fm
open Go.RowKit Go.Maps Mb
set_option linter.unusedVariables false
set_option maxRecDepth 100000
set_option linter.unusedSimpArgs false
section
variable {w w' W : World} {B : Nat}
def CutS (cs : List Co) (v E : Int) : Prop := (inR 1 16 cs.length = false ∧ E = 1 ∧ v = 0) ∨ (inR 1 16 cs.length = true ∧ togE cs ≠ 0 ∧ E = togE cs ∧ v = 0) ∨ (inR 1 16 cs.length = true ∧ togE cs = 0 ∧ E = 0 ∧ ∃ n, Ends cs n ∧ v = baseOf cs + (n : Nat))
theorem CutS.eq {cs : List Co} {v E v' E' : Int} (h : CutS cs v E) (k : CutS cs v' E') : v = v' ∧ E = E' := by
 rcases h with ⟨h1, h2, h3⟩ | ⟨h1, h2, h3, h4⟩ | ⟨h1, h2, h3, n, h4, h5⟩
 ·rcases k with ⟨k1, k2, k3⟩ | ⟨k1, k2, k3, k4⟩ | ⟨k1, k2, k3, m, k4, k5⟩
  ·exact ⟨by rw [h3, k3], by rw [h2, k2]⟩
  ·rw [h1] at k1; cases k1
  ·rw [h1] at k1; cases k1
 ·rcases k with ⟨k1, k2, k3⟩ | ⟨k1, k2, k3, k4⟩ | ⟨k1, k2, k3, m, k4, k5⟩
  ·rw [h1] at k1; cases k1
  ·exact ⟨by rw [h4, k4], by rw [h3, k3]⟩
  ·exact absurd k2 h2
 ·rcases k with ⟨k1, k2, k3⟩ | ⟨k1, k2, k3, k4⟩ | ⟨k1, k2, k3, m, k4, k5⟩
  ·rw [h1] at k1; cases k1
  ·exact absurd h2 k2
  ·rw [h5, k5, h4.eq k4, h3, k3]; exact ⟨rfl, rfl⟩
end
end Go.Proofs.Ytobaooebjgoaiaa.Fm
namespace Go.Proofs.Ytobaooebjgoaiaa.Fm
open Go.RowKit Go.Maps Mb
set_option linter.unusedVariables false
set_option maxRecDepth 100000
set_option linter.unusedSimpArgs false
section
variable {w w' W : World} {B : Nat}
def lstE (cs : List Co) : Int := if inR 1 16 cs.length then togE cs else 1
set_option maxHeartbeats 4000000 in
theorem qlisted_any {ao : Option Addr} {cp : Nat} {fs : List Fl} (hr : RdFs w ao fs) (hln : fs.length ≤ 1000000000000000000) : Calls Try.prog 48 #[.slice ao fs.length cp] w fun e w' => e = .returned (.int .i64 (lstE (cos fs))) ∧ Below w.heap.size w w' := by
 have HT := qTog_any (cp := cp) hr hln
 have Hl : Hid (lstE (cos fs) = if inR 1 16 (fs.length : Int) then togE (cos fs) else 1) := (show _ = _ from by unfold lstE; rw [cos_len])
 generalize fs.length = L at *
 clear hr
 by_cases h1 : 1 ≤ L
 case neg =>
  have Hr : Hid (lstE (cos fs) = 1) := (show _ = _ from by rw [Hl.out, inR_f1 (by omega)]; rfl)
  go_enter Try.func48, Try.ntmps48
  go_wp2_with (first | (refine wl_at 4 rfl ?_) | fail)
  refine wT9 ?_
  simp only [Act.put,gA9,gZ9,gC9,sA9,sZ9,sC9]
  refine wl_take (v := .bool true) (by kernel_rfl) (by first | (go_simp; done) | (go_simp; omega)) ?_
  simp only [Act.put,gA9,gZ9,gC9,sA9,sZ9,sC9]
  refine wT9 ?_
  simp only [Act.put,gA9,gZ9,gC9,sA9,sZ9,sC9]
  refine wS9' ?_
  simp only [Act.put,gA9,gZ9,gC9,sA9,sZ9,sC9]
  refine wS9' ?_
  simp only [Act.put,gA9,gZ9,gC9,sA9,sZ9,sC9]
  refine wS9' ?_
  simp only [Act.put,gA9,gZ9,gC9,sA9,sZ9,sC9]
  refine wT9 ?_
  simp only [Act.put,gA9,gZ9,gC9,sA9,sZ9,sC9]
  refine ⟨?_⟩
  go_wp2
  go_ret
  exact ⟨congrArg (fun x => Ending.returned (.int .i64 x)) Hr.out.symm, Below.refl _ _⟩
 by_cases h2 : L ≤ 16
 case neg =>
  have Hr : Hid (lstE (cos fs) = 1) := (show _ = _ from by rw [Hl.out, inR_f2 (by omega)]; rfl)
  go_enter Try.func48, Try.ntmps48
  go_wp2_with (first | (refine wl_at 4 rfl ?_) | fail)
  refine wT9 ?_
  simp only [Act.put,gA9,gZ9,gC9,sA9,sZ9,sC9]
  refine wl_take (v := .bool false) (by kernel_rfl) (by first | (go_simp; done) | (go_simp; omega)) ?_
  simp only [Act.put,gA9,gZ9,gC9,sA9,sZ9,sC9]
  refine wT9 ?_
  simp only [Act.put,gA9,gZ9,gC9,sA9,sZ9,sC9]
  refine wT9 ?_
  simp only [Act.put,gA9,gZ9,gC9,sA9,sZ9,sC9]
  refine wT9 ?_
  simp only [Act.put,gA9,gZ9,gC9,sA9,sZ9,sC9]
  refine wl_take (v := .bool true) (by kernel_rfl) (by first | (go_simp; done) | (go_simp; omega)) ?_
  simp only [Act.put,gA9,gZ9,gC9,sA9,sZ9,sC9]
  refine wT9 ?_
  simp only [Act.put,gA9,gZ9,gC9,sA9,sZ9,sC9]
  refine ⟨?_⟩
  go_wp2
  go_ret
  exact ⟨congrArg (fun x => Ending.returned (.int .i64 x)) Hr.out.symm, Below.refl _ _⟩
 have Hr : Hid (lstE (cos fs) = togE (cos fs)) := (show _ = _ from by rw [Hl.out, inR_t (by omega) (by omega)]; rfl)
 go_enter Try.func48, Try.ntmps48
 go_wp2_with (first | (refine wl_at 4 rfl ?_) | fail)
 refine wT9 ?_
 simp only [Act.put,gA9,gZ9,gC9,sA9,sZ9,sC9]
 refine wl_take (v := .bool false) (by kernel_rfl) (by first | (go_simp; done) | (go_simp; omega)) ?_
 simp only [Act.put,gA9,gZ9,gC9,sA9,sZ9,sC9]
 refine wT9 ?_
 simp only [Act.put,gA9,gZ9,gC9,sA9,sZ9,sC9]
 refine wT9 ?_
 simp only [Act.put,gA9,gZ9,gC9,sA9,sZ9,sC9]
 refine wT9 ?_
 simp only [Act.put,gA9,gZ9,gC9,sA9,sZ9,sC9]
 refine wl_take (v := .bool false) (by kernel_rfl) (by first | (go_simp; done) | (go_simp; omega)) ?_
 simp only [Act.put,gA9,gZ9,gC9,sA9,sZ9,sC9]
 refine wT9 ?_
 simp only [Act.put,gA9,gZ9,gC9,sA9,sZ9,sC9]
 refine ⟨?_⟩
 go_wp2_with (first | (go_at_call 41; refine HT.mono ?_; rintro e V ⟨rfl, hb⟩) | fail)
 go_ret
 exact ⟨congrArg (fun x => Ending.returned (.int .i64 x)) Hr.out.symm, hb⟩
theorem lst_ok {cs : List Co} (h : lstE cs = 0) : inR 1 16 (cs.length : Int) = true ∧ togE cs = 0 := by
 unfold lstE at h
 cases hi : inR 1 16 (cs.length : Int) with
 | false => rw [hi] at h; cases h
 | true =>
  rw [hi] at h
  exact ⟨rfl, h⟩
end
end Go.Proofs.Ytobaooebjgoaiaa.Fm
