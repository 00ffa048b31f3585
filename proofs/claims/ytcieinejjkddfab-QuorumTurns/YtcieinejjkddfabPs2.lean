import Derived.Test.YtcieinejjkddfabPr2
namespace Go.Proofs.Ytcieinejjkddfab.Qm
open Go.RowKit Mb
set_option linter.unusedVariables false
set_option maxRecDepth 100000
set_option linter.unusedSimpArgs false
section
variable {w w' : World} {B : Nat} {A : Wa} {R R' : Rq} {v : Vw} {s : Nat}
theorem lent_rd {a : Option Addr} {n c : Nat} {xs : List Int} (hl : xs.length = n) (h : w.ownsRow B 3 1 (.slice a (n + 64) c) (n + 64) (ints (xs ++ mks 64))) : RdI w a n c xs := by
  have := (own_rd h).take (m := n) (by omega)
  rw [← hl, List.take_left, hl] at this
  exact this
theorem Rq.Ok.above {P : Nat → Prop} (h : R.Ok w B) (k : Kept w w' P) (hp : ∀ j, P j → j < B) : R.Ok w' B :=
  ⟨k.obj h.blk (fun e => by have := hp _ e; have := h.bB; omega), h.bB, k.owns h.vot (fun g hg e => by have := hp _ e; have := (World.ownsRow.lt h.vot g hg).1; omega), h.ok, k.owns h.row (fun g hg e => by have := hp _ e; have := (World.ownsRow.lt h.row g hg).1; omega), fun e he => ⟨k.owns (h.mem e he).1 (fun g hg e' => by have := hp _ e'; have := (World.ownsRow.lt (h.mem e he).1 g hg).1; omega), (h.mem e he).2⟩⟩
theorem Rq.Ok.lower {B' : Nat} (h : R.Ok w B) (hB : B' ≤ B) : R.Ok w B' :=
  ⟨h.blk, Nat.le_trans hB h.bB, own_lower h.vot hB, h.ok, own_lower h.row hB, fun e he => ⟨own_lower (h.mem e he).1 hB, (h.mem e he).2⟩⟩
theorem own_cell {g m c k : Nat} {ys : List Int} (h : w.ownsRow B 3 1 (.slice (some ⟨g, 0, none⟩) m c) m (ints ys)) (hk : k < m) : w.cell? ⟨g, k, none⟩ = some (.int .i64 (ys.getD k 0)) := by
  have hl : ys.length = m := by have := h.1; rw [ints_len] at this; omega
  rcases h.2 with ⟨h1, h2⟩ | ⟨g', cap, cur, hv, hB, hg, hnc, hcm, hcs, htk⟩
  · omega
  · simp only [Value.slice.injEq, Option.some.injEq, Addr.mk.injEq] at hv
    obtain ⟨⟨rfl, -⟩, -⟩ := hv
    rw [blk_cell hg k]
    have e1 : (cur.toList.take (m * 1))[k]? = (ints ys)[k]? := by rw [htk]
    rw [List.getElem?_take_of_lt (by omega)] at e1
    rw [← Array.getElem?_toList, e1, ints_get]
    simp [List.getD, show k < ys.length by omega]
theorem own_fz {g m c : Nat} {ys : List Int} (h : w.ownsRow B 3 1 (.slice (some ⟨g, 0, none⟩) m c) m (ints ys)) (k : Nat) : w.frozen? ⟨g, k, none⟩ = false := by
  obtain ⟨cur, hc⟩ := own_type h (show (Value.slice (some ⟨g, 0, none⟩) m c).ownBlock = some g from rfl)
  exact frozen_of_row w _ _ _ _ hc
theorem own_set {g m c k : Nat} {ys : List Int} (h : w.ownsRow B 3 1 (.slice (some ⟨g, 0, none⟩) m c) m (ints ys)) (hk : k < m) (x : Int) : (w.setCell ⟨g, k, none⟩ (.int .i64 x)).ownsRow B 3 1 (.slice (some ⟨g, 0, none⟩) m c) m (ints (ys.set k x)) := by
  refine ⟨by rw [ints_len, List.length_set, ← ints_len]; exact h.1, ?_⟩
  rcases h.2 with ⟨h1, h2⟩ | ⟨g', cap, cur, hv, hB, hg, hnc, hcm, hcs, htk⟩
  · omega
  · have hv2 := hv
    simp only [Value.slice.injEq, Option.some.injEq, Addr.mk.injEq] at hv
    obtain ⟨⟨rfl, -⟩, -⟩ := hv
    refine .inr ⟨g, cap, cur.setIfInBounds k (.int .i64 x), hv2, hB, blk_set hg rfl, hnc, hcm, by rw [Array.size_setIfInBounds]; exact hcs, ?_⟩
    rw [Array.toList_setIfInBounds, List.take_set, htk]
    simp [ints, List.map_set]
set_option maxHeartbeats 8000000 in
theorem watch_any {ao : Option Addr} {n c : Nat} {xs : List Int} (hr : RdI w ao n c xs) (hn : n ≤ 17592186043904) (ov : Value) : Calls Try.prog 20 #[.agg #[.slice ao n c, ov]] w fun e w' => ∃ (p q : Value), e = .returned (.tuple #[p, q, .bool true]) ∧ (okI xs = true → ∃ (A : Wa) (R : Rq), p = .pointer (some ⟨A.b, 0, none⟩) ∧ q = .pointer (some ⟨R.b, 0, none⟩) ∧ Pr A R w' w.heap.size ∧ R.es = []) ∧ (okI xs = false → p = .pointer none ∧ q = .pointer none) ∧ Below w.heap.size w w' := by
  generalize hW : w.alloc (.cells #[.slice ao n c, ov] 42) = W
  have hbW : Below w.heap.size w W := by rw [← hW]; exact balloc (Below.refl _ w)
  have hblk : W.heap[w.heap.size]? = some (.cells #[.slice ao n c, ov] 42 (0, 0)) := by rw [← hW]; exact heap_alloc_new w _
  have q0 : W.cell? ⟨w.heap.size, 0, none⟩ = some (.slice ao n c) := blk_cell hblk 0
  have HR : Hid (RdI W ao n c xs) := hr.still hbW
  have HBW : Hid (Below w.heap.size w W) := hbW
  have Hl1 : Hid (xs.length = n) := hr.len
  clear hr hblk hbW
  go_enter Try.func20, Try.ntmps20
  go_wp2_with (fail)
  refine (lent_any HR.out hn).mono ?_
  rintro e w1 ⟨v1, rfl, ho1, hb1⟩
  obtain ⟨g, c1, rfl⟩ : ∃ g c1, v1 = .slice (some ⟨g, 0, none⟩) (n + 64) c1 := by
    rcases ho1.2 with ⟨h1, h2⟩ | ⟨g', cap, cur, hv, _⟩
    · omega
    · exact ⟨g', cap, hv⟩
  have hc1 : n + 64 ≤ c1 := (own_rd ho1).cap
  have HO1 : Hid (w1.ownsRow W.heap.size 3 1 (.slice (some ⟨g, 0, none⟩) (n + 64) c1) (n + 64) (ints (xs ++ mks 64))) := ho1
  have HGl : Hid (w.heap.size ≤ g ∧ g < w1.heap.size) := ⟨Nat.le_trans HBW.out.size (World.ownsRow.lt ho1 g rfl).1, (World.ownsRow.lt ho1 g rfl).2⟩
  have HB1 : Hid (Below W.heap.size W w1) := hb1
  replace q0 := below_at hb1 q0
  clear ho1 hb1
  have HV1 : Hid (RdI w1 (some ⟨g, 0, none⟩) n c1 xs) := lent_rd Hl1.out HO1.out
  go_wp2_with (fail)
  cases hok : okI xs with
  | true =>
    refine (new_yes HV1.out hok).mono ?_
    rintro e w2 ⟨b, rfl, hA2, hb, hb2⟩
    have HA2 : Hid ((w0 b (nv xs)).Ok w2) := hA2
    have Hbb : Hid (w1.heap.size ≤ b) := hb
    have Hb2 : Hid (Below w1.heap.size w1 w2) := hb2
    replace q0 := below_at hb2 q0
    clear hA2 hb hb2
    go_wp2_with (fail)
    refine (rnew_yes (HR.out.still (bstep HB1.out Hb2.out)) hok).mono ?_
    rintro e w3 ⟨R, rfl, hR3, hRv, hRe, hb3⟩
    have HR3 : Hid (R.Ok w3 w2.heap.size) := hR3
    have HRv : Hid (R.v = nv xs) := hRv
    have HRe : Hid (R.es = []) := hRe
    have Hb3 : Hid (Below w2.heap.size w2 w3) := hb3
    replace q0 := below_at hb3 q0
    clear hR3 hRv hRe hb3
    have HBW3 : Hid (Below W.heap.size W w3) := bstep (bstep HB1.out Hb2.out) Hb3.out
    have HO3 : Hid (w3.ownsRow W.heap.size 3 1 (.slice (some ⟨g, 0, none⟩) (n + 64) c1) (n + 64) (ints (xs ++ mks 64))) := own_still (own_still HO1.out Hb2.out) Hb3.out
    go_wp2_with (first
      | (go_at_call 14; refine (num_any _).mono ?_; rintro e w8 ⟨rfl, rfl⟩)
      | fail)
    refine (kept_any (own_rd HO3.out) (HR.out.still HBW3.out) hn).mono ?_
    rintro e w4 ⟨rfl, hb4⟩
    have Hb4 : Hid (Below w3.heap.size w3 w4) := hb4
    have HO4 : Hid (w4.ownsRow W.heap.size 3 1 (.slice (some ⟨g, 0, none⟩) (n + 64) c1) (n + 64) (ints (xs ++ mks 64))) := own_still HO3.out hb4
    clear hb4 q0
    go_wp2_with (fail)
    go_loopw [12] (fun i wr => ∃ k : Nat, k ≤ n ∧ i = .int .i64 (k : Int) ∧ Hid (Kept w4 wr (fun j => j = g)) ∧ Hid (∃ ys, wr.ownsRow W.heap.size 3 1 (.slice (some ⟨g, 0, none⟩) (n + 64) c1) (n + 64) (ints ys))) (fun i _ => n - (intOf i).toNat)
    case atStart => exact ⟨0, Nat.zero_le _, rfl, Kept.refl _ _, ⟨_, HO4.out⟩⟩
    case round =>
      obtain ⟨k, hk, rfl, HKk, HOk⟩ := hrel
      by_cases hlt : k < n
      · obtain ⟨ys, hys⟩ := HOk.out
        have i1 : (0 : Int) ≤ (k : Int) := Int.natCast_nonneg _
        have i2 : (k : Int) < (n : Int) := by omega
        have e0 := own_cell hys (show k < n + 64 by omega)
        have e1 := own_fz hys k
        have HYs : Hid (wr.ownsRow W.heap.size 3 1 (.slice (some ⟨g, 0, none⟩) (n + 64) c1) (n + 64) (ints ys)) := hys
        generalize ys.getD k 0 = y at e0
        clear hys
        go_wp2
        exact ⟨⟨k + 1, by omega, by go_num, HKk.out.trans (kset _ _ _ _ rfl), ⟨_, own_set HYs.out (by omega) _⟩⟩, by simp [intOf]; omega⟩
      · obtain rfl : k = n := by omega
        go_wp2
        (try simp only [Exit.inBlock, Exit.then])
        refine bodyPost_ret (results_tmp3 rfl _ _ _) rfl ?_
        refine ⟨_, _, rfl, fun _ => ?_, fun h => (by rw [hok] at h; cases h), ?_⟩
        · have hz : w.heap.size ≤ w1.heap.size := Nat.le_trans HBW.out.size HB1.out.size
          have hz2 := Hb2.out.size
          refine ⟨w0 b (nv xs), R, rfl, rfl, ⟨(HA2.out.still (bstep Hb3.out Hb4.out)).keep HKk.out ?_, Nat.le_trans hz Hbb.out, ((HR3.out.still Hb4.out).above HKk.out ?_).lower (by omega), ?_⟩, HRe.out⟩
          · intro e
            have h1 : b = g := e
            have h2 := HGl.out
            have h3 := Hbb.out
            omega
          · intro j e
            have h2 := HGl.out
            omega
          · refine ⟨?_, ?_, ?_, ?_, ?_, ?_⟩
            · exact HRv.out.symm
            · rw [HRe.out]; rfl
            · rw [HRe.out]; rfl
            · unfold inB; rw [HRe.out]; rfl
            · rw [HRe.out]; rfl
            · rw [HRe.out]; rfl
        have k1 : Kept w w4 (fun j => w.heap.size ≤ j) := Kept.ofBelow (bstep (bstep HBW.out HBW3.out) Hb4.out) _
        exact (k1.trans (HKk.out.mono (fun j _ e => by have := HGl.out; omega))).below (Nat.le_refl _) (fun j hj h => by omega)
  | false =>
    refine (new_no HV1.out hok).mono ?_
    rintro e w2 ⟨rfl, hb2⟩
    have Hb2 : Hid (Below w1.heap.size w1 w2) := hb2
    replace q0 := below_at hb2 q0
    clear hb2
    go_wp2_with (fail)
    refine (rnew_no (HR.out.still (bstep HB1.out Hb2.out)) hok).mono ?_
    rintro e w3 ⟨rfl, rfl⟩
    have Hb3 : Hid (Below w2.heap.size w2 w2) := Below.refl _ _
    have HBW3 : Hid (Below W.heap.size W w2) := bstep (bstep HB1.out Hb2.out) Hb3.out
    have HO3 : Hid (w2.ownsRow W.heap.size 3 1 (.slice (some ⟨g, 0, none⟩) (n + 64) c1) (n + 64) (ints (xs ++ mks 64))) := own_still (own_still HO1.out Hb2.out) Hb3.out
    go_wp2_with (first
      | (go_at_call 14; refine (num_any _).mono ?_; rintro e w8 ⟨rfl, rfl⟩)
      | fail)
    refine (kept_any (own_rd HO3.out) (HR.out.still HBW3.out) hn).mono ?_
    rintro e w4 ⟨rfl, hb4⟩
    have Hb4 : Hid (Below w2.heap.size w2 w4) := hb4
    have HO4 : Hid (w4.ownsRow W.heap.size 3 1 (.slice (some ⟨g, 0, none⟩) (n + 64) c1) (n + 64) (ints (xs ++ mks 64))) := own_still HO3.out hb4
    clear hb4 q0
    go_wp2_with (fail)
    go_loopw [12] (fun i wr => ∃ k : Nat, k ≤ n ∧ i = .int .i64 (k : Int) ∧ Hid (Kept w4 wr (fun j => j = g)) ∧ Hid (∃ ys, wr.ownsRow W.heap.size 3 1 (.slice (some ⟨g, 0, none⟩) (n + 64) c1) (n + 64) (ints ys))) (fun i _ => n - (intOf i).toNat)
    case atStart => exact ⟨0, Nat.zero_le _, rfl, Kept.refl _ _, ⟨_, HO4.out⟩⟩
    case round =>
      obtain ⟨k, hk, rfl, HKk, HOk⟩ := hrel
      by_cases hlt : k < n
      · obtain ⟨ys, hys⟩ := HOk.out
        have i1 : (0 : Int) ≤ (k : Int) := Int.natCast_nonneg _
        have i2 : (k : Int) < (n : Int) := by omega
        have e0 := own_cell hys (show k < n + 64 by omega)
        have e1 := own_fz hys k
        have HYs : Hid (wr.ownsRow W.heap.size 3 1 (.slice (some ⟨g, 0, none⟩) (n + 64) c1) (n + 64) (ints ys)) := hys
        generalize ys.getD k 0 = y at e0
        clear hys
        go_wp2
        exact ⟨⟨k + 1, by omega, by go_num, HKk.out.trans (kset _ _ _ _ rfl), ⟨_, own_set HYs.out (by omega) _⟩⟩, by simp [intOf]; omega⟩
      · obtain rfl : k = n := by omega
        go_wp2
        (try simp only [Exit.inBlock, Exit.then])
        refine bodyPost_ret (results_tmp3 rfl _ _ _) rfl ?_
        refine ⟨_, _, rfl, fun h => (by rw [hok] at h; cases h), fun _ => ⟨rfl, rfl⟩, ?_⟩
        have k1 : Kept w w4 (fun j => w.heap.size ≤ j) := Kept.ofBelow (bstep (bstep HBW.out HBW3.out) Hb4.out) _
        exact (k1.trans (HKk.out.mono (fun j _ e => by have := HGl.out; omega))).below (Nat.le_refl _) (fun j hj h => by omega)
end
end Go.Proofs.Ytcieinejjkddfab.Qm
