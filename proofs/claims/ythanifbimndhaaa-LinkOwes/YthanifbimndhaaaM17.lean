import Derived.Test.YthanifbimndhaaaM16
namespace Go.Proofs.Ythanifbimndhaaa.Ln
set_option maxHeartbeats 40000000
open Go.RowKit Mb
set_option linter.unusedVariables false
set_option maxRecDepth 100000
set_option linter.unusedSimpArgs false
section
variable {w w' W : World} {B : Nat}
structure Wr2 (w wr : World) (B : Nat) (L : Value) (n : Nat) (mk : Int) (v2 : Value) (rb : Nat) (cur : Array Value) (i : Nat) : Prop where
 row : ∃ xs, wr.ownsRow B 55 6 L n xs /\ ∀ j, j < i -> xs[j * 6 + 4]? = some (.int .i64 (mk - (j : Int))) /\ xs[j * 6 + 5]? = some (.slice none 0 0)
 tail : wr.ownsRow w.heap.size 55 6 v2 64 (zfs (fun j => mk - 500 - (j : Int)) 64)
 blk : wr.heap[rb]? = some (.cells cur 48 (0, 0))
 kept : Kept w wr (fun j => L.ownBlock = some j)
theorem Wr2.still {wr w2 : World} {L v2 : Value} {n rb i : Nat} {mk : Int} {cur : Array Value} (h : Wr2 w wr B L n mk v2 rb cur i) (hb : Below wr.heap.size wr w2) : Wr2 w w2 B L n mk v2 rb cur i := by
 obtain ⟨xs, h1, h2⟩ := h.row
 exact ⟨⟨xs, own_still h1 hb, h2⟩, own_still h.tail hb, (hb.block _ (lt_heap h.blk)).trans h.blk, h.kept.trans (Kept.ofBelow hb _)⟩
theorem Wr2.next {wr : World} {v2 : Value} {lb n lc rb i : Nat} {mk : Int} {cur : Array Value} (h : Wr2 w wr B (.slice (some ⟨lb, 0, none⟩) n lc) n mk v2 rb cur i) (hl : lb < w.heap.size) (hi : i < n) (hne : rb ≠ lb) : Wr2 w (wr.setCells lb (i * 6) [.int .i64 0, .int .i64 0, .int .i64 0, .int .i64 0, .int .i64 (mk - (i : Int)), .slice none 0 0]) B (.slice (some ⟨lb, 0, none⟩) n lc) n mk v2 rb cur (i + 1) := by
 obtain ⟨xs, h1, h2⟩ := h.row
 have k1 : Kept wr (wr.setCells lb (i * 6) [.int .i64 0, .int .i64 0, .int .i64 0, .int .i64 0, .int .i64 (mk - (i : Int)), .slice none 0 0]) (fun j => j = lb) := ksets (P := fun j => j = lb) rfl _ _ _
 have hlen : xs.length = n * 6 := h1.1
 refine ⟨⟨_, own_sets [.int .i64 0, .int .i64 0, .int .i64 0, .int .i64 0, .int .i64 (mk - (i : Int)), .slice none 0 0] (i * 6) wr xs h1, fun j hj => ?_⟩, k1.owns h.tail fun k hk e => ?_, k1.obj h.blk hne, h.kept.trans (k1.mono fun k _ e => by rw [e]; rfl)⟩
 ·by_cases e : j = i
  ·subst e
   refine ⟨?_, ?_⟩
   ·rw [setL_in _ xs (j * 6) 4 (by simp) (by simp; omega)]; rfl
   ·rw [setL_in _ xs (j * 6) 5 (by simp) (by simp; omega)]; rfl
  ·rw [setL_out _ _ _ _ (by simp; omega), setL_out _ _ _ _ (by simp; omega)]
   exact h2 j (by omega)
 ·have := (World.ownsRow.lt h.tail k hk).1
  omega
structure WrO (w w' : World) (B : Nat) (la : Option Addr) (n lc : Nat) (mk : Int) (rb ro : Nat) (cur : Array Value) : Prop where
 out : ∃ (ga : Option Addr) (gc : Nat), DnF w' la ga n mk /\ w'.heap[rb]? = some (.cells ((cur.setIfInBounds (ro + 1) (.slice ga (n + 64) gc)).setIfInBounds (ro + 4) (.bool true)) 48 (0, 0)) /\ (∃ xs, w'.ownsRow B 55 6 (.slice la n lc) n xs) /\ (∃ ys, w'.ownsRow B 55 6 (.slice ga (n + 64) gc) (n + 64) ys) /\ Kept w w' (fun j => j = rb ∨ (Value.slice la n lc).ownBlock = some j) /\ ∀ g, (Value.slice ga (n + 64) gc).ownBlock = some g -> (Value.slice la n lc).ownBlock = some g ∨ w.heap.size ≤ g
theorem Wr2.fin {wr w2 : World} {la : Option Addr} {v2 v' : Value} {n lc rb ro : Nat} {mk : Int} {cur : Array Value} {xs : List Value} (h : Wr2 w wr B (.slice la n lc) n mk v2 rb cur n) (h1 : wr.ownsRow B 55 6 (.slice la n lc) n xs) (h2 : ∀ j, j < n -> xs[j * 6 + 4]? = some (.int .i64 (mk - (j : Int))) /\ xs[j * 6 + 5]? = some (.slice none 0 0))
  (ho : w2.ownsRow B 55 6 v' (n + 64) (xs ++ zfs (fun j => mk - 500 - (j : Int)) 64)) (hg : wr.grownBy w2 (Value.slice la n lc).ownBlock) (hat : ApAt (.slice la n lc) v' n 64 wr.heap.size) (hl : w2.ownsRow B 55 6 (.slice la n lc) n xs) :
  ∃ ga gc, v' = .slice ga (n + 64) gc /\ w2.heap[rb]? = some (.cells cur 48 (0, 0)) /\ WrO w ((w2.setCell ⟨rb, ro + 1, none⟩ (.slice ga (n + 64) gc)).setCell ⟨rb, ro + 4, none⟩ (.bool true)) B la n lc mk rb ro cur := by
 obtain ⟨ga, gc, rfl⟩ : ∃ ga gc, v' = .slice ga (n + 64) gc := by
  rcases ho.2 with ⟨_, h0⟩ | ⟨g, cap, cur', hv, _⟩
  ·omega
  ·exact ⟨_, _, hv⟩
 have hnl : ∀ {k : Nat}, (Value.slice la n lc).ownBlock = some k -> k ≠ rb := fun hk e => by
  obtain ⟨C, hC⟩ := own_ty h1 hk
  exact blk_ne hC h.blk (by decide) e
 have hb2 : w2.heap[rb]? = some (.cells cur 48 (0, 0)) := (hg.block rb (lt_heap h.blk) (fun e => hnl e.symm rfl)).trans h.blk
 have kg : Kept wr w2 (fun j => (Value.slice la n lc).ownBlock = some j) := (Kept.ofGrown hg).mono (fun k _ e => e.symm)
 refine ⟨ga, gc, rfl, hb2, ?_⟩
 generalize hX : (w2.setCell ⟨rb, ro + 1, none⟩ (.slice ga (n + 64) gc)).setCell ⟨rb, ro + 4, none⟩ (.bool true) = X
 have k3 : Kept w2 X (fun j => j = rb) := by rw [<- hX]; exact (kset (P := fun j => j = rb) _ _ _ _ rfl).trans (kset _ _ _ _ rfl)
 have hr : ∀ {m k : Nat} {v : Value} {ys : List Value}, w2.ownsRow B 55 6 v m ys -> v.ownBlock = some k -> k ≠ rb := fun hv hk e => by
  obtain ⟨C, hC⟩ := own_ty hv hk
  exact blk_ne hC hb2 (by decide) e
 have hlX : X.ownsRow B 55 6 (.slice la n lc) n xs := k3.owns hl fun k hk => hr hl hk
 have hoX : X.ownsRow B 55 6 (.slice ga (n + 64) gc) (n + 64) (xs ++ zfs (fun j => mk - 500 - (j : Int)) 64) := k3.owns ho fun k hk => hr ho hk
 have hxl : xs.length = n * 6 := h1.1
 refine ⟨ga, gc, ⟨?_, fun hn => ?_⟩, ?_, ⟨_, hlX⟩, ⟨_, hoX⟩, ?_, fun g hgk => ?_⟩
 ·rcases hoX.2 with ⟨_, h0⟩ | ⟨gb, cap, cur', hv, _⟩
  ·omega
  ·simp only [Value.slice.injEq] at hv
   obtain ⟨rfl, _, rfl⟩ := hv
   refine ⟨gb, rfl, fun i hi => ?_, fun i hi => ?_⟩
   ·rw [World.ownsRow.cellAt hoX _ (by omega), List.getElem?_append_left (by omega)]
    exact (h2 i hi).1
   ·rw [World.ownsRow.cellAt hoX _ (by omega), List.getElem?_append_right (by omega), hxl, show (n + i) * 6 + 4 - n * 6 = i * 6 + 4 by omega, zfs_get _ _ _ _ hi (by decide)]
    rfl
 ·rcases hlX.2 with ⟨_, h0⟩ | ⟨lb, cap, cur', hv, _⟩
  ·omega
  ·simp only [Value.slice.injEq] at hv
   obtain ⟨rfl, _, rfl⟩ := hv
   refine ⟨lb, rfl, fun i hi => ⟨?_, ?_⟩⟩
   ·rw [World.ownsRow.cellAt hlX _ (by omega)]
    exact (h2 i hi).1
   ·rw [World.ownsRow.cellAt hlX _ (by omega)]
    exact (h2 i hi).2
 ·rw [<- hX]
  exact blk_set (blk_set hb2 rfl) rfl
 ·exact ((h.kept.trans kg).mono fun k _ e => .inr e).trans (k3.mono fun k _ e => .inl e)
 ·rcases hat.out with ⟨g', cap, e1, e2⟩ | e1
  ·rw [e2] at hgk
   rw [e1]
   exact .inl hgk
  ·rw [e1] at hgk
   cases hgk
   exact .inr h.kept.size
theorem write_any {rb ro n lc : Nat} {la : Option Addr} {mk : Int} {cur : Array Value} {xs : List Value} (hrow : w.ownsRow B 55 6 (.slice la n lc) n xs) (hB : B ≤ w.heap.size) (hblk : w.heap[rb]? = some (.cells cur 48 (0, 0))) (c0 : cur[ro]? = some (.slice la n lc)) (c1 : ∃ v, cur[ro + 1]? = some v) (c3 : cur[ro + 3]? = some (.int .i64 mk)) (c4 : ∃ v, cur[ro + 4]? = some v) (hn : n ≤ 100000) (hm : -1000000000 ≤ mk /\ mk ≤ 0) :
  Calls Try.prog 17 #[.pointer (some ⟨rb, ro, none⟩)] w fun e w' => e = .returned (.tuple #[]) /\ WrO w w' B la n lc mk rb ro cur := by
 obtain ⟨hm1, hm2⟩ := hm
 have HR : Hid (w.ownsRow B 55 6 (.slice la n lc) n xs) := hrow
 have HBl : Hid (w.heap[rb]? = some (.cells cur 48 (0, 0))) := hblk
 have HC : Hid (cur[ro]? = some (.slice la n lc) /\ cur[ro + 3]? = some (.int .i64 mk)) := (show _ /\ _ from ⟨c0, c3⟩)
 have HC1 : Hid ((∃ v, cur[ro + 1]? = some v) /\ ∃ v, cur[ro + 4]? = some v) := (show _ /\ _ from ⟨c1, c4⟩)
 have HL0 : Hid (w.ownsRow w.heap.size 55 6 (.slice none 0 0) 0 (zfs (fun j => mk - 500 - (j : Int)) 0) /\ Below w.heap.size w w) := (show _ /\ _ from ⟨⟨rfl, .inl ⟨rfl, rfl⟩⟩, Below.refl _ _⟩)
 clear hrow hblk c0 c1 c3 c4
 go_enter Try.func17, Try.ntmps17
 go_wp2
 go_loopw [2, 3] (fun v2 v3 wr => ∃ i : Nat, i ≤ 64 /\ v3 = .int .i64 (i : Int) /\ Hid (wr.ownsRow w.heap.size 55 6 v2 i (zfs (fun j => mk - 500 - (j : Int)) i) /\ Below w.heap.size w wr)) (fun _ v3 _ => 64 - (intOf v3).toNat)
 case atStart => exact ⟨0, by omega, rfl, HL0⟩
 case round =>
  clear HL0
  obtain ⟨i, hi, rfl, hs⟩ := hrel
  have hbw : wr.heap[rb]? = some (.cells cur 48 (0, 0)) := (hs.out.2.block _ (lt_heap HBl.out)).trans HBl.out
  by_cases hlt : i < 64
  ·have i2 : (i : Int) < 64 := by omega
   have i1 : (0 : Int) ≤ (i : Int) := Int.natCast_nonneg _
   have d3 : wr.cell? ⟨rb, ro + 3, none⟩ = some (.int .i64 mk) := (bC hbw _).trans HC.out.2
   obtain ⟨va, vc, hv⟩ := row_shape' hs.out.1
   rw [hv] at hs
   rw [hv]
   have HO : Hid (wr.ownsRow w.heap.size 55 6 (.slice va i vc) i (zfs (fun j => mk - 500 - (j : Int)) i)) := hs.out.1
   have HBe : Hid (Below w.heap.size w wr) := hs.out.2
   have Hsz : Hid (w.heap.size ≤ wr.heap.size) := (show _ ≤ _ from hs.out.2.size)
   clear hs hlt hv hbw
   go_wp2_with (first | (at_builtin; refine wl_pushR (B := w.heap.size) rfl _ _ rfl wr _ _ [.int .i64 0, .int .i64 0, .int .i64 0, .int .i64 0, .int .i64 (mk - 500 - (i : Int)), .slice none 0 0] rfl (zfr_one (mk - 500 - (i : Int))) rfl i HO.out rfl rfl (by omega) Hsz.out ?_) | fail)
   intro gg cap w4 ho4 hk4 hg4 hl4
   have HN : Hid (w4.ownsRow w.heap.size 55 6 (.slice (some ⟨gg, 0, none⟩) (i + 1) cap) (i + 1) (zfs (fun j => mk - 500 - (j : Int)) (i + 1)) /\ Below w.heap.size w w4) := (show _ /\ _ from ⟨by rw [zfs_succ]; exact ho4, HBe.out.trans (hk4.below Hsz.out fun k hk e => by have := (World.ownsRow.lt HO.out k e).1; omega)⟩)
   clear ho4 hk4 hg4 hl4 HO HBe d3
   go_wp2
   exact ⟨⟨i + 1, by omega, by go_num, HN⟩, by simp [intOf]; omega⟩
  ·obtain rfl : i = 64 := by omega
   have e64 : ((64 : Nat) : Int) = 64 := rfl
   rw [e64]
   clear e64
   have HS0 : Hid (Wr2 w wr B (.slice la n lc) n mk u2 rb cur 0) := (show Wr2 _ _ _ _ _ _ _ _ _ _ from ⟨⟨xs, own_still HR.out hs.out.2, fun j hj => by omega⟩, hs.out.1, hbw, Kept.ofBelow hs.out.2 _⟩)
   clear hs hbw hlt hi
   go_wp2
   go_loopw [4] (fun v4 wr => ∃ i : Nat, i ≤ n /\ v4 = .int .i64 (i : Int) /\ Hid (Wr2 w wr B (.slice la n lc) n mk u2 rb cur i)) (fun v4 _ => n - (intOf v4).toNat)
   case atStart => exact ⟨0, by omega, rfl, HS0⟩
   case round =>
    clear HS0
    obtain ⟨i, hi, rfl, hs⟩ := hrel
    have d0 : wr.cell? ⟨rb, ro, none⟩ = some (.slice la n lc) := (bC hs.out.blk _).trans HC.out.1
    have d3 : wr.cell? ⟨rb, ro + 3, none⟩ = some (.int .i64 mk) := (bC hs.out.blk _).trans HC.out.2
    by_cases hlt : i < n
    ·have i1 : (0 : Int) ≤ (i : Int) := Int.natCast_nonneg _
     have i2 : (i : Int) < (n : Int) := by omega
     obtain ⟨lb, hlb⟩ : ∃ lb, la = some ⟨lb, 0, none⟩ := by
      rcases HR.out.2 with ⟨_, h0⟩ | ⟨g, cap, cur', hv, _⟩
      ·omega
      ·simp only [Value.slice.injEq] at hv; exact ⟨g, hv.1⟩
     have hrow := HR.out
     rw [hlb] at hrow
     have hll : lb < w.heap.size := (World.ownsRow.lt hrow lb rfl).2
     have hne : rb ≠ lb := fun e => by
      obtain ⟨C, hC⟩ := own_ty hrow (rfl : (Value.slice (some ⟨lb, 0, none⟩) n lc).ownBlock = some lb)
      exact blk_ne hC HBl.out (by decide) e.symm
     have hs2 := hs.out
     rw [hlb] at hs2 d0
     have HTh : Hid (∀ D, Below wr.heap.size wr D -> D.there lb (i * 6) 6) := fun D hb => (show World.there _ _ _ _ from by obtain ⟨ys, h1, _⟩ := hs2.row; exact own_there (own_still h1 hb) (by omega))
     have HN : Hid (Wr2 w ((wr.drew).setCells lb (i * 6) [.int .i64 0, .int .i64 0, .int .i64 0, .int .i64 0, .int .i64 (mk - (i : Int)), .slice none 0 0]) B (.slice la n lc) n mk u2 rb cur (i + 1)) := (show Wr2 _ _ _ _ _ _ _ _ _ _ from by rw [hlb]; exact (hs2.still (dB _)).next hll hlt hne)
     clear hs hs2 hlt hrow hll hlb
     go_wp2
     refine wp_region_held_drew (S := (fun w' => w'.cell? ⟨rb, ro, none⟩ = some (.slice (some ⟨lb, 0, none⟩) n lc) /\ w'.cell? ⟨rb, ro + 3, none⟩ = some (.int .i64 mk))) (by kernel_rfl) ⟨(dW0 d0), (dW0 d3)⟩ (fun hH => ?_)
     simp only [Act.put, lA, lC, lN, zA]
     refine tG 0 29 (.pointer (some ⟨rb, ro, none⟩)) rfl hH ?_
     simp only [aP, sA, sZ, sC]
     refine tG 1 30 (.pointer (some ⟨rb, ro, none⟩)) rfl hH ?_
     simp only [aP, sA, sZ, sC]
     refine tG 2 31 (.pointer (some ⟨rb, ro, none⟩)) rfl hH ?_
     simp only [aP, sA, sZ, sC]
     refine tL 3 32 (.slice (some ⟨lb, 0, none⟩) n lc) rfl hH ?_
     simp only [aP, sA, sZ, sC]
     refine tG 4 33 (.int .i64 (i : Int)) rfl hH ?_
     simp only [aP, sA, sZ, sC]
     refine tG 5 34 (.pointer (some ⟨rb, ro, none⟩)) rfl hH ?_
     simp only [aP, sA, sZ, sC]
     refine tG 6 35 (.pointer (some ⟨rb, ro, none⟩)) rfl hH ?_
     simp only [aP, sA, sZ, sC]
     refine tG 7 36 (.pointer (some ⟨rb, ro + 3, none⟩)) rfl hH ?_
     simp only [aP, sA, sZ, sC]
     refine tL 8 37 (.int .i64 mk) rfl hH ?_
     simp only [aP, sA, sZ, sC]
     refine tG 9 38 (.int .i64 (i : Int)) rfl hH ?_
     simp only [aP, sA, sZ, sC]
     refine tX 10 39 (.int .i64 (mk - (i : Int))) rfl (Or.inl ⟨by rfl, fun w' hS => by (go_simp <;> exact wrap_id (by omega) (by omega))⟩) hH ?_
     simp only [aP, sA, sZ, sC]
     refine tG 11 40 (.agg #[.int .i64 0, .int .i64 0, .int .i64 0, .int .i64 0, .int .i64 (mk - (i : Int)), .slice none 0 0]) rfl hH ?_
     simp only [aP, sA, sZ, sC]
     refine tG 12 41 (.pointer (some ⟨lb, i * 6, none⟩)) rfl hH ?_
     simp only [aP, sA, sZ, sC]
     have hbD1 : Below wr.heap.size wr wr.drew := dB _
     have q0 := bA hbD1 d0
     have q1 := bA hbD1 d3
     refine rY 13 rfl fun K hK => ?_
     refine step_storeL rfl 55 (.tmp 41) (.tmp 40) rfl (L := [.int .i64 0, .int .i64 0, .int .i64 0, .int .i64 0, .int .i64 (mk - (i : Int)), .slice none 0 0]) rfl rfl (HTh.out _ hbD1) info_frame (zfr_one (mk - (i : Int))) ?_
     refine hK.out _ _ ⟨(kC (ksets (P := fun j => j = lb) rfl _ _ _) hne q0), (kC (ksets (P := fun j => j = lb) rfl _ _ _) hne q1)⟩ (fun hH => ?_)
     clear hK K
     refine wpAnyH_done (by kernel_rfl) ?_ _
     clear hH
     clear d0 d3 HTh q0 q1 hbD1
     generalize (wr.drew).setCells lb (i * 6) [.int .i64 0, .int .i64 0, .int .i64 0, .int .i64 0, .int .i64 (mk - (i : Int)), .slice none 0 0] = X at *
     go_wp2
     exact ⟨⟨i + 1, by omega, by go_num, HN⟩, by simp [intOf]; omega⟩
    ·obtain rfl : i = n := by omega
     have i2 : ¬ (i : Int) < (i : Int) := by omega
     obtain ⟨ys, h1, h2⟩ := hs.out.row
     have HO : Hid (wr.ownsRow B 55 6 (.slice la i lc) i ys) := h1
     have H2 : Hid (∀ j, j < i -> ys[j * 6 + 4]? = some (.int .i64 (mk - (j : Int))) /\ ys[j * 6 + 5]? = some (.slice none 0 0)) := h2
     have HS : Hid (Wr2 w wr B (.slice la i lc) i mk u2 rb cur i) := hs
     obtain ⟨ta, tc, htv⟩ := row_shape' hs.out.tail
     obtain ⟨tb, htb⟩ : ∃ tb, ta = some ⟨tb, 0, none⟩ := by
      rcases hs.out.tail.2 with ⟨_, h0⟩ | ⟨g, cap, cur', hv, _⟩
      ·omega
      ·rw [htv] at hv; simp only [Value.slice.injEq] at hv; exact ⟨g, hv.1⟩
     rw [htb] at htv
     have HTl : Hid (wr.ownsRow w.heap.size 55 6 (.slice (some ⟨tb, 0, none⟩) 64 tc) 64 (zfs (fun j => mk - 500 - (j : Int)) 64)) := (show World.ownsRow _ _ _ _ _ _ _ from by have := hs.out.tail; rw [htv] at this; exact this)
     have HNw : Hid (∀ (j : Nat) (y : Value), (zfs (fun j => mk - 500 - (j : Int)) 64)[j]? = some y -> wr.cell? ((⟨tb, 0, none⟩ : Addr).add j) = some y) := fun j y hy => (show _ = _ from by
      have hj : j < 64 * 6 := by have := (List.getElem?_eq_some_iff.1 hy).1; rw [zfs_len] at this; exact this
      rw [Addr.add_mid, Nat.zero_add, World.ownsRow.cellAt HTl.out j hj]
      exact hy)
     have HBs : Hid (B ≤ wr.heap.size) := (show _ ≤ _ from Nat.le_trans hB hs.out.kept.size)
     rw [htv]
     have Hfi : Hid (∃ i0 : TypeInfo, Try.prog.info? 55 = some i0 /\ i0.zero = some (.agg z6.toArray) /\ i0.size = 6 /\ i0.bytes = 64) := frame_info
     obtain ⟨i0, fi0, fi1, fi2, fi3⟩ := Hfi.out
     clear hs h1 h2 htv htb Hfi
     go_wp2_with (first | (at_builtin; refine wl_appK rfl _ _ 46 rfl B 55 i0 (.agg z6.toArray) 6 64 Try.underlying46 fi0 fi1 fi2 fi3 rfl (by decide) _ i ys rfl HO.out ⟨tb, 0, none⟩ 64 tc (zfs (fun j => mk - 500 - (j : Int)) 64) rfl (zfs_len _ _) HNw.out (zfs_one _ _) (by decide) (by unfold maxLen; omega) (by omega) HBs.out ?_) | fail)
     intro v' w2 ho hg hat hl
     obtain ⟨ga, gc, hv', hb2, hW⟩ := HS.out.fin (ro := ro) HO.out H2.out ho hg hat hl
     subst hv'
     obtain ⟨⟨o1, ho1⟩, o4, ho4⟩ := HC1.out
     have e1 : w2.cell? ⟨rb, ro + 1, none⟩ = some o1 := (bC hb2 _).trans ho1
     have f1 : w2.frozen? ⟨rb, ro + 1, none⟩ = false := frozen_of_row w2 rb (ro + 1) _ _ hb2
     have hb3 : (w2.setCell ⟨rb, ro + 1, none⟩ (.slice ga (i + 64) gc)).heap[rb]? = some (.cells (cur.setIfInBounds (ro + 1) (.slice ga (i + 64) gc)) 48 (0, 0)) := blk_set hb2 rfl
     have e4 : (w2.setCell ⟨rb, ro + 1, none⟩ (.slice ga (i + 64) gc)).cell? ⟨rb, ro + 4, none⟩ = some o4 := (bC hb3 _).trans (by rw [Array.getElem?_setIfInBounds_ne (by omega)]; exact ho4)
     have f4 : (w2.setCell ⟨rb, ro + 1, none⟩ (.slice ga (i + 64) gc)).frozen? ⟨rb, ro + 4, none⟩ = false := frozen_of_row _ rb (ro + 4) _ _ hb3
     have HW : Hid (WrO w ((w2.setCell ⟨rb, ro + 1, none⟩ (.slice ga (i + 64) gc)).setCell ⟨rb, ro + 4, none⟩ (.bool true)) B la i lc mk rb ro cur) := hW
     clear ho hg hat hl hb2 hW hb3 ho1 ho4 HS HO H2 HTl HNw d0 d3
     go_wp2
     go_end0
     exact ⟨rfl, HW.out⟩
end
section
variable {w w' W : World} {B : Nat}
theorem u8_id (n : Int) (h : 0 ≤ n /\ n ≤ 255) : IntKind.u8.wrap n = n := by rw [IntKind.wrap_u8]; omega
theorem blk_up {k : Nat} {o : Obj} (hb : Below w.heap.size w w') (h : w.heap[k]? = some o) : w'.heap[k]? = some o := (hb.block _ (lt_heap h)).trans h
theorem rd_lit {k : Nat} {bs : List Int} {C : Array Value} (h : w.heap[k]? = some (.cells C 5 (0, 0))) (hC : C = (bs.map (Value.int .u8)).toArray) (hby : By bs) : Rd w (some ⟨k, 0, none⟩) bs.length bs.length bs :=
 ⟨rfl, Nat.le_refl _, by simp, .inr ⟨k, 0, rfl, fun i hi => by
  rw [Nat.zero_add, bC h, hC, List.getElem?_toArray, List.getElem?_map]
  simp [List.getD, hi]⟩, hby⟩
structure ORd (w : World) (la : Option Addr) (n : Nat) (ys : List Bn) : Prop where
 len : ys.length = n
 at_ : 0 < n -> ∃ lb, la = some ⟨lb, 0, none⟩ /\ ∀ (i : Nat) (y : Bn), ys[i]? = some y -> w.cell? ⟨lb, i, none⟩ = some y.v
theorem ORd.still {la : Option Addr} {n : Nat} {ys : List Bn} (h : ORd w la n ys) (hb : Below w.heap.size w w') : ORd w' la n ys :=
 ⟨h.len, fun hn => by obtain ⟨lb, h1, h2⟩ := h.at_ hn; exact ⟨lb, h1, fun i f hf => bA hb (h2 i f hf)⟩⟩
theorem ORd.of {t B n c : Nat} {la : Option Addr} {ys : List Bn} (h : w.ownsRow B t 1 (.slice la n c) n (ys.map Bn.v)) : ORd w la n ys := by
 have hl := h.1
 rw [List.length_map] at hl
 refine ⟨by omega, fun hn => ?_⟩
 rcases h.2 with ⟨h1, h2⟩ | ⟨g, cap, cur, hv, _⟩
 ·omega
 ·simp only [Value.slice.injEq] at hv
  obtain ⟨rfl, _, rfl⟩ := hv
  refine ⟨g, rfl, fun i y hy => ?_⟩
  have hi : i < ys.length := (List.getElem?_eq_some_iff.1 hy).1
  rw [World.ownsRow.cellAt h _ (by omega), List.getElem?_map, hy]
  rfl
structure OEq (w : World) (B : Nat) (ys zs : List Bn) : Prop where
 of : ∀ (i : Nat) (y : Bn), ys[i]? = some y -> y.Ok w B
 og : ∀ (i : Nat) (z : Bn), zs[i]? = some z -> z.Ok w B
 eq : ∀ (i : Nat) (y z : Bn), ys[i]? = some y -> zs[i]? = some z -> z.bs = y.bs
theorem oshows_fresh {la va ga : Option Addr} {n lc vc gn gc : Nat} {mk : Int} {ys zs : List Bn} (h1 : ORd w la n ys) (h2 : ORd w va n zs) (he : OEq w B ys zs) (hn : n ≤ 1000000) : Calls Try.prog 31 #[.agg #[.slice la n lc, .slice ga gn gc, .slice va n vc, .int .i64 mk, .bool false]] w fun e w' => e = .returned (.bool true) /\ Below w.heap.size w w' := by
 generalize hW : w.alloc (.cells #[.slice la n lc, .slice ga gn gc, .slice va n vc, .int .i64 mk, .bool false] 51) = W
 have hbW := bW0 hW
 have hk1 : W.heap[w.heap.size]? = some (.cells #[.slice la n lc, .slice ga gn gc, .slice va n vc, .int .i64 mk, .bool false] 51 (0, 0)) := by rw [<- hW]; exact heap_alloc_new _ _
 have c0 : W.cell? ⟨w.heap.size, 0, none⟩ = some (.slice la n lc) := bC hk1 0
 have HC : Hid (W.cell? ⟨w.heap.size, 0, none⟩ = some (.slice la n lc) /\ W.cell? ⟨w.heap.size, 2, none⟩ = some (.slice va n vc) /\ W.cell? ⟨w.heap.size, 4, none⟩ = some (.bool false)) := (show _ /\ _ from ⟨c0, bC hk1 2, bC hk1 4⟩)
 have HB : Hid (Below w.heap.size w W) := hbW
 have H1 : Hid (ORd w la n ys) := h1
 have H2 : Hid (ORd w va n zs) := h2
 have He : Hid (OEq w B ys zs) := he
 clear h1 h2 he hk1 hbW
 go_enter Try.func31, Try.ntmps31
 go_wp2
 go_loopw [4] (fun v4 wr => ∃ i : Nat, i ≤ n /\ v4 = .int .i64 (i : Int) /\ Hid (Below w.heap.size w wr /\ Below W.heap.size W wr)) (fun v4 _ => n - (intOf v4).toNat)
 case atStart => exact ⟨0, by omega, rfl, (show _ /\ _ from ⟨HB.out, Below.refl _ _⟩)⟩
 case round =>
  obtain ⟨i, hi, rfl, hs⟩ := hrel
  have d0 := bA hs.out.2 HC.out.1
  have d2 := bA hs.out.2 HC.out.2.1
  have d4 := bA hs.out.2 HC.out.2.2
  by_cases hlt : i < n
  ·have i1 : (0 : Int) ≤ (i : Int) := Int.natCast_nonneg _
   have i2 : (i : Int) < (n : Int) := by omega
   obtain ⟨y, hy⟩ : ∃ f, ys[i]? = some f := ⟨_, List.getElem?_eq_getElem (by rw [H1.out.len]; exact hlt)⟩
   obtain ⟨z, hz⟩ : ∃ g, zs[i]? = some g := ⟨_, List.getElem?_eq_getElem (by rw [H2.out.len]; exact hlt)⟩
   obtain ⟨lb, hlb, hlc⟩ := (H1.out.still hs.out.1).at_ (by omega)
   obtain ⟨vb, hvb, hvc⟩ := (H2.out.still hs.out.1).at_ (by omega)
   have eb := He.out.eq i y z hy hz
   have l0 : wr.cell? ⟨lb, i, none⟩ = some (.slice (some ⟨y.k, 0, none⟩) y.bs.length y.c) := hlc i y hy
   have v0 : wr.cell? ⟨vb, i, none⟩ = some (.slice (some ⟨z.k, 0, none⟩) y.bs.length z.c) := by have := hvc i z hz; unfold Bn.v at this; rw [eb] at this; exact this
   rw [hlb] at d0
   rw [hvb] at d2
   have HSf : Hid (∀ D, Below wr.heap.size wr D -> Calls Try.prog 27 #[.slice (some ⟨y.k, 0, none⟩) y.bs.length y.c, .slice (some ⟨z.k, 0, none⟩) y.bs.length z.c] D fun e w' => e = .returned (.bool true) /\ Below D.heap.size D w') := fun D hb => (show Calls _ _ _ _ _ from by
    have r1 := ((He.out.of i y hy).still (bstep hs.out.1 hb)).rd
    have r2 := ((He.out.og i z hz).still (bstep hs.out.1 hb)).rd
    rw [eb] at r2
    exact same_eq r1 r2 (by have := (He.out.of i y hy).le; omega))
   have HS : Hid (Below w.heap.size w wr /\ Below W.heap.size W wr) := hs
   clear hs hlt hy hz hlb hvb hlc hvc eb
   go_wp2
   refine wp_region_held_drew (S := (fun w' => w'.cell? ⟨w.heap.size, 0, none⟩ = some (.slice (some ⟨lb, 0, none⟩) n lc) /\ w'.cell? ⟨w.heap.size, 2, none⟩ = some (.slice (some ⟨vb, 0, none⟩) n vc) /\ w'.cell? ⟨w.heap.size, 4, none⟩ = some (.bool false) /\ w'.cell? ⟨lb, i, none⟩ = some (.slice (some ⟨y.k, 0, none⟩) y.bs.length y.c) /\ w'.cell? ⟨vb, i, none⟩ = some (.slice (some ⟨z.k, 0, none⟩) y.bs.length z.c))) (by kernel_rfl) ⟨(dW0 d0), (dW0 d2), (dW0 d4), (dW0 l0), (dW0 v0)⟩ (fun hH => ?_)
   simp only [Act.put, lA, lC, lN, zA]
   refine tG 0 14 (.pointer (some ⟨w.heap.size, 4, none⟩)) rfl hH ?_
   simp only [aP, sA, sZ, sC]
   refine tL 1 15 (.bool false) rfl hH ?_
   simp only [aP, sA, sZ, sC]
   refine tG 2 16 (.bool true) rfl hH ?_
   simp only [aP, sA, sZ, sC]
   refine tG 3 17 (.bool true) rfl hH ?_
   simp only [aP, sA, sZ, sC]
   refine tK 4 18 (.pointer (some ⟨w.heap.size, 0, none⟩)) rfl hH ?_
   simp only [aP, sA, sZ, sC]
   refine tM 5 19 (.slice (some ⟨lb, 0, none⟩) n lc) rfl hH ?_
   simp only [aP, sA, sZ, sC]
   refine tK 6 20 (.int .i64 (i : Int)) rfl hH ?_
   simp only [aP, sA, sZ, sC]
   refine tK 7 21 (.pointer (some ⟨lb, i, none⟩)) rfl hH ?_
   simp only [aP, sA, sZ, sC]
   refine tM 8 22 (.slice (some ⟨y.k, 0, none⟩) y.bs.length y.c) rfl hH ?_
   simp only [aP, sA, sZ, sC]
   refine tK 9 23 (.pointer (some ⟨w.heap.size, 2, none⟩)) rfl hH ?_
   simp only [aP, sA, sZ, sC]
   refine tM 10 24 (.slice (some ⟨vb, 0, none⟩) n vc) rfl hH ?_
   simp only [aP, sA, sZ, sC]
   refine tK 11 25 (.int .i64 (i : Int)) rfl hH ?_
   simp only [aP, sA, sZ, sC]
   refine tK 12 26 (.pointer (some ⟨vb, i, none⟩)) rfl hH ?_
   simp only [aP, sA, sZ, sC]
   refine tM 13 27 (.slice (some ⟨z.k, 0, none⟩) y.bs.length z.c) rfl hH ?_
   simp only [aP, sA, sZ, sC]
   have hbD1 : Below wr.heap.size wr wr.drew := dB _
   have q0 := bA hbD1 d0
   have q1 := bA hbD1 d2
   have q2 := bA hbD1 d4
   have q3 := bA hbD1 l0
   have q4 := bA hbD1 v0
   refine rY 14 rfl fun K hK => ?_
   go_simp
   refine (HSf.out (wr.drew) hbD1).mono ?_
   rintro e w2 ⟨rfl, hb2⟩
   refine hK.out _ _ ⟨(bA hb2 q0), (bA hb2 q1), (bA hb2 q2), (bA hb2 q3), (bA hb2 q4)⟩ (fun hH => ?_)
   clear hK K
   refine tK 15 29 (.bool false) rfl hH ?_
   simp only [aP, sA, sZ, sC]
   refine tG 16 30 (.bool false) rfl hH ?_
   simp only [aP, sA, sZ, sC]
   refine tG 17 31 (.bool false) rfl hH ?_
   simp only [aP, sA, sZ, sC]
   refine tK 18 32 (.pointer (some ⟨w.heap.size, 4, none⟩)) rfl hH ?_
   simp only [aP, sA, sZ, sC]
   refine tM 19 33 (.bool false) rfl hH ?_
   simp only [aP, sA, sZ, sC]
   refine tK 20 34 (.bool false) rfl hH ?_
   simp only [aP, sA, sZ, sC]
   refine tS 21 35 rfl hH ?_
   simp only [aP, sA, sZ, sC]
   refine tS 22 36 rfl hH ?_
   simp only [aP, sA, sZ, sC]
   refine tS 23 37 rfl hH ?_
   simp only [aP, sA, sZ, sC]
   refine tS 24 38 rfl hH ?_
   simp only [aP, sA, sZ, sC]
   refine tS 25 39 rfl hH ?_
   simp only [aP, sA, sZ, sC]
   refine tS 26 40 rfl hH ?_
   simp only [aP, sA, sZ, sC]
   refine tS 27 41 rfl hH ?_
   simp only [aP, sA, sZ, sC]
   refine tS 28 42 rfl hH ?_
   simp only [aP, sA, sZ, sC]
   refine tS 29 43 rfl hH ?_
   simp only [aP, sA, sZ, sC]
   refine tS 30 44 rfl hH ?_
   simp only [aP, sA, sZ, sC]
   refine tS 31 45 rfl hH ?_
   simp only [aP, sA, sZ, sC]
   refine tS 32 46 rfl hH ?_
   simp only [aP, sA, sZ, sC]
   refine tS 33 47 rfl hH ?_
   simp only [aP, sA, sZ, sC]
   refine tS 34 48 rfl hH ?_
   simp only [aP, sA, sZ, sC]
   refine tS 35 49 rfl hH ?_
   simp only [aP, sA, sZ, sC]
   refine tS 36 50 rfl hH ?_
   simp only [aP, sA, sZ, sC]
   refine tS 37 51 rfl hH ?_
   simp only [aP, sA, sZ, sC]
   refine tS 38 52 rfl hH ?_
   simp only [aP, sA, sZ, sC]
   refine tS 39 53 rfl hH ?_
   simp only [aP, sA, sZ, sC]
   refine tS 40 54 rfl hH ?_
   simp only [aP, sA, sZ, sC]
   refine tS 41 55 rfl hH ?_
   simp only [aP, sA, sZ, sC]
   refine tS 42 56 rfl hH ?_
   simp only [aP, sA, sZ, sC]
   refine tS 43 57 rfl hH ?_
   simp only [aP, sA, sZ, sC]
   refine tS 44 58 rfl hH ?_
   simp only [aP, sA, sZ, sC]
   refine tS 45 59 rfl hH ?_
   simp only [aP, sA, sZ, sC]
   refine tS 46 60 rfl hH ?_
   simp only [aP, sA, sZ, sC]
   refine tS 47 61 rfl hH ?_
   simp only [aP, sA, sZ, sC]
   refine tS 48 62 rfl hH ?_
   simp only [aP, sA, sZ, sC]
   refine tK 49 63 (.bool false) rfl hH ?_
   simp only [aP, sA, sZ, sC]
   refine tG 50 64 (.bool false) rfl hH ?_
   simp only [aP, sA, sZ, sC]
   refine wpAnyH_done (by kernel_rfl) ?_ _
   clear hH
   have HN : Hid (Below w.heap.size w w2 /\ Below W.heap.size W w2) := (show _ /\ _ from ⟨bstep HS.out.1 (bstep hbD1 hb2), bstep HS.out.2 (bstep hbD1 hb2)⟩)
   clear HS HSf hb2 hbD1 d0 d2 d4 l0 v0 q0 q1 q2 q3 q4
   go_wp2
   exact ⟨⟨i + 1, by omega, by go_num, HN⟩, by simp [intOf]; omega⟩
  ·have i2 : ¬ (i : Int) < (n : Int) := by omega
   have HS : Hid (Below w.heap.size w wr) := hs.out.1
   clear hs
   go_wp2
   refine wp_loop_rounds 1 ?_
   rw [rounds_succ]
   go_wp2
   go_ret
   exact ⟨rfl, HS.out⟩
end
end Go.Proofs.Ythanifbimndhaaa.Ln
