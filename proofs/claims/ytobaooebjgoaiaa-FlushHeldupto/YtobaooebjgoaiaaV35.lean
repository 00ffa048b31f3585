import Derived.Test.YtobaooebjgoaiaaV31
import Derived.Laws.BytesArg
import Derived.Laws.BitsAllLaws
import Derived.Test.YtobaooebjgoaiaaV34
namespace Go.Proofs.Ytobaooebjgoaiaa.Fm
open Go.RowKit Go.Maps Mb
set_option linter.unusedVariables false
set_option maxRecDepth 100000
set_option linter.unusedSimpArgs false
section
variable {w w' W : World} {B : Nat}
theorem conv_rdB {ao : Option Addr} {c : Nat} {bs : List Int} (h : RdB w ao bs) : (convert 92 9 (.slice ao bs.length c)).run Try.prog w = .ok (.string (strOfNums bs)) w := by
 rcases h with h | ⟨b, off, rfl, hc⟩
 ·obtain rfl : bs = [] := List.eq_nil_of_length_eq_zero h
  cases ao with
  | none => exact run_convert_bytes_nil w 92 5 Try.underlying92 Try.underlying5 0 c 9 Try.underlying9
  | some a =>
   rw [show ([] : List Int).length = 0 from rfl, run_convert_bytes_string w 92 9 5 _ 0 c Try.underlying92 Try.underlying5 Try.underlying9, run_bytesToString w a 0 c [] (by simpa using run_loadCells_list (P := Try.prog) w a [] (fun j v hj => by simp at hj))]
   rfl
 ·exact run_convert_bytes_arg w 92 5 Try.underlying92 Try.underlying5 b off bs.length c bs rfl (fun i hi => hc i (by omega)) 9 Try.underlying9
set_option maxHeartbeats 2000000 in
theorem sameMsg_any {p q r : Int} {a1 a2 : Option Addr} {c1 c2 : Nat} {bs : List Int} (h1 : RdB w a1 bs) (h2 : RdB w a2 bs) : Calls Try.prog 51 #[.agg #[.int .i64 p, .int .i64 q, .int .i64 r, .slice a1 bs.length c1], .agg #[.int .i64 p, .int .i64 q, .int .i64 r, .slice a2 bs.length c2]] w fun e w' => e = .returned (.bool true) ∧ Below w.heap.size w w' := by
 generalize hW2 : (w.alloc (.cells #[.int .i64 p, .int .i64 q, .int .i64 r, .slice a1 bs.length c1] 97)).alloc (.cells #[.int .i64 p, .int .i64 q, .int .i64 r, .slice a2 bs.length c2] 97) = W2
 have e1 : (w.alloc (.cells #[.int .i64 p, .int .i64 q, .int .i64 r, .slice a1 bs.length c1] 97)).heap.size = w.heap.size + 1 := World.size_alloc _ _
 have k1 := heap_alloc_new w (.cells #[.int .i64 p, .int .i64 q, .int .i64 r, .slice a1 bs.length c1] 97)
 have k2 : W2.heap[w.heap.size]? = some (.cells #[.int .i64 p, .int .i64 q, .int .i64 r, .slice a1 bs.length c1] 97 (0, 0)) := by rw [← hW2]; exact blk_alloc k1
 have k3 : W2.heap[w.heap.size + 1]? = some (.cells #[.int .i64 p, .int .i64 q, .int .i64 r, .slice a2 bs.length c2] 97 (0, 0)) := by rw [← hW2, ← e1]; exact heap_alloc_new _ _
 have hb : Below w.heap.size w W2 := by rw [← hW2]; exact balloc (balloc (Below.refl _ _))
 have HB : Hid (Below w.heap.size w W2) := hb
 have g1 := conv_rdB (c := c1) (Row.still h1 hb)
 have g2 := conv_rdB (c := c2) (Row.still h2 hb)
 have p0 : W2.cell? ⟨w.heap.size, 0, none⟩ = some (.int .i64 p) := blk_cell k2 0
 have p1 : W2.cell? ⟨w.heap.size, 1, none⟩ = some (.int .i64 q) := blk_cell k2 1
 have p2 : W2.cell? ⟨w.heap.size, 2, none⟩ = some (.int .i64 r) := blk_cell k2 2
 have p3 : W2.cell? ⟨w.heap.size, 3, none⟩ = some (.slice a1 bs.length c1) := blk_cell k2 3
 have q0 : W2.cell? ⟨w.heap.size + 1, 0, none⟩ = some (.int .i64 p) := blk_cell k3 0
 have q1 : W2.cell? ⟨w.heap.size + 1, 1, none⟩ = some (.int .i64 q) := blk_cell k3 1
 have q2 : W2.cell? ⟨w.heap.size + 1, 2, none⟩ = some (.int .i64 r) := blk_cell k3 2
 have q3 : W2.cell? ⟨w.heap.size + 1, 3, none⟩ = some (.slice a2 bs.length c2) := blk_cell k3 3
 generalize strOfNums bs = S at g1 g2
 clear h1 h2 k1 k2 k3 hb e1
 go_enter Try.func51, Try.ntmps51
 go_wp2
 go_ret
 exact ⟨by simp, HB.out⟩
set_option maxHeartbeats 4000000 in
theorem sameMsgs_any {ao bo : Option Addr} {ca cb : Nat} {xs ys : List Dx} (hx : RdDs w ao xs) (hy : RdDs w bo ys) (al : Al xs ys) (hn : ys.length ≤ 1000000000000000000) : Calls Try.prog 20 #[.slice ao xs.length ca, .slice bo ys.length cb] w fun e w' => e = .returned (.bool true) ∧ Below w.heap.size w w' := by
 have HX : Hid (RdDs w ao xs) := hx
 have HY : Hid (RdDs w bo ys) := hy
 have HA : Hid (Al xs ys) := al
 rw [al.len]
 have HLx : Hid (xs.length = ys.length) := al.len
 generalize hL : ys.length = L at *
 have HLe : Hid (ys.length = L) := hL
 clear hx hy al hL
 go_enter Try.func20, Try.ntmps20
 go_wp2
 go_loopw [5] (fun i wr => ∃ c : Nat, c ≤ L ∧ i = .int .i64 c ∧ Below w.heap.size w wr) (fun i _ => L - (intOf i).toNat)
 case atStart => exact ⟨0, Nat.zero_le _, rfl, Below.refl _ _⟩
 case round =>
  obtain ⟨c, hc, rfl, hb⟩ := hrel
  have HB : Hid (Below w.heap.size w wr) := hb
  by_cases hlt : c < L
  ·obtain ⟨b, off, rfl, hcx⟩ := (HX.out.still hb).at (i := c) (by rw [HLx.out]; exact hlt)
   obtain ⟨b2, off2, rfl, hcy⟩ := (HY.out.still hb).at (i := c) (by rw [HLe.out]; exact hlt)
   have hal := HA.out.el c (by rw [HLe.out]; exact hlt)
   have hr1 := ((HX.out.still hb).el c (by rw [HLx.out]; exact hlt)).b
   have hr2 := ((HY.out.still hb).el c (by rw [HLe.out]; exact hlt)).b
   generalize xs.getD c dx0 = x at *
   generalize ys.getD c dx0 = y at *
   have HM : Hid (Calls Try.prog 51 #[.agg x.cs.toArray, .agg y.cs.toArray] wr.drew fun e w' => e = .returned (.bool true) ∧ Below wr.drew.heap.size wr.drew w') := (show Calls Try.prog 51 #[.agg x.cs.toArray, .agg y.cs.toArray] wr.drew fun e w' => e = .returned (.bool true) ∧ Below wr.drew.heap.size wr.drew w' from by
    obtain ⟨e1, e2, e3⟩ := hal
    obtain ⟨xs', xt, xa, xc, xb⟩ := x
    obtain ⟨ys', yt, ya, yc, yb⟩ := y
    dsimp only at e1 e2 e3 hr1 hr2
    subst e1 e2 e3
    exact sameMsg_any (Row.still hr1 (drew_bel _)) (Row.still hr2 (drew_bel _)))
   have HCx : Hid (wr.rangeAt b (off + c * 4) x.cs) := hcx
   have HCy : Hid (wr.rangeAt b2 (off2 + c * 4) y.cs) := hcy
   have Hx4 : Hid (x.cs.length = 4) := rfl
   have Hy4 : Hid (y.cs.length = 4) := rfl
   clear hal hr1 hr2 hcx hcy hb
   have i1 : (0 : Int) ≤ (c : Int) := Int.natCast_nonneg _
   have i2 : (c : Int) < (L : Int) := by omega
   go_wp2
   refine wp_region_held_drew (S := (fun w' => w'.rangeAt b (off + c * 4) x.cs ∧ w'.rangeAt b2 (off2 + c * 4) y.cs)) (by kernel_rfl) ⟨HCx.out, HCy.out⟩ (fun hHeld => ?_)
   simp only [Act.put, List.size_toArray, List.length_cons, List.length_nil, Nat.zero_add]
   refine wG9 0 (.slice (some ⟨b, off, none⟩) L ca) rfl hHeld ?_
   simp only [Act.put,gA9,gZ9,gC9,sA9,sZ9,sC9]
   refine wG9 1 (.int .i64 (c : Int)) rfl hHeld ?_
   simp only [Act.put,gA9,gZ9,gC9,sA9,sZ9,sC9]
   refine wG9 2 (.pointer (some ⟨b, off + c * 4, none⟩)) rfl hHeld ?_
   simp only [Act.put,gA9,gZ9,gC9,sA9,sZ9,sC9]
   refine wpAnyH_take (i := 3) (v := .agg (x.cs).toArray) rfl (by kernel_rfl) (by kernel_rfl) (by kernel_rfl) (fun _ _ _ h => h) (yieldsIf_load_mid (by rfl) 97 (.tmp 19) rfl b (off + c * 4) (by rfl) (x.cs) _ (fun w' hS => hS.1) Try.underlying97 rfl (by rw [Hx4.out]; kernel_rfl)) hHeld ?_
   simp only [Act.put,gA9,gZ9,gC9,sA9,sZ9,sC9]
   refine wG9 4 (.slice (some ⟨b2, off2, none⟩) L cb) rfl hHeld ?_
   simp only [Act.put,gA9,gZ9,gC9,sA9,sZ9,sC9]
   refine wG9 5 (.int .i64 (c : Int)) rfl hHeld ?_
   simp only [Act.put,gA9,gZ9,gC9,sA9,sZ9,sC9]
   refine wG9 6 (.pointer (some ⟨b2, off2 + c * 4, none⟩)) rfl hHeld ?_
   simp only [Act.put,gA9,gZ9,gC9,sA9,sZ9,sC9]
   refine wpAnyH_take (i := 7) (v := .agg (y.cs).toArray) rfl (by kernel_rfl) (by kernel_rfl) (by kernel_rfl) (fun _ _ _ h => h) (yieldsIf_load_mid (by rfl) 97 (.tmp 23) rfl b2 (off2 + c * 4) (by rfl) (y.cs) _ (fun w' hS => hS.2) Try.underlying97 rfl (by rw [Hy4.out]; kernel_rfl)) hHeld ?_
   simp only [Act.put,gA9,gZ9,gC9,sA9,sZ9,sC9]
   refine wpAnyH_ready (rs := [8]) (by kernel_rfl) (by simp) ?_
   refine AllReadyH.cons rfl (fun K hK => ?_) AllReadyH.nil
   go_simp
   refine (HM.out).mono ?_
   rintro e V ⟨rfl, hv⟩
   refine hK.out _ _ ⟨range_on HCx.out (bstep (drew_bel wr) hv), range_on HCy.out (bstep (drew_bel wr) hv)⟩ (fun hHeld => ?_)
   clear hK K
   refine wG9 9 (.bool false) rfl hHeld ?_
   simp only [Act.put,gA9,gZ9,gC9,sA9,sZ9,sC9]
   refine wpAnyH_done (by kernel_rfl) ?_ _
   clear hHeld
   go_wp2
   exact ⟨⟨c + 1, by omega, by go_num, bstep HB.out (bstep (drew_bel wr) hv)⟩, by simp [intOf]; omega⟩
  ·obtain rfl : c = L := by omega
   clear hb
   go_wp2
   go_ret
   exact ⟨rfl, HB.out⟩
theorem zData : (Try.prog.info? 95).map (·.zero) = some (some (.agg #[.int .i64 0, .int .i64 0, .int .i64 0, .slice none 0 0])) := by kernel_rfl
end
end Go.Proofs.Ytobaooebjgoaiaa.Fm
namespace Go.Proofs.Ytobaooebjgoaiaa.Hh
open Go.RowKit Go.Maps Mb
set_option linter.unusedVariables false
set_option linter.unusedSimpArgs false
set_option maxRecDepth 100000
open Go.Proofs.Ytobaooebjgoaiaa.Fm
section
variable {w w' w1 w2 w3 Z Y V : World} {B T s : Nat} {lb : Nat} {P : Nat → Prop}
def tb (r : Nat) : List Value := rv r (tl 1)
theorem tb_snoc (r : Nat) : tb (r + 1) = tb r ++ [.int .u8 (200 + (r : Int) % 7)] := rv_app r (tl 1)
theorem tb_len (r : Nat) : (tb r).length = r := rv_len _ _
structure Dz (B lb : Nat) (L : Lt) (w : World) (ds : List Dx) (L' : Lt) (xs : List Dx) (j j1 : Nat) (wr : World) : Prop where
 ok : L'.Ok wr B lb
 r0 : L'.r 0 = L.r 0
 r2 : L'.r 2 = L.r 2
 v2 : L'.v 2 = L.v 2
 r1 : (L'.r 1).n = (L.r 1).n + j1
 own : ∀ k, L'.own lb k → L.own lb k ∨ w.heap.size ≤ k
 k : Kept w wr (L.own lb)
 len : xs.length = j
 al : ∀ i, i < j → (xs.getD i dx0).s = (ds.getD i dx0).s ∧ (xs.getD i dx0).st = (ds.getD i dx0).st ∧ (xs.getD i dx0).bs = (ds.getD i dx0).bs
 el : ∀ i, i < j → wr.ownsRow w.heap.size 5 1 (.slice (xs.getD i dx0).ba ((xs.getD i dx0).bs.length + 64) (xs.getD i dx0).bc) ((xs.getD i dx0).bs.length + 64) (byts (xs.getD i dx0).bs ++ tb 64)
theorem rd_bs {a : Option Addr} {c base : Nat} {bs : List Int} (h : w.ownsRow base 5 1 (.slice a (bs.length + 64) c) (bs.length + 64) (byts bs ++ tb 64)) : RdB w a bs := by
 rcases h.2 with ⟨h1, h2⟩ | ⟨g, cap, cur, hv, _⟩
 ·omega
 ·simp only [Value.slice.injEq] at hv
  obtain ⟨rfl, -, rfl⟩ := hv
  refine .inr ⟨g, 0, rfl, fun i hi => ?_⟩
  have hi : i < bs.length := by omega
  rw [Nat.zero_add, World.ownsRow.cellAt h i (by omega), List.getElem?_append_left (by rw [byts_len]; exact hi), byts_at bs i hi]
theorem tl_bs {a : Option Addr} {c : Nat} {bs : List Int} (hw : bs.length ≤ 100000000) (h : w.ownsRow B 5 1 (.slice a (bs.length + 64) c) (bs.length + 64) (byts bs ++ tb 64)) : Tl w B 1 ⟨a, bs.length + 64, c⟩ := by
 have e1 : (byts bs ++ tb 64).length = bs.length + 64 := by rw [List.length_append, byts_len, tb_len]
 refine ⟨⟨bs.length, fun i => (byts bs ++ tb 64).getD i undef, rfl, hw, ?_, fun j hj => ?_⟩⟩
 ·have e2 := rv_get0 (byts bs ++ tb 64)
  rw [e1] at e2
  show w.ownsRow B 5 1 (.slice a (bs.length + 64) c) (bs.length + 64) (rv ((bs.length + 64) * 1) _)
  rw [Nat.mul_one, ← e2]
  exact h
 ·show (byts bs ++ tb 64).getD ((bs.length + j) * 1 + 0) undef = tl 1 j
  rw [Nat.mul_one, Nat.add_zero, List.getD, List.getElem?_append_right (by rw [byts_len]; omega), byts_len, Nat.add_sub_cancel_left, tb, rv_get _ hj]
  rfl
def td (r : Nat) : List Value := rv (r * 4) (fun i => if i % 4 = 1 then .int .i64 (-700 - ((i / 4 : Nat) : Int)) else if i % 4 = 3 then .slice none 0 0 else .int .i64 0)
theorem td_len (r : Nat) : (td r).length = r * 4 := rv_len _ _
theorem td_snoc (r : Nat) : td (r + 1) = td r ++ [.int .i64 0, .int .i64 (-700 - (r : Int)), .int .i64 0, .slice none 0 0] := by
 unfold td
 rw [show (r + 1) * 4 = r * 4 + 4 by omega]
 refine rv_appL (r * 4) 4 _ _ rfl fun i hi => ?_
 have e : i = 0 ∨ i = 1 ∨ i = 2 ∨ i = 3 := by omega
 rcases e with rfl | rfl | rfl | rfl
 ·simp [show (r * 4) % 4 = 0 by omega]
 ·simp [show (r * 4 + 1) % 4 = 1 by omega, show (r * 4 + 1) / 4 = r by omega]
 ·simp [show (r * 4 + 2) % 4 = 2 by omega]
 ·simp [show (r * 4 + 3) % 4 = 3 by omega]
theorem tl_ds {a : Option Addr} {c : Nat} {xs : List Dx} (hw : xs.length ≤ 100000000) (h : w.ownsRow B 95 4 (.slice a (xs.length + 64) c) (xs.length + 64) (msC xs ++ td 64)) : Tl w B 2 ⟨a, xs.length + 64, c⟩ := by
 have e1 : (msC xs ++ td 64).length = (xs.length + 64) * 4 := by rw [List.length_append, msC_len, td_len]; omega
 refine ⟨⟨xs.length, fun i => (msC xs ++ td 64).getD i undef, rfl, hw, ?_, fun j hj => ?_⟩⟩
 ·have e2 := rv_get0 (msC xs ++ td 64)
  rw [e1] at e2
  show w.ownsRow B 95 4 (.slice a (xs.length + 64) c) (xs.length + 64) (rv ((xs.length + 64) * 4) _)
  rw [← e2]
  exact h
 ·show (msC xs ++ td 64).getD ((xs.length + j) * 4 + 1) undef = tl 2 j
  rw [List.getD, List.getElem?_append_right (by rw [msC_len]; omega), msC_len, show (xs.length + j) * 4 + 1 - xs.length * 4 = j * 4 + 1 by omega, td, rv_get _ (by omega)]
  simp [show (j * 4 + 1) % 4 = 1 by omega, show (j * 4 + 1) / 4 = j by omega]
  rfl
section
variable {L L' : Lt} {ds xs : List Dx} {j j1 : Nat}
theorem Dz.still (h : Dz B lb L w ds L' xs j j1 Z) (hb : Below Z.heap.size Z Y) : Dz B lb L w ds L' xs j j1 Y := { h with ok := h.ok.still hb, k := h.k.trans (Kept.ofBelow hb _), el := fun i hi => own_still (h.el i hi) hb }
theorem Dz.off {v : Value} {n : Nat} {l : List Value} (h : Dz B lb L w ds L' xs j j1 Z) (hL : L.Ok w B lb) (ho : Z.ownsRow w.heap.size 95 4 v n l) : ∀ k, v.ownBlock = some k → ¬ L'.own lb k := fun k hk hp => by
 have hge := (World.ownsRow.lt ho k hk).1
 obtain ⟨cur, hc⟩ := row_ty ho hk
 rcases hp with rfl | ⟨c, h3, h4 | ⟨i, hi, h4⟩⟩
 ·have h5 := h.ok.blk
  rw [hc] at h5
  simp at h5
 ·obtain ⟨c2, h5⟩ := row_ty (h.ok.row c h3) h4
  rw [hc] at h5
  simp at h5
  have e : c = 0 ∨ c = 1 ∨ c = 2 := by omega
  rcases e with rfl | rfl | rfl <;> exact absurd h5.2 (by decide)
 ·have e : c = 0 ∨ c = 1 ∨ c = 2 := by omega
  rcases e with rfl | rfl | rfl
  ·obtain ⟨m, f, _, _, h6, _⟩ := (h.ok.fam 0 h3 i hi).out
   obtain ⟨c2, h5⟩ := row_ty h6 h4
   rw [hc] at h5
   simp at h5
   exact absurd h5.2 (by decide)
  ·obtain ⟨m, f, _, _, h6, _⟩ := (h.ok.fam 1 h3 i hi).out
   obtain ⟨c2, h5⟩ := row_ty h6 h4
   rw [hc] at h5
   simp at h5
   exact absurd h5.2 (by decide)
  ·rw [h.v2] at h4
   rw [h.r2] at hi
   have := (hL.lt (.inr ⟨2, h3, .inr ⟨i, hi, h4⟩⟩)).1
   omega
theorem Dz.grow {v : Value} {n : Nat} {l : List Value} (h : Dz B lb L w ds L' xs j j1 Z) (hL : L.Ok w B lb) (ho : Z.ownsRow w.heap.size 95 4 v n l) (hk : Kept Z Y (fun k => v.ownBlock = some k)) : Dz B lb L w ds L' xs j j1 Y :=
 { h with ok := h.ok.keep hk (fun k hp e => h.off hL ho k e hp), k := h.k.step hk (fun k e => .inr (World.ownsRow.lt ho k e).1), el := fun i hi => (TyP.own ho).keep (h.el i hi) (by decide) hk }
theorem Dz.lend {ra a1 xa : Option Addr} {rn rc c1 xc base : Nat} {bs : List Int} (h : Dz B lb L w ds L' xs j j1 V) (hR : L'.r 1 = ⟨ra, rn, rc⟩) (hx : V.ownsRow base 5 1 (.slice xa (bs.length + 64) xc) (bs.length + 64) (byts bs ++ tb 64)) (hbs : bs.length ≤ 100000000) (hb : w.heap.size ≤ base) (hB : B ≤ w.heap.size)
  (ho : Y.ownsRow B (LEt 1) 1 (.slice a1 (rn + 1) c1) (rn + 1) (rv rn (fun i => (L'.v 1 i).v) ++ [.slice xa (bs.length + 64) xc])) (hk : Kept V Y (fun k => (Value.slice ra rn rc).ownBlock = some k)) (he : (Value.slice a1 (rn + 1) c1).ownBlock = (Value.slice ra rn rc).ownBlock ∨ (Value.slice a1 (rn + 1) c1).ownBlock = some V.heap.size) :
  Dz B lb L w ds (L'.add 1 ⟨a1, rn + 1, c1⟩ ⟨xa, bs.length + 64, xc⟩) xs j (j1 + 1) (Y.setCell ⟨lb, 1, none⟩ (.slice a1 (rn + 1) c1)) ∧ ∃ P, Kept V (Y.setCell ⟨lb, 1, none⟩ (.slice a1 (rn + 1) c1)) P ∧ TyP V P (fun x => x = 92 ∨ x = 48) := by
 obtain ⟨t1, t2, t3⟩ := h.ok.add (c := 1) (x := ⟨xa, bs.length + 64, xc⟩) (by omega) hR (tl_bs hbs (own_mono hx (Nat.le_trans hB hb))) ho hk he
 have hr := h.ok.row' (by omega) hR
 have k2 : Kept V (Y.setCell ⟨lb, 1, none⟩ (.slice a1 (rn + 1) c1)) (fun k => (Value.slice ra rn rc).ownBlock = some k ∨ k = lb) := (hk.mono fun _ _ h => .inl h).trans (kset Y lb 1 _ (.inr rfl))
 have ty : TyP V (fun k => (Value.slice ra rn rc).ownBlock = some k ∨ k = lb) (fun x => x = 92 ∨ x = 48) := fun k hk => by
  rcases hk with hk | rfl
  ·obtain ⟨cur, h1⟩ := row_ty hr hk
   exact ⟨cur, _, .inl rfl, h1⟩
  ·exact ⟨_, _, .inr rfl, h.ok.blk⟩
 have en : rn = (L.r 1).n + j1 := by have h1 := h.r1; rw [hR] at h1; exact h1
 refine ⟨⟨t1, ?_, ?_, ?_, ?_, fun k hk2 => ?_, h.k.step t2 h.own, h.len, h.al, fun i hi => ty.keep (h.el i hi) (by decide) k2⟩, _, k2, ty⟩
 ·show upc L'.r 1 ⟨a1, rn + 1, c1⟩ 0 = _
  rw [upc_ne _ _ (by omega)]; exact h.r0
 ·show upc L'.r 1 ⟨a1, rn + 1, c1⟩ 2 = _
  rw [upc_ne _ _ (by omega)]; exact h.r2
 ·show upc L'.v 1 (updS (L'.v 1) (L'.r 1).n ⟨xa, bs.length + 64, xc⟩) 2 = _
  rw [upc_ne _ _ (by omega)]; exact h.v2
 ·show (upc L'.r 1 ⟨a1, rn + 1, c1⟩ 1).n = _
  rw [upc_at]; show rn + 1 = _; omega
 ·rcases t3 k hk2 with h5 | h5 | h5
  ·exact h.own k h5
  ·exact .inr (Nat.le_trans h.k.size h5)
  ·exact .inr (Nat.le_trans hb (World.ownsRow.lt hx k h5).1)
theorem Dz.push {x : Dx} (h : Dz B lb L w ds L' xs j (j + 1) Z) (hx : Z.ownsRow w.heap.size 5 1 (.slice x.ba (x.bs.length + 64) x.bc) (x.bs.length + 64) (byts x.bs ++ tb 64)) (ha : x.s = (ds.getD j dx0).s ∧ x.st = (ds.getD j dx0).st ∧ x.bs = (ds.getD j dx0).bs) : Dz B lb L w ds L' (xs ++ [x]) (j + 1) (j + 1) Z := by
 have e1 : ∀ i, i < j → (xs ++ [x]).getD i dx0 = xs.getD i dx0 := fun i hi => by simp [List.getD, List.getElem?_append, show i < xs.length by rw [h.len]; exact hi]
 have e2 : (xs ++ [x]).getD j dx0 = x := by simp [List.getD, ← h.len]
 refine { h with len := by simp [h.len], al := fun i hi => ?_, el := fun i hi => ?_ }
 ·by_cases e : i < j
  ·rw [e1 i e]; exact h.al i e
  ·obtain rfl : i = j := by omega
   rw [e2]; exact ha
 ·by_cases e : i < j
  ·rw [e1 i e]; exact h.el i e
  ·obtain rfl : i = j := by omega
   rw [e2]; exact hx
end
end
end Go.Proofs.Ytobaooebjgoaiaa.Hh
