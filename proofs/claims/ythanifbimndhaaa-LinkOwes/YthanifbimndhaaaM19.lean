import Derived.Test.YthanifbimndhaaaM18
import Derived.Test.YthanifbimndhaaaM14
import Derived.Test.YthanifbimndhaaaRows
import Derived.WalkKit
import Derived.WalkLawsBesides
import Derived.WalkSpells
import Derived.Outline
import Derived.Below
import Derived.BigQuiet
import Derived.Deep.QuietTactic
import Derived.Laws.OwnMore
import Derived.Laws.AppendOwnNone
import Derived.Deep.RegionHeld3
import Derived.Deep.AppendLies
import Derived.ArgAppend
namespace Go.Proofs.Ythanifbimndhaaa.Ln
set_option maxHeartbeats 40000000
open Go.RowKit Mb
set_option linter.unusedVariables false
set_option maxRecDepth 100000
set_option linter.unusedSimpArgs false
section
variable {w w' W : World} {B : Nat}
def rv (Y : Nat -> Bn) (n : Nat) : List Value := (List.range n).map fun j => (Y j).v
theorem rv_succ (Y : Nat -> Bn) (n : Nat) : rv Y (n + 1) = rv Y n ++ [(Y n).v] := by simp [rv, List.range_succ]
theorem rv_len (Y : Nat -> Bn) (n : Nat) : (rv Y n).length = n := by simp [rv]
theorem rv_get (Y : Nat -> Bn) {n j : Nat} (hj : j < n) : (rv Y n)[j]? = some (Y j).v := by simp [rv, hj]
theorem rv_upd {Y : Nat -> Bn} {n : Nat} {y : Bn} : rv (upd Y n y) n = rv Y n := by
 unfold rv
 refine List.map_congr_left fun j hj => ?_
 rw [upd_ne _ _ (by have := List.mem_range.1 hj; omega)]
theorem rv_one (Y : Nat -> Bn) (n : Nat) : ∀ u ∈ rv Y n, u.oneCell' = true := by
 intro u hu
 simp only [rv, List.mem_map] at hu
 obtain ⟨j, _, rfl⟩ := hu
 rfl
structure OW1 (w wr : World) (mk : Int) (v2 : Value) (i : Nat) (Z : Nat -> Bn) : Prop where
 row : wr.ownsRow w.heap.size 40 1 v2 i (rv Z i)
 zo : ∀ j, j < i -> (Z j).Ok wr w.heap.size /\ (Z j).bs = tb mk j
 bel : Below w.heap.size w wr
structure OW2 (w wr : World) (B : Nat) (L : Value) (n : Nat) (mk : Int) (v2 : Value) (Z : Nat -> Bn) (rb : Nat) (cur : Array Value) (i : Nat) (Y : Nat -> Bn) : Prop where
 row : ∃ xs, wr.ownsRow B 40 1 L n xs /\ ∀ j, j < i -> xs[j]? = some (Y j).v
 yo : ∀ j, j < i -> (Y j).Ok wr w.heap.size /\ (Y j).bs = ob mk j
 tail : wr.ownsRow w.heap.size 40 1 v2 64 (rv Z 64)
 zo : ∀ j, j < 64 -> (Z j).Ok wr w.heap.size /\ (Z j).bs = tb mk j
 blk : wr.heap[rb]? = some (.cells cur 51 (0, 0))
 kept : Kept w wr (fun j => L.ownBlock = some j)
theorem bn_lit {k : Nat} {bs : List Int} {C : Array Value} (h : w.heap[k]? = some (.cells C 5 (0, 0))) (hC : C = (bs.map (Value.int .u8)).toArray) (hby : By bs) (hk : B ≤ k) (hp : 0 < bs.length) (hl : bs.length ≤ 300) : (⟨k, bs.length, bs⟩ : Bn).Ok w B :=
 ⟨⟨C, h, fun i hi => by have hi' : i < bs.length := hi; rw [hC, List.getElem?_toArray, List.getElem?_map]; simp [List.getD, hi']⟩, hby, Nat.le_refl _, hk, hp, hl⟩
theorem OW1.next {wr w0 w4 : World} {mk : Int} {v2 : Value} {i gg cap k : Nat} {Z : Nat -> Bn} {C : Array Value} (h : OW1 w wr mk v2 i Z) (hb : Below wr.heap.size wr w0) (hk : w0.heap[k]? = some (.cells C 5 (0, 0))) (hC : C = ((tb mk i).map (Value.int .u8)).toArray) (hkl : wr.heap.size ≤ k) (hm : 0 ≤ mk /\ mk ≤ 255)
  (ho : w4.ownsRow w.heap.size 40 1 (.slice (some ⟨gg, 0, none⟩) (i + 1) cap) (i + 1) (rv Z i ++ [.slice (some ⟨k, 0, none⟩) 3 3])) (hk4 : Kept w0 w4 (fun j => v2.ownBlock = some j)) : ∃ Z', OW1 w w4 mk (.slice (some ⟨gg, 0, none⟩) (i + 1) cap) (i + 1) Z' := by
 have hr0 := own_still h.row hb
 have hv : ∀ j, v2.ownBlock = some j -> ∃ C, w0.heap[j]? = some (.cells C 40 (0, 0)) := fun j hj => own_ty hr0 hj
 have h1 : w.heap.size ≤ wr.heap.size := h.bel.size
 have hz := bn_lit (B := w.heap.size) hk hC (tb_by hm i) (by omega) (by simp [tb]) (by simp [tb])
 have hnv : ∀ {y : Bn} {B' : Nat}, y.Ok w0 B' -> ¬ v2.ownBlock = some y.k := fun hy e => by obtain ⟨C', hC'⟩ := hv _ e; obtain ⟨D, h1, _⟩ := hy.blk; exact blk_ne h1 hC' (by decide) rfl
 refine ⟨upd Z i ⟨k, (tb mk i).length, tb mk i⟩, ?_, fun j hj => ?_, ?_⟩
 ·rw [rv_succ, rv_upd, upd_same]
  exact ho
 ·by_cases e : j = i
  ·subst e
   rw [upd_same]
   exact ⟨hz.keep hk4 (hnv hz), rfl⟩
  ·rw [upd_ne _ _ e]
   have := h.zo j (by omega)
   exact ⟨(this.1.still hb).keep hk4 (hnv (this.1.still hb)), this.2⟩
 ·exact (bstep h.bel hb).trans (hk4.below (Nat.le_trans h1 hb.size) fun j hj e => by have := (World.ownsRow.lt h.row j e).1; omega)
theorem OW2.next {wr D : World} {mk : Int} {v2 : Value} {lb n lc rb i k : Nat} {Z Y : Nat -> Bn} {cur : Array Value} (h : OW2 w wr B (.slice (some ⟨lb, 0, none⟩) n lc) n mk v2 Z rb cur i Y) (hl : lb < w.heap.size) (hi : i < n) (hne : rb ≠ lb) (hm : 0 ≤ mk /\ mk ≤ 255) (hb : Below wr.heap.size wr D) (hk : D.heap[k]? = some (.cells #[.int .u8 mk, .int .u8 ((i : Int) % 256)] 5 (0, 0))) (hkl : wr.heap.size ≤ k) :
  ∃ Y', OW2 w (D.setCell ⟨lb, i, none⟩ (.slice (some ⟨k, 0, none⟩) 2 2)) B (.slice (some ⟨lb, 0, none⟩) n lc) n mk v2 Z rb cur (i + 1) Y' := by
 obtain ⟨xs, h1, h2⟩ := h.row
 have h1' := own_still h1 hb
 have hlen : xs.length = n * 1 := h1.1
 obtain ⟨CL, hCL⟩ := own_ty h1' (rfl : (Value.slice (some ⟨lb, 0, none⟩) n lc).ownBlock = some lb)
 have k1 : Kept D (D.setCell ⟨lb, i, none⟩ (.slice (some ⟨k, 0, none⟩) 2 2)) (fun j => j = lb) := kset (P := fun j => j = lb) _ _ _ _ rfl
 have hz := bn_lit (B := w.heap.size) (bs := ob mk i) hk rfl (ob_by hm i) (Nat.le_trans h.kept.size hkl) (by simp [ob]) (by simp [ob])
 have hnb : ∀ {y : Bn} {B' : Nat}, y.Ok D B' -> y.k ≠ lb := fun hy => by obtain ⟨C', h1, _⟩ := hy.blk; exact blk_ne h1 hCL (by decide)
 refine ⟨upd Y i ⟨k, (ob mk i).length, ob mk i⟩, ⟨_, (World.ownsRow.stored h1' i _).1, fun j hj => ?_⟩, fun j hj => ?_, k1.owns (own_still h.tail hb) fun j hj e => ?_, fun j hj => ?_, k1.obj ((hb.block _ (lt_heap h.blk)).trans h.blk) hne, (h.kept.trans (Kept.ofBelow hb _)).trans (k1.mono fun j _ e => by rw [e]; rfl)⟩
 ·by_cases e : j = i
  ·subst e
   rw [upd_same, List.getElem?_set_self (by omega)]
   rfl
  ·rw [upd_ne _ _ e, List.getElem?_set_ne (by omega)]
   exact h2 j (by omega)
 ·by_cases e : j = i
  ·subst e
   rw [upd_same]
   exact ⟨hz.keep k1 (hnb hz), rfl⟩
  ·rw [upd_ne _ _ e]
   have := h.yo j (by omega)
   exact ⟨(this.1.still hb).keep k1 (hnb (this.1.still hb)), this.2⟩
 ·have := (World.ownsRow.lt h.tail j hj).1
  omega
 ·have := h.zo j hj
  exact ⟨(this.1.still hb).keep k1 (hnb (this.1.still hb)), this.2⟩
structure OWrO (w w' : World) (B : Nat) (la : Option Addr) (n lc : Nat) (mk : Int) (rb ro : Nat) (cur : Array Value) : Prop where
 out : ∃ (ga : Option Addr) (gc : Nat) (Y Z : Nat -> Bn), DnO w' w.heap.size la ga n mk Y Z /\ w'.heap[rb]? = some (.cells ((cur.setIfInBounds (ro + 1) (.slice ga (n + 64) gc)).setIfInBounds (ro + 4) (.bool true)) 51 (0, 0)) /\ (∃ xs, w'.ownsRow B 40 1 (.slice la n lc) n xs) /\ (∃ ys, w'.ownsRow B 40 1 (.slice ga (n + 64) gc) (n + 64) ys) /\ Kept w w' (fun j => j = rb ∨ (Value.slice la n lc).ownBlock = some j) /\ ∀ g, (Value.slice ga (n + 64) gc).ownBlock = some g -> (Value.slice la n lc).ownBlock = some g ∨ w.heap.size ≤ g
theorem OW2.fin {wr w2 : World} {la : Option Addr} {v2 v' : Value} {n lc rb ro : Nat} {mk : Int} {cur : Array Value} {xs : List Value} {Y Z : Nat -> Bn} (h : OW2 w wr B (.slice la n lc) n mk v2 Z rb cur n Y) (h1 : wr.ownsRow B 40 1 (.slice la n lc) n xs) (h2 : ∀ j, j < n -> xs[j]? = some (Y j).v)
  (ho : w2.ownsRow B 40 1 v' (n + 64) (xs ++ rv Z 64)) (hg : wr.grownBy w2 (Value.slice la n lc).ownBlock) (hat : ApAt (.slice la n lc) v' n 64 wr.heap.size) (hl : w2.ownsRow B 40 1 (.slice la n lc) n xs) :
  ∃ ga gc, v' = .slice ga (n + 64) gc /\ w2.heap[rb]? = some (.cells cur 51 (0, 0)) /\ OWrO w ((w2.setCell ⟨rb, ro + 1, none⟩ (.slice ga (n + 64) gc)).setCell ⟨rb, ro + 4, none⟩ (.bool true)) B la n lc mk rb ro cur := by
 obtain ⟨ga, gc, rfl⟩ : ∃ ga gc, v' = .slice ga (n + 64) gc := by
  rcases ho.2 with ⟨_, h0⟩ | ⟨g, cap, cur', hv, _⟩
  ·omega
  ·exact ⟨_, _, hv⟩
 have hnl : ∀ {k : Nat}, (Value.slice la n lc).ownBlock = some k -> k ≠ rb := fun hk e => by
  obtain ⟨C, hC⟩ := own_ty h1 hk
  exact blk_ne hC h.blk (by decide) e
 have hb2 : w2.heap[rb]? = some (.cells cur 51 (0, 0)) := (hg.block rb (lt_heap h.blk) (fun e => hnl e.symm rfl)).trans h.blk
 have kg : Kept wr w2 (fun j => (Value.slice la n lc).ownBlock = some j) := (Kept.ofGrown hg).mono (fun k _ e => e.symm)
 refine ⟨ga, gc, rfl, hb2, ?_⟩
 generalize hX : (w2.setCell ⟨rb, ro + 1, none⟩ (.slice ga (n + 64) gc)).setCell ⟨rb, ro + 4, none⟩ (.bool true) = X
 have k3 : Kept w2 X (fun j => j = rb) := by rw [<- hX]; exact (kset (P := fun j => j = rb) _ _ _ _ rfl).trans (kset _ _ _ _ rfl)
 have hr : ∀ {m k : Nat} {v : Value} {ys : List Value}, w2.ownsRow B 40 1 v m ys -> v.ownBlock = some k -> k ≠ rb := fun hv hk e => by
  obtain ⟨C, hC⟩ := own_ty hv hk
  exact blk_ne hC hb2 (by decide) e
 have hlX : X.ownsRow B 40 1 (.slice la n lc) n xs := k3.owns hl fun k hk => hr hl hk
 have hoX : X.ownsRow B 40 1 (.slice ga (n + 64) gc) (n + 64) (xs ++ rv Z 64) := k3.owns ho fun k hk => hr ho hk
 have hxl : xs.length = n * 1 := h1.1
 have hbn : ∀ {y : Bn}, y.Ok wr w.heap.size -> y.Ok X w.heap.size := fun {y} hy => by
  have n1 : ¬ (Value.slice la n lc).ownBlock = some y.k := fun e => by obtain ⟨C, hC⟩ := own_ty h1 e; obtain ⟨D, h1, _⟩ := hy.blk; exact blk_ne h1 hC (by decide) rfl
  have n2 : y.k ≠ rb := by obtain ⟨D, h1, _⟩ := hy.blk; exact blk_ne h1 h.blk (by decide)
  exact (hy.keep kg n1).keep k3 n2
 refine ⟨ga, gc, Y, Z, ⟨?_, fun hn => ?_, fun i hi => ⟨hbn (h.yo i hi).1, (h.yo i hi).2⟩, fun i hi => ⟨hbn (h.zo i hi).1, (h.zo i hi).2⟩⟩, ?_, ⟨_, hlX⟩, ⟨_, hoX⟩, ?_, fun g hgk => ?_⟩
 ·rcases hoX.2 with ⟨_, h0⟩ | ⟨gb, cap, cur', hv, _⟩
  ·omega
  ·simp only [Value.slice.injEq] at hv
   obtain ⟨rfl, _, rfl⟩ := hv
   refine ⟨gb, rfl, fun i hi => ?_, fun i hi => ?_⟩
   ·rw [World.ownsRow.cellAt hoX _ (by omega), List.getElem?_append_left (by omega)]
    exact h2 i hi
   ·rw [World.ownsRow.cellAt hoX _ (by omega), List.getElem?_append_right (by omega), hxl, show n + i - n * 1 = i by omega, rv_get _ hi]
 ·rcases hlX.2 with ⟨_, h0⟩ | ⟨lb, cap, cur', hv, _⟩
  ·omega
  ·simp only [Value.slice.injEq] at hv
   obtain ⟨rfl, _, rfl⟩ := hv
   refine ⟨lb, rfl, fun i hi => ?_⟩
   rw [World.ownsRow.cellAt hlX _ (by omega)]
   exact h2 i hi
 ·rw [<- hX]
  exact blk_set (blk_set hb2 rfl) rfl
 ·exact ((h.kept.trans kg).mono fun k _ e => .inr e).trans (k3.mono fun k _ e => .inl e)
 ·rcases hat.out with ⟨g', cap, e1, e2⟩ | e1
  ·rw [e2] at hgk
   rw [e1]
   exact .inl hgk
  ·rw [e1] at hgk
   cases hgk
   exact .inr h.kept.size
theorem rowb_info : ∃ i : TypeInfo, Try.prog.info? 40 = some i /\ i.zero = some (.slice none 0 0) /\ i.size = 1 /\ i.bytes = 24 := by
 have h : (Try.prog.info? 40).map (fun i => (i.zero, i.size, i.bytes)) = some (some (.slice none 0 0), 1, 24) := by kernel_rfl
 cases hq : Try.prog.info? 40 with
 | none => rw [hq] at h; cases h
 | some i => rw [hq] at h; simp at h; exact ⟨i, rfl, h.1, h.2.1, h.2.2⟩
theorem owrite_any {rb ro n lc : Nat} {la : Option Addr} {mk : Int} {cur : Array Value} {xs : List Value} (hrow : w.ownsRow B 40 1 (.slice la n lc) n xs) (hB : B ≤ w.heap.size) (hblk : w.heap[rb]? = some (.cells cur 51 (0, 0))) (c0 : cur[ro]? = some (.slice la n lc)) (c1 : ∃ v, cur[ro + 1]? = some v) (c3 : cur[ro + 3]? = some (.int .i64 mk)) (c4 : ∃ v, cur[ro + 4]? = some v) (hn : n ≤ 100000) (hm : 0 ≤ mk /\ mk ≤ 255) :
  Calls Try.prog 18 #[.pointer (some ⟨rb, ro, none⟩)] w fun e w' => e = .returned (.tuple #[]) /\ OWrO w w' B la n lc mk rb ro cur := by
 obtain ⟨hm1, hm2⟩ := hm
 have HR : Hid (w.ownsRow B 40 1 (.slice la n lc) n xs) := hrow
 have HBl : Hid (w.heap[rb]? = some (.cells cur 51 (0, 0))) := hblk
 have HC : Hid (cur[ro]? = some (.slice la n lc) /\ cur[ro + 3]? = some (.int .i64 mk)) := (show _ /\ _ from ⟨c0, c3⟩)
 have HC1 : Hid ((∃ v, cur[ro + 1]? = some v) /\ ∃ v, cur[ro + 4]? = some v) := (show _ /\ _ from ⟨c1, c4⟩)
 have HL0 : Hid (∃ Z, OW1 w w mk (.slice none 0 0) 0 Z) := (show ∃ Z, OW1 _ _ _ _ _ Z from ⟨fun _ => ⟨0, 0, []⟩, ⟨rfl, .inl ⟨rfl, rfl⟩⟩, fun j hj => by omega, Below.refl _ _⟩)
 clear hrow hblk c0 c1 c3 c4
 go_enter Try.func18, Try.ntmps18
 go_wp2
 go_loopw [2, 3] (fun v2 v3 wr => ∃ i : Nat, i ≤ 64 /\ v3 = .int .i64 (i : Int) /\ Hid (∃ Z, OW1 w wr mk v2 i Z)) (fun _ v3 _ => 64 - (intOf v3).toNat)
 case atStart => exact ⟨0, by omega, rfl, HL0⟩
 case round =>
  clear HL0
  obtain ⟨i, hi, rfl, hs'⟩ := hrel
  obtain ⟨Z, hs⟩ := hs'.out
  clear hs'
  have hbw : wr.heap[rb]? = some (.cells cur 51 (0, 0)) := (hs.bel.block _ (lt_heap HBl.out)).trans HBl.out
  by_cases hlt : i < 64
  ·have i2 : (i : Int) < 64 := by omega
   have i1 : (0 : Int) ≤ (i : Int) := Int.natCast_nonneg _
   have d3 : wr.cell? ⟨rb, ro + 3, none⟩ = some (.int .i64 mk) := (bC hbw _).trans HC.out.2
   obtain ⟨r, hr⟩ : ∃ r, i % 50 = r := ⟨_, rfl⟩
   have hr50 : r < 50 := by rw [<- hr]; exact Nat.mod_lt _ (by omega)
   have hrem : Int.tmod (i : Int) 50 = (r : Int) := by rw [<- hr, Int.tmod_eq_emod_of_nonneg i1]; omega
   obtain ⟨va, vc, hv⟩ := row_shape' hs.row
   rw [hv] at hs
   rw [hv]
   have HO : Hid (wr.ownsRow w.heap.size 40 1 (.slice va i vc) i (rv Z i)) := hs.row
   have HS : Hid (OW1 w wr mk (.slice va i vc) i Z) := hs
   have Hsz : Hid (w.heap.size ≤ wr.heap.size) := (show _ ≤ _ from hs.bel.size)
   have Hr : Hid (i % 50 = r) := hr
   clear hs hlt hv hbw hr
   generalize hw1 : wr.alloc (.cells #[.int .u8 mk, .int .u8 (200 + (r : Int)), .int .u8 1] 5) = w1
   have hb1 : Below wr.heap.size wr w1 := by rw [<- hw1]; exact balloc (Below.refl _ _)
   have hc1 : w1.heap[wr.heap.size]? = some (.cells #[.int .u8 mk, .int .u8 (200 + (r : Int)), .int .u8 1] 5 (0, 0)) := by rw [<- hw1]; exact heap_alloc_new _ _
   have HO1 : Hid (w1.ownsRow w.heap.size 40 1 (.slice va i vc) i (rv Z i)) := own_still HO.out hb1
   have Hsz1 : Hid (w.heap.size ≤ w1.heap.size) := (show _ ≤ _ from Nat.le_trans Hsz.out hb1.size)
   have Hb1 : Hid (Below wr.heap.size wr w1) := hb1
   have Hc1 : Hid (w1.heap[wr.heap.size]? = some (.cells #[.int .u8 mk, .int .u8 (200 + (r : Int)), .int .u8 1] 5 (0, 0))) := hc1
   clear hb1 hc1 HO
   go_wp2_with (first | (at_builtin; refine wl_pushB rfl _ _ rfl w1 w.heap.size _ _ (.slice (some ⟨wr.heap.size, 0, none⟩) 3 3) rfl i HO1.out rfl rfl rfl (by omega) Hsz1.out ?_) | fail)
   intro gg cap w4 ho4 hk4 hg4 hl4
   have HN : Hid (∃ Z', OW1 w w4 mk (.slice (some ⟨gg, 0, none⟩) (i + 1) cap) (i + 1) Z') := (show ∃ Z', OW1 _ _ _ _ _ Z' from HS.out.next Hb1.out Hc1.out (by unfold tb; rw [Hr.out]; rfl) (Nat.le_refl _) ⟨hm1, hm2⟩ ho4 hk4)
   clear hw1 Hb1 Hc1 HO1 Hsz1
   clear ho4 hk4 hg4 hl4 HS d3
   go_wp2
   exact ⟨⟨i + 1, by omega, by go_num, HN⟩, by simp [intOf]; omega⟩
  ·obtain rfl : i = 64 := by omega
   have e64 : ((64 : Nat) : Int) = 64 := rfl
   rw [e64]
   clear e64
   have HS0 : Hid (∃ Y, OW2 w wr B (.slice la n lc) n mk u2 Z rb cur 0 Y) := (show ∃ Y, OW2 _ _ _ _ _ _ _ _ _ _ _ Y from ⟨Z, ⟨xs, own_still HR.out hs.bel, fun j hj => by omega⟩, fun j hj => by omega, hs.row, hs.zo, hbw, Kept.ofBelow hs.bel _⟩)
   clear hs hbw hlt hi
   go_wp2
   go_loopw [4] (fun v4 wr => ∃ i : Nat, i ≤ n /\ v4 = .int .i64 (i : Int) /\ Hid (∃ Y, OW2 w wr B (.slice la n lc) n mk u2 Z rb cur i Y)) (fun v4 _ => n - (intOf v4).toNat)
   case atStart => exact ⟨0, by omega, rfl, HS0⟩
   case round =>
    clear HS0
    obtain ⟨i, hi, rfl, hs'⟩ := hrel
    obtain ⟨Y, hs⟩ := hs'.out
    clear hs'
    have d0 : wr.cell? ⟨rb, ro, none⟩ = some (.slice la n lc) := (bC hs.blk _).trans HC.out.1
    have d3 : wr.cell? ⟨rb, ro + 3, none⟩ = some (.int .i64 mk) := (bC hs.blk _).trans HC.out.2
    by_cases hlt : i < n
    ·have i1 : (0 : Int) ≤ (i : Int) := Int.natCast_nonneg _
     have i2 : (i : Int) < (n : Int) := by omega
     obtain ⟨lb, hlb⟩ : ∃ lb, la = some ⟨lb, 0, none⟩ := by
      rcases HR.out.2 with ⟨_, h0⟩ | ⟨g, cap, cur', hv, _⟩
      ·omega
      ·simp only [Value.slice.injEq] at hv; exact ⟨g, hv.1⟩
     have hrow := HR.out
     rw [hlb] at hrow
     have hll : lb < w.heap.size := (World.ownsRow.lt hrow lb rfl).2
     have hne : rb ≠ lb := fun e => by
      obtain ⟨C, hC⟩ := own_ty hrow (rfl : (Value.slice (some ⟨lb, 0, none⟩) n lc).ownBlock = some lb)
      exact blk_ne hC HBl.out (by decide) e.symm
     have hs2 := hs
     rw [hlb] at hs2 d0
     have HTh : Hid (∀ D, Below wr.heap.size wr D -> (∃ zv, D.cell? ⟨lb, i, none⟩ = some zv) /\ D.frozen? ⟨lb, i, none⟩ = false) := fun D hb => (show _ /\ _ from by
      obtain ⟨ys, h1, _⟩ := hs2.row
      have h1' := own_still h1 hb
      refine ⟨⟨_, (World.ownsRow.cellAt h1' i (by omega)).trans (List.getElem?_eq_getElem (by have := h1.1; omega))⟩, World.ownsRow.frozenAt h1' i⟩)
     have HNx : Hid (∀ (D : World) (k : Nat), Below wr.heap.size wr D -> D.heap[k]? = some (.cells #[.int .u8 mk, .int .u8 ((i : Int) % 256)] 5 (0, 0)) -> wr.heap.size ≤ k -> ∃ Y', OW2 w (D.setCell ⟨lb, i, none⟩ (.slice (some ⟨k, 0, none⟩) 2 2)) B (.slice la n lc) n mk u2 Z rb cur (i + 1) Y') := fun D k hb hk hkl => (show ∃ Y', OW2 _ _ _ _ _ _ _ _ _ _ _ Y' from by rw [hlb]; exact hs2.next hll hlt hne ⟨hm1, hm2⟩ hb hk hkl)
     clear hs hs2 hlt hrow hll hlb
     go_wp2
     refine wp_region_held_drew (S := (fun w' => w'.cell? ⟨rb, ro, none⟩ = some (.slice (some ⟨lb, 0, none⟩) n lc) /\ w'.cell? ⟨rb, ro + 3, none⟩ = some (.int .i64 mk))) (by kernel_rfl) ⟨(dW0 d0), (dW0 d3)⟩ (fun hH => ?_)
     simp only [Act.put, lA, lC, lN, zA]
     refine tG 0 31 (.pointer (some ⟨rb, ro, none⟩)) rfl hH ?_
     simp only [aP, sA, sZ, sC]
     refine tG 1 32 (.pointer (some ⟨rb, ro, none⟩)) rfl hH ?_
     simp only [aP, sA, sZ, sC]
     refine tG 2 33 (.pointer (some ⟨rb, ro, none⟩)) rfl hH ?_
     simp only [aP, sA, sZ, sC]
     refine tL 3 34 (.slice (some ⟨lb, 0, none⟩) n lc) rfl hH ?_
     simp only [aP, sA, sZ, sC]
     refine tG 4 35 (.int .i64 (i : Int)) rfl hH ?_
     simp only [aP, sA, sZ, sC]
     refine tG 5 36 (.pointer (some ⟨rb, ro, none⟩)) rfl hH ?_
     simp only [aP, sA, sZ, sC]
     refine tG 6 37 (.pointer (some ⟨rb, ro, none⟩)) rfl hH ?_
     simp only [aP, sA, sZ, sC]
     refine tG 7 38 (.pointer (some ⟨rb, ro + 3, none⟩)) rfl hH ?_
     simp only [aP, sA, sZ, sC]
     refine tL 8 39 (.int .i64 mk) rfl hH ?_
     simp only [aP, sA, sZ, sC]
     refine tX 9 40 (.int .u8 mk) rfl (Or.inl ⟨by rfl, fun w' hS => by (go_simp <;> exact u8_id _ (by omega))⟩) hH ?_
     simp only [aP, sA, sZ, sC]
     refine tG 10 41 (.int .i64 (i : Int)) rfl hH ?_
     simp only [aP, sA, sZ, sC]
     refine tX 11 42 (.int .u8 ((i : Int) % 256)) rfl (Or.inl ⟨by rfl, fun w' hS => by (go_simp <;> (first | done | exact IntKind.wrap_u8 _ | (rw [IntKind.wrap_u8])))⟩) hH ?_
     simp only [aP, sA, sZ, sC]
     have hbD1 : Below wr.heap.size wr wr.drew := dB _
     have q0 := bA hbD1 d0
     have q1 := bA hbD1 d3
     generalize wr.drew = D1 at *
     refine rY 12 rfl fun K hK => ?_
     go_simp
     have hbV1 : Below D1.heap.size D1 (D1.alloc (.cells #[.int .u8 mk, .int .u8 ((i : Int) % 256)] 5)) := balloc (Below.refl _ _)
     have hcV1 : (D1.alloc (.cells #[.int .u8 mk, .int .u8 ((i : Int) % 256)] 5)).heap[D1.heap.size]? = some (.cells #[.int .u8 mk, .int .u8 ((i : Int) % 256)] 5 (0, 0)) := heap_alloc_new _ _
     obtain ⟨kk1, hkk1⟩ : ∃ k, D1.heap.size = k := ⟨_, rfl⟩
     rw [hkk1] at hcV1 ⊢
     generalize D1.alloc (.cells #[.int .u8 mk, .int .u8 ((i : Int) % 256)] 5) = V1 at *
     have hlo : wr.heap.size ≤ kk1 := by rw [<- hkk1]; exact hbD1.size
     clear hkk1
     refine hK.out _ _ ⟨(bA hbV1 q0), (bA hbV1 q1)⟩ (fun hH => ?_)
     clear hK K
     refine tG 13 44 (.pointer (some ⟨lb, i, none⟩)) rfl hH ?_
     simp only [aP, sA, sZ, sC]
     refine rY 14 rfl fun K hK => ?_
     obtain ⟨⟨zv, hzv⟩, hzf⟩ := HTh.out _ (bstep hbD1 hbV1)
     go_simp
     clear hzv hzf
     refine hK.out _ _ ⟨(kC (kset (P := fun j => j = lb) _ _ _ _ rfl) hne (bA hbV1 q0)), (kC (kset (P := fun j => j = lb) _ _ _ _ rfl) hne (bA hbV1 q1))⟩ (fun hH => ?_)
     clear hK K
     refine wpAnyH_done (by kernel_rfl) ?_ _
     clear hH
     have HN : Hid (∃ Y', OW2 w (V1.setCell ⟨lb, i, none⟩ (.slice (some ⟨kk1, 0, none⟩) 2 2)) B (.slice la n lc) n mk u2 Z rb cur (i + 1) Y') := (show ∃ Y', OW2 _ _ _ _ _ _ _ _ _ _ _ Y' from HNx.out V1 kk1 (bstep hbD1 hbV1) hcV1 hlo)
     generalize (V1.setCell ⟨lb, i, none⟩ (.slice (some ⟨kk1, 0, none⟩) 2 2)) = wz at HN ⊢
     clear HTh HNx d0 d3 hlo
     go_wp2
     exact ⟨⟨i + 1, by omega, by go_num, HN⟩, by simp [intOf]; omega⟩
    ·obtain rfl : i = n := by omega
     have i2 : ¬ (i : Int) < (i : Int) := by omega
     obtain ⟨ys, h1, h2⟩ := hs.row
     have HO : Hid (wr.ownsRow B 40 1 (.slice la i lc) i ys) := h1
     have H2 : Hid (∀ j, j < i -> ys[j]? = some (Y j).v) := h2
     have HS : Hid (OW2 w wr B (.slice la i lc) i mk u2 Z rb cur i Y) := hs
     obtain ⟨ta, tc, htv⟩ := row_shape' hs.tail
     obtain ⟨tbk, htb⟩ : ∃ tbk, ta = some ⟨tbk, 0, none⟩ := by
      rcases hs.tail.2 with ⟨_, h0⟩ | ⟨g, cap, cur', hv, _⟩
      ·omega
      ·rw [htv] at hv; simp only [Value.slice.injEq] at hv; exact ⟨g, hv.1⟩
     rw [htb] at htv
     have HTl : Hid (wr.ownsRow w.heap.size 40 1 (.slice (some ⟨tbk, 0, none⟩) 64 tc) 64 (rv Z 64)) := (show World.ownsRow _ _ _ _ _ _ _ from by have := hs.tail; rw [htv] at this; exact this)
     have HNw : Hid (∀ (j : Nat) (y : Value), (rv Z 64)[j]? = some y -> wr.cell? ((⟨tbk, 0, none⟩ : Addr).add j) = some y) := fun j y hy => (show _ = _ from by
      have hj : j < 64 * 1 := by have := (List.getElem?_eq_some_iff.1 hy).1; rw [rv_len] at this; omega
      rw [Addr.add_mid, Nat.zero_add, World.ownsRow.cellAt HTl.out j hj]
      exact hy)
     have HBs : Hid (B ≤ wr.heap.size) := (show _ ≤ _ from Nat.le_trans hB hs.kept.size)
     rw [htv]
     have Hfi : Hid (∃ i0 : TypeInfo, Try.prog.info? 40 = some i0 /\ i0.zero = some (.slice none 0 0) /\ i0.size = 1 /\ i0.bytes = 24) := rowb_info
     obtain ⟨i0, fi0, fi1, fi2, fi3⟩ := Hfi.out
     clear hs h1 h2 htv htb Hfi
     go_wp2_with (first | (at_builtin; refine wl_appK rfl _ _ 49 rfl B 40 i0 (.slice none 0 0) 1 24 Try.underlying49 fi0 fi1 fi2 fi3 rfl (by decide) _ i ys rfl HO.out ⟨tbk, 0, none⟩ 64 tc (rv Z 64) rfl (by rw [rv_len]) HNw.out (rv_one _ _) (by decide) (by unfold maxLen; omega) (by omega) HBs.out ?_) | fail)
     intro v' w2 ho hg hat hl
     obtain ⟨ga, gc, hv', hb2, hW⟩ := HS.out.fin (ro := ro) HO.out H2.out ho hg hat hl
     subst hv'
     obtain ⟨⟨o1, ho1⟩, o4, ho4⟩ := HC1.out
     have e1 : w2.cell? ⟨rb, ro + 1, none⟩ = some o1 := (bC hb2 _).trans ho1
     have f1 : w2.frozen? ⟨rb, ro + 1, none⟩ = false := frozen_of_row w2 rb (ro + 1) _ _ hb2
     have hb3 : (w2.setCell ⟨rb, ro + 1, none⟩ (.slice ga (i + 64) gc)).heap[rb]? = some (.cells (cur.setIfInBounds (ro + 1) (.slice ga (i + 64) gc)) 51 (0, 0)) := blk_set hb2 rfl
     have e4 : (w2.setCell ⟨rb, ro + 1, none⟩ (.slice ga (i + 64) gc)).cell? ⟨rb, ro + 4, none⟩ = some o4 := (bC hb3 _).trans (by rw [Array.getElem?_setIfInBounds_ne (by omega)]; exact ho4)
     have f4 : (w2.setCell ⟨rb, ro + 1, none⟩ (.slice ga (i + 64) gc)).frozen? ⟨rb, ro + 4, none⟩ = false := frozen_of_row _ rb (ro + 4) _ _ hb3
     have HW : Hid (OWrO w ((w2.setCell ⟨rb, ro + 1, none⟩ (.slice ga (i + 64) gc)).setCell ⟨rb, ro + 4, none⟩ (.bool true)) B la i lc mk rb ro cur) := hW
     clear ho hg hat hl hb2 hW hb3 ho1 ho4 HS HO H2 HTl HNw d0 d3
     go_wp2
     go_end0
     exact ⟨rfl, HW.out⟩
end
end Go.Proofs.Ythanifbimndhaaa.Ln
namespace Go.Proofs.Ythanifbimndhaaa.Lo
set_option maxHeartbeats 40000000
open Go.RowKit
set_option linter.unusedVariables false

def pat (id k : Int) : Int := bits .xor .u8 ((id + 1) * 2654435761 % 4294967296 / 2 ^ (8 * (k % 4)).toNat % 256) (k / 4 % 256)
theorem u8_range (op : BinOp) (x y : Int) : 0 ≤ bits op .u8 x y /\ bits op .u8 x y ≤ 255 := by
 unfold bits
 simp only [IntKind.wrap, IntKind.bits, IntKind.signed]
 simp
 omega
theorem pat_range (id k : Int) : 0 ≤ pat id k /\ pat id k ≤ 255 := u8_range _ _ _

set_option maxRecDepth 100000 in
theorem pat_any (id k : Int) (w : World) (h0 : 0 ≤ id) (h1 : id ≤ 10000000) (h2 : 0 ≤ k) (h3 : k ≤ 281474976710656) :
  Calls Try.prog 76 #[.int .i64 id, .int .i64 k] w fun e w' => e = .returned (.int .u8 (pat id k)) /\ w = w' := by
 have hk0 : 0 ≤ 8 * (k % 4) := by omega
 have hk1 : 8 * (k % 4) ≤ 24 := by omega
 go_enter Try.func76, Try.ntmps76
 go_wp2
 go_ret
 exact ⟨rfl, rfl⟩

theorem pat_same (id k : Int) (w : World) (h0 : 0 ≤ id) (h1 : id ≤ 10000000) (h2 : 0 ≤ k) (h3 : k ≤ 281474976710656) :
  Calls Try.prog 76 #[.int .i64 id, .int .i64 k] w fun e w' => e = .returned (.int .u8 (pat id k)) /\ w' = w :=
 (pat_any id k w h0 h1 h2 h3).mono fun e w' h => ⟨h.1, h.2.symm⟩

def Rd (w : World) (ao : Option Addr) (len cap : Nat) (bs : List Int) : Prop :=
 bs.length = len /\ (ao = none -> len = 0 /\ cap = 0) /\ (len = 0 ∨ ∃ b off, ao = some ⟨b, off, none⟩ /\ ∀ i, i < len -> w.cell? ⟨b, off + i, none⟩ = some (.int .u8 (bs.getD i 0))) /\ ∀ i, 0 ≤ bs.getD i 0 /\ bs.getD i 0 ≤ 255

theorem info_u8 : (Try.prog.info? 5).map (fun i => (i.zero, i.size, i.bytes)) = some (some (.int .u8 0), 1, 1) := by kernel_rfl

def Own (w : World) (base : Nat) (v : Value) (bs : List Int) : Prop := w.ownsRow base 5 1 v bs.length (bs.map (Value.int .u8))
theorem Own.alloc {w : World} {base : Nat} {v : Value} {bs : List Int} (h : Own w base v bs) (o : Obj) : Own (w.alloc o) base v bs := World.ownsRow.alloc h o

theorem Rd.cells {w w1 : World} {ao : Option Addr} {len cap : Nat} {bs : List Int} (h : Rd w ao len cap bs) (hbel : Below w.heap.size w w1) (a : Addr) (ha : ao = some a) : ∀ j v, (bs.map (Value.int .u8))[j]? = some v -> w1.cell? (a.add j) = some v := by
 intro j v hv
 obtain ⟨hl, _, hc, _⟩ := h
 have hj : j < len := by have := (List.getElem?_eq_some_iff.1 hv).1; simpa [hl] using this
 rcases hc with h | ⟨b, off, hao, hc⟩
 ·omega
 ·rw [ha] at hao
  obtain rfl := Option.some.inj hao
  have hcj := hc j hj
  rw [Addr.add_lit, hbel.cell (World.block_lt_of_cell? w _ hcj), hcj]
  have e : (bs.map (Value.int .u8))[j]? = some (.int .u8 (bs.getD j 0)) := by simp [List.getD, show j < bs.length by omega]
  rw [e] at hv
  exact hv

theorem bytes_oneCell (bs : List Int) : ∀ u ∈ bs.map (Value.int .u8), u.oneCell' = true := by
 intro u hu
 obtain ⟨_, _, rfl⟩ := List.mem_map.1 hu
 rfl

theorem wpList_append_rd {P : Program} (w : World) {ops : Array Oper} {rest : List Oper} {o : Oper} {a : Act} {Q : Exit -> Act -> World -> Prop} (hgd : o.guard = none) (s x : Operand) (t : TypeId)
  (ho : o.op = .call { callee := .builtin .append, args := #[s, x], argTypes := #[t, t] })
  (base : Nat) (e : TypeId) (i : TypeInfo) (z : Value) (bytes : Nat) (ht : P.underlying t = some (.slice e)) (hi : P.info? e = some i) (hz : i.zero = some z)
  (hsize : i.size = 1) (hby : i.bytes = bytes) (hzs : z.cells.size = 1)
  (v : Value) (n : Nat) (xs : List Value) (hs : a.eval s = v) (hown : w.ownsRow base e 1 v n xs)
  (ao : Option Addr) (m c : Nat) (news : List Value) (hx : a.eval x = .slice ao m c) (hnone : ao = none -> m = 0 /\ c = 0) (hl : news.length = m) (hnews : ∀ ad, ao = some ad -> ∀ j u, news[j]? = some u -> w.cell? (ad.add j) = some u) (h1 : ∀ u ∈ news, u.oneCell' = true)
  (h63 : n + m ≤ maxLen) (hbytes : (n + m) * bytes ≤ 140737488355328) (hbase : base ≤ w.heap.size)
  (h : ∀ v' w', w'.ownsRow base e 1 v' (n + m) (xs ++ news) -> w.grownBy w' v.ownBlock -> wpList P ops Q rest (a.put o.dst v') w') : wpList P ops Q (o :: rest) a w := by
 cases ao with
 | some ad => exact wpList_append_own w hgd s x t ho base e i z 1 bytes ht hi hz hsize hby hzs (by decide) v n xs hs hown ad m c news hx (by omega) (hnews ad rfl) h1 h63 hbytes hbase fun v' w' h2 h3 _ => h v' w' h2 h3
 | none =>
  obtain ⟨rfl, rfl⟩ := hnone rfl
  obtain rfl : news = [] := List.eq_nil_of_length_eq_zero hl
  exact wpList_append_own_none hgd s x t ho base e i 1 ht hi v n xs hs hown hx (h v w (by simpa using hown) (World.grownBy.refl _ _))

theorem own_empty (w : World) : Own (w.alloc (.cells #[] 5)) w.heap.size (.slice (some ⟨w.heap.size, 0, none⟩) 0 0) [] :=
 World.ownsRow_made w #[] 0 (Nat.le_refl _) (Nat.zero_le _) rfl

theorem own_copy {w1 : World} {base n : Nat} {v : Value} {bs : List Int} (hn : bs.length = n) (h : w1.ownsRow base 5 1 v n (bs.map (Value.int .u8))) : Own w1 base v bs := by
 subst hn; exact h

set_option maxRecDepth 100000 in
theorem copied_any (ao : Option Addr) (len cap : Nat) (bs : List Int) (w : World) (hr : Rd w ao len cap bs) (hlen : len ≤ 140737488355328) :
  Calls Try.prog 65 #[.slice ao len cap] w fun e w' => ∃ v', e = .returned v' /\ Own w' w.heap.size v' bs /\ Below w.heap.size w w' := by
 obtain ⟨i0, hi, hz0, hz1, hz2⟩ := info_parts info_u8
 have hb1 : Hid (Below w.heap.size w (w.alloc (.cells #[] 5))) := (Below.refl _ _).alloc (Nat.le_refl _) _
 have hlb := hr.1
 have Hr : Hid (Rd w ao len cap bs) := hr
 clear hr
 go_enter Try.func65, Try.ntmps65
 go_wp2_with (first
  | (at_builtin; refine wpList_append_rd _ rfl _ _ 40 rfl w.heap.size 5 i0 (.int .u8 0) 1 Try.underlying40 hi hz0 hz1 hz2 rfl _ _ _ rfl (own_empty w) _ _ _ (bs.map (Value.int .u8)) rfl Hr.out.2.1 (by simpa using hlb) (Hr.out.cells hb1.out) (bytes_oneCell bs) ?c1 ?c2 ?c3 ?_)
  | fail)
 case c1 => simp; unfold maxLen; omega
 case c2 => simp; omega
 case c3 => simp
 intro v' w2 hown' hgrow
 have HO : Hid (Own w2 w.heap.size v' bs) := own_copy hlb (by simpa using hown')
 have HB : Hid (Below w.heap.size w w2) := hb1.out.grown hgrow (by simp) (fun k hk => by simp [Value.ownBlock] at hk; omega)
 clear hown' hgrow
 go_wp2
 go_ret
 exact ⟨_, rfl, HO, HB⟩

def marks (k : Nat) : List Int := (List.range k).map fun (i : Nat) => pat 7000000 (i : Int)
theorem marks_succ (k : Nat) : marks (k + 1) = marks k ++ [pat 7000000 (k : Int)] := by simp [marks, List.range_succ]
theorem marks_len (k : Nat) : (marks k).length = k := by simp [marks]

theorem own_mark {w' : World} {base k n : Nat} {v' : Value} {bs : List Int} (hn : n = bs.length + k + 1) (h : w'.ownsRow base 5 1 v' n (bs.map (Value.int .u8) ++ ((marks k).map (Value.int .u8) ++ [.int .u8 (pat 7000000 (k : Int))]))) : Own w' base v' (bs ++ marks (k + 1)) := by
 unfold Own
 rw [marks_succ]
 subst hn
 simpa [marks_len, Nat.add_assoc] using h

theorem below_push {w wr w' : World} {base : Nat} {v : Value} {bs : List Int} {o : Obj} (hbel : Below base w wr) (hb : base ≤ wr.heap.size) (ho : Own wr base v bs) (hg : (wr.alloc o).grownBy w' v.ownBlock) : Below base w w' :=
 (hbel.alloc hb o).grown hg (by simp; omega) (fun k hk => (ho.lt k hk).1)

set_option maxRecDepth 100000 in
theorem loose_any (ao : Option Addr) (len cap : Nat) (bs : List Int) (w : World) (hr : Rd w ao len cap bs) (hlen : len ≤ 140737488355264) :
  Calls Try.prog 33 #[.slice ao len cap] w fun e w' => ∃ v', e = .returned v' /\ Own w' w.heap.size v' (bs ++ marks 64) /\ Below w.heap.size w w' := by
 obtain ⟨i0, hi, hz0, hz1, hz2⟩ := info_parts info_u8
 have hb1 : Hid (Below w.heap.size w (w.alloc (.cells #[] 5))) := (Below.refl _ _).alloc (Nat.le_refl _) _
 have hlb := hr.1
 have Hr : Hid (Rd w ao len cap bs) := hr
 clear hr
 go_enter Try.func33, Try.ntmps33
 go_wp2_with (first
  | (at_builtin; refine wpList_append_rd _ rfl _ _ 40 rfl w.heap.size 5 i0 (.int .u8 0) 1 Try.underlying40 hi hz0 hz1 hz2 rfl _ _ _ rfl (own_empty w) _ _ _ (bs.map (Value.int .u8)) rfl Hr.out.2.1 (by simpa using hlb) (Hr.out.cells hb1.out) (bytes_oneCell bs) ?c1 ?c2 ?c3 ?_)
  | fail)
 case c1 => simp; unfold maxLen; omega
 case c2 => simp; omega
 case c3 => simp
 intro v' w2 hown' hgrow
 have HO : Hid (Own w2 w.heap.size v' bs) := own_copy hlb (by simpa using hown')
 have HB : Hid (Below w.heap.size w w2) := hb1.out.grown hgrow (by simp) (fun k hk => by simp [Value.ownBlock] at hk; omega)
 clear hown' hgrow
 go_wp2
 go_loopw [3, 4] (fun v i wr => ∃ k : Nat, k ≤ 64 /\ i = .int .i64 k /\ Own wr w.heap.size v (bs ++ marks k) /\ Below w.heap.size w wr) (fun _ i _ => 64 - (intOf i).toNat)
 case atStart => exact ⟨0, Nat.zero_le _, rfl, by simpa [marks] using HO.out, HB⟩
 case round =>
  obtain ⟨k, hk, rfl, ho, hbel⟩ := hrel
  have hml := marks_len k
  by_cases hlt : k < 64
  ·go_wp2_with (first
    | (go_at_call 76; refine (pat_any _ _ _ (by omega) (by omega) (by omega) (by omega)).mono ?_; rintro e w' ⟨rfl, rfl⟩)
    | (at_builtin; refine wpList_append_own _ rfl _ _ 40 rfl w.heap.size 5 i0 (.int .u8 0) 1 1 Try.underlying40 hi hz0 hz1 hz2 rfl (by decide) _ _ _ rfl (ho.alloc _) ⟨wr.heap.size, 0, none⟩ 1 1 [.int .u8 (pat 7000000 (k : Int))] rfl rfl ?d1 ?d2 ?d3 ?d4 ?d5 ?_)
    | fail)
   case d1 => exact cell_one_new _ _ _
   case d2 => intro x hx; simp at hx; subst hx; rfl
   case d3 => simp [marks_len]; unfold maxLen; omega
   case d4 => simp [marks_len]; omega
   case d5 => have := hbel.size; simp; omega
   intro v3 w3 hown3 hgrow3 _
   have HO3 : Hid (Own w3 w.heap.size v3 (bs ++ marks (k + 1))) := own_mark (by omega) hown3
   have HB3 : Hid (Below w.heap.size w w3) := below_push hbel (by have := hbel.size; omega) ho hgrow3
   clear hown3 hgrow3 ho hbel
   go_wp2
   go_roundw
   case rel => exact ⟨k + 1, by omega, by go_num, HO3, HB3⟩
   case measure => simp [intOf]; omega
  ·obtain rfl : k = 64 := by omega
   go_wp2
   go_ret
   exact ⟨_, rfl, ho, hbel⟩

set_option maxRecDepth 100000 in
theorem unspoilt_some (lb lo capl : Nat) (b off n capb : Nat) (bs : List Int) (w : World) (hn : bs.length = n) (hlen : n ≤ 140737488355264)
  (hl : ∀ i, i < n + 64 -> w.cell? ⟨lb, lo + i, none⟩ = some (.int .u8 ((bs ++ marks 64).getD i 0))) (hb : ∀ i, i < n -> w.cell? ⟨b, off + i, none⟩ = some (.int .u8 (bs.getD i 0))) :
  Calls Try.prog 42 #[.slice (some ⟨lb, lo, none⟩) (n + 64) capl, .slice (some ⟨b, off, none⟩) n capb] w fun e w' => e = .returned (.bool true) /\ Below w.heap.size w w' := by
 have hne : (((n + 64 : Nat) : Int) != (n : Int) + 64) = false := by simp
 go_enter Try.func42, Try.ntmps42
 go_wp2
 go_loopw [5] (fun i wr => ∃ k : Nat, k ≤ n /\ i = .int .i64 k /\ Below w.heap.size w wr) (fun i _ => n - (intOf i).toNat)
 case atStart => exact ⟨0, Nat.zero_le _, rfl, Below.refl _ _⟩
 case round =>
  obtain ⟨k, hk, rfl, hbel⟩ := hrel
  by_cases hlt : k < n
  ·have h1 := hl k (by omega)
   have h2 := hb k hlt
   have h1' : wr.cell? ⟨lb, lo + k, none⟩ = some (.int .u8 (bs.getD k 0)) := by
    rw [hbel.cell (World.block_lt_of_cell? w _ h1), h1]; simp [List.getD, List.getElem?_append, show k < bs.length by omega]
   have h2' : wr.cell? ⟨b, off + k, none⟩ = some (.int .u8 (bs.getD k 0)) := by rw [hbel.cell (World.block_lt_of_cell? w _ h2), h2]
   clear h1 h2 hl hb
   generalize bs.getD k 0 = x at *
   have HB : Hid (Below w.heap.size w wr) := hbel
   clear hbel
   go_wp2
   go_quiet (fail)
   go_wp2
   go_roundw
   case rel => exact ⟨k + 1, by omega, by go_num, below_drewN HB.out _⟩
   case measure => simp [intOf]; omega
  ·have HB : Hid (Below w.heap.size w wr) := hbel
   clear hbel hb
   go_wp2
   go_loopw [6] (fun i ws => ∃ k : Nat, k ≤ 64 /\ i = .int .i64 k /\ Below w.heap.size w ws) (fun i _ => 64 - (intOf i).toNat)
   case atStart => exact ⟨0, Nat.zero_le _, rfl, HB⟩
   case round =>
    obtain ⟨j, hj, rfl, hbel⟩ := hrel
    by_cases hjl : j < 64
    ·have h1 := hl (n + j) (by omega)
     have h1' : wr.cell? ⟨lb, lo + (n + j), none⟩ = some (.int .u8 (pat 7000000 (j : Int))) := by
      rw [hbel.cell (World.block_lt_of_cell? w _ h1), h1]
      have e : (bs ++ marks 64).getD (n + j) 0 = pat 7000000 (j : Int) := by
       subst hn
       simp [List.getD, marks, hjl]
      rw [e]
     clear h1 hl
     have HB2 : Hid (Below w.heap.size w wr) := hbel
     clear hbel
     go_wp2
     go_quiet ((go_at_call 76; exact Calls.quiet_of_same (pat_same _ _ _ (by omega) (by omega) (by omega) (by omega))))
     go_wp2
     go_roundw
     case rel => exact ⟨j + 1, by omega, by go_num, below_drewN HB2.out _⟩
     case measure => simp [intOf]; omega
    ·clear hl
     go_wp2
     go_ret
     exact ⟨rfl, hbel⟩

set_option maxRecDepth 100000 in
theorem unspoilt_none (lb lo capl : Nat) (ao : Option Addr) (capb : Nat) (w : World)
  (hl : ∀ i, i < 64 -> w.cell? ⟨lb, lo + i, none⟩ = some (.int .u8 ((marks 64).getD i 0))) :
  Calls Try.prog 42 #[.slice (some ⟨lb, lo, none⟩) 64 capl, .slice ao 0 capb] w fun e w' => e = .returned (.bool true) /\ Below w.heap.size w w' := by
 have HB : Hid (Below w.heap.size w w) := Below.refl _ _
 go_enter Try.func42, Try.ntmps42
 go_wp2
 refine wp_loop_rounds 1 ?_
 rw [rounds_succ]
 go_wp2
 go_loopw [6] (fun i ws => ∃ k : Nat, k ≤ 64 /\ i = .int .i64 k /\ Below w.heap.size w ws) (fun i _ => 64 - (intOf i).toNat)
 case atStart => exact ⟨0, Nat.zero_le _, rfl, HB⟩
 case round =>
  obtain ⟨j, hj, rfl, hbel⟩ := hrel
  by_cases hjl : j < 64
  ·have h1 := hl j (by omega)
   have h1' : wr.cell? ⟨lb, lo + j, none⟩ = some (.int .u8 (pat 7000000 (j : Int))) := by
    rw [hbel.cell (World.block_lt_of_cell? w _ h1), h1]
    have e : (marks 64).getD j 0 = pat 7000000 (j : Int) := by
     simp [List.getD, marks, hjl]
    rw [e]
   clear h1 hl
   have HB2 : Hid (Below w.heap.size w wr) := hbel
   clear hbel
   go_wp2
   go_quiet ((go_at_call 76; exact Calls.quiet_of_same (pat_same _ _ _ (by omega) (by omega) (by omega) (by omega))))
   go_wp2
   go_roundw
   case rel => exact ⟨j + 1, by omega, by go_num, below_drewN HB2.out _⟩
   case measure => simp [intOf]; omega
  ·clear hl
   go_wp2
   go_ret
   exact ⟨rfl, hbel⟩

theorem unspoilt_any (lb lo capl : Nat) (ao : Option Addr) (n capb : Nat) (bs : List Int) (w : World) (hr : Rd w ao n capb bs) (hlen : n ≤ 140737488355264)
  (hl : ∀ i, i < n + 64 -> w.cell? ⟨lb, lo + i, none⟩ = some (.int .u8 ((bs ++ marks 64).getD i 0))) :
  Calls Try.prog 42 #[.slice (some ⟨lb, lo, none⟩) (n + 64) capl, .slice ao n capb] w fun e w' => e = .returned (.bool true) /\ Below w.heap.size w w' := by
 obtain ⟨hn, _, hc, _⟩ := hr
 rcases hc with h0 | ⟨b, off, rfl, hc⟩
 ·subst h0
  obtain rfl : bs = [] := List.eq_nil_of_length_eq_zero hn
  have := unspoilt_none lb lo capl ao capb w (by simpa using hl)
  simpa using this
 ·exact unspoilt_some lb lo capl b off n capb bs w hn hlen hl hc

theorem Own.rdPrefix {w : World} {base g n cap : Nat} {bs ms : List Int} (h : Own w base (.slice (some ⟨g, 0, none⟩) n cap) (bs ++ ms)) (hr : ∀ i, 0 ≤ bs.getD i 0 /\ bs.getD i 0 ≤ 255) : Rd w (some ⟨g, 0, none⟩) bs.length cap bs := by
 refine ⟨rfl, by simp, .inr ⟨g, 0, rfl, fun i hi => ?_⟩, hr⟩
 have hn : n = (bs ++ ms).length := by
  rcases h.2 with ⟨h1, _⟩ | ⟨g', cap', cur, hv, _⟩
  ·simp at h1
  ·simp only [Value.slice.injEq] at hv; exact hv.2.1
 subst hn
 have := World.ownsRow.cellAt h i (by simp; omega)
 rw [Nat.zero_add, this]
 simp [List.getD, List.getElem?_append, hi]

theorem Own.cellAll {w : World} {base g n cap : Nat} {bs : List Int} (h : Own w base (.slice (some ⟨g, 0, none⟩) n cap) bs) : ∀ i, i < bs.length -> w.cell? ⟨g, 0 + i, none⟩ = some (.int .u8 (bs.getD i 0)) := by
 intro i hi
 have hn : n = bs.length := by
  rcases h.2 with ⟨h1, _⟩ | ⟨g', cap', cur, hv, _⟩
  ·simp at h1
  ·simp only [Value.slice.injEq] at hv; exact hv.2.1
 subst hn
 have := World.ownsRow.cellAt h i (by omega)
 rw [Nat.zero_add, this]
 simp [List.getD, hi]

theorem grown_below {w w1 : World} (hb : Below w.heap.size w w1) (r : Option Nat) : w.grownBy w1 r := ⟨hb.os, hb.tape, hb.output, hb.size, fun k hk _ => hb.block k hk⟩

theorem owns_below {w w1 : World} {base e size n : Nat} {v : Value} {xs : List Value} (h : w.ownsRow base e size v n xs) (hb : Below w.heap.size w w1) : w1.ownsRow base e size v n xs := by
 cases hv : v.ownBlock with
 | none => exact h.kept (grown_below hb none) (.inl hv)
 | some g => exact h.kept (grown_below hb none) (.inr (by rw [hv]; simp))

theorem Own.mono {w : World} {base base' : Nat} {v : Value} {bs : List Int} (h : Own w base v bs) (hb : base' ≤ base) : Own w base' v bs := by
 refine ⟨h.1, ?_⟩
 rcases h.2 with h | ⟨g, cap, cur, hv, hg, h⟩
 ·exact .inl h
 ·exact .inr ⟨g, cap, cur, hv, by omega, h⟩

theorem Own.rdAny {w : World} {base : Nat} {v : Value} {bs : List Int} (h : Own w base v bs) (hr : ∀ i, 0 ≤ bs.getD i 0 /\ bs.getD i 0 ≤ 255) : ∃ ao cap, v = .slice ao bs.length cap /\ Rd w ao bs.length cap bs := by
 rcases h.2 with ⟨h1, h2⟩ | ⟨g, cap', cur, hv, _⟩
 ·refine ⟨none, 0, by rw [h2]; exact h1, rfl, fun _ => ⟨h2, rfl⟩, .inl h2, hr⟩
 ·subst hv
  have h' : Own w base (.slice (some ⟨g, 0, none⟩) bs.length cap') (bs ++ []) := by simpa using h
  exact ⟨_, _, rfl, h'.rdPrefix hr⟩

end Go.Proofs.Ythanifbimndhaaa.Lo
namespace Go.Proofs.Ythanifbimndhaaa.Bk
set_option maxHeartbeats 40000000
open Go.RowKit Lo
set_option linter.unusedVariables false

def pats (id : Int) (n : Nat) : List Int := (List.range n).map fun (i : Nat) => pat id (i : Int)
theorem pats_len (id : Int) (n : Nat) : (pats id n).length = n := by simp [pats]
theorem pats_succ (id : Int) (n : Nat) : pats id (n + 1) = pats id n ++ [pat id (n : Int)] := by simp [pats, List.range_succ]
theorem pats_get (id : Int) (n i : Nat) (h : i < n) : (pats id n).getD i 0 = pat id (i : Int) := by simp [pats, List.getD, h]
theorem pats_range (id : Int) (n : Nat) : ∀ i, 0 ≤ (pats id n).getD i 0 /\ (pats id n).getD i 0 ≤ 255 := by
 intro i
 by_cases h : i < n
 ·rw [pats_get id n i h]; exact pat_range _ _
 ·have e : (pats id n).getD i 0 = 0 := by simp only [List.getD]; rw [List.getElem?_eq_none (by rw [pats_len]; omega)]; rfl
  rw [e]; omega

structure Kept (w w' : World) (P : Nat -> Prop) : Prop where
 os : w'.os = w.os
 tape : w'.tape = w.tape
 output : w'.output = w.output
 size : w.heap.size ≤ w'.heap.size
 block : ∀ k, k < w.heap.size -> ¬ P k -> w'.heap[k]? = w.heap[k]?

theorem Kept.refl (w : World) (P : Nat -> Prop) : Kept w w P := ⟨rfl, rfl, rfl, Nat.le_refl _, fun _ _ _ => rfl⟩
theorem Kept.trans {a b c : World} {P : Nat -> Prop} (h : Kept a b P) (k : Kept b c P) : Kept a c P :=
 ⟨k.os.trans h.os, k.tape.trans h.tape, k.output.trans h.output, Nat.le_trans h.size k.size, fun i hi hp => (k.block i (Nat.lt_of_lt_of_le hi h.size) hp).trans (h.block i hi hp)⟩
theorem Kept.drew {a b : World} {P : Nat -> Prop} (h : Kept a b P) : Kept a b.drew P := ⟨h.os, h.tape, h.output, h.size, h.block⟩
theorem Kept.mono {a b : World} {P Q : Nat -> Prop} (h : Kept a b P) (hq : ∀ k, k < a.heap.size -> P k -> Q k) : Kept a b Q :=
 ⟨h.os, h.tape, h.output, h.size, fun i hi hp => h.block i hi (fun hP => hp (hq i hi hP))⟩
theorem Kept.ofGrown {a b : World} {r : Option Nat} (h : a.grownBy b r) : Kept a b (fun k => some k = r) := ⟨h.os, h.tape, h.output, h.size, fun i hi hp => h.block i hi hp⟩
theorem Kept.ofBelow {a b : World} (h : Below a.heap.size a b) (P : Nat -> Prop) : Kept a b P := ⟨h.os, h.tape, h.output, h.size, fun i hi _ => h.block i hi⟩
theorem Kept.owns {a b : World} {P : Nat -> Prop} {base e size n : Nat} {v : Value} {xs : List Value} (h : Kept a b P) (ho : a.ownsRow base e size v n xs) (hp : ∀ k, v.ownBlock = some k -> ¬ P k) : b.ownsRow base e size v n xs := by
 refine ⟨ho.1, ?_⟩
 have hlt := ho.lt
 rcases ho.2 with h1 | ⟨g, cap, cur, hv, hg, hh, hr⟩
 ·exact .inl h1
 ·subst hv
  exact .inr ⟨g, cap, cur, rfl, hg, (h.block g (hlt g rfl).2 (hp g rfl)).trans hh, hr⟩

theorem cell_block {w : World} {g j : Nat} {cur : Array Value} {t : TypeId} {fz : Nat × Nat} (h : w.heap[g]? = some (.cells cur t fz)) : w.cell? ⟨g, j, none⟩ = cur[j]? := cell_of_row w g j cur t fz h

theorem lt_heap {w : World} {k : Nat} {o : Obj} (h : w.heap[k]? = some o) : k < w.heap.size := by
 rcases Array.getElem?_eq_some_iff.1 h with ⟨h, _⟩; exact h

theorem own_notType {w : World} {base pb : Nat} {v : Value} {bs : List Int} {cur : Array Value} {t : TypeId} {fz : Nat × Nat} (h : Own w base v bs) (hp : w.heap[pb]? = some (.cells cur t fz)) (ht : t ≠ 5) : some pb ≠ v.ownBlock := by
 intro e
 rcases h.2 with ⟨rfl, _⟩ | ⟨g, cap, c2, rfl, _, hg, _⟩
 ·simp [Value.ownBlock] at e
 ·simp [Value.ownBlock] at e
  subst e
  rw [hg] at hp
  simp at hp
  exact ht hp.2.1.symm

def fillTo (id : Int) (k : Nat) (bs : List Int) : List Int := pats id k ++ bs.drop k
theorem fillTo_len (id : Int) (k : Nat) (bs : List Int) (h : k ≤ bs.length) : (fillTo id k bs).length = bs.length := by simp [fillTo, pats_len]; omega
theorem fillTo_all (id : Int) (bs : List Int) : fillTo id bs.length bs = pats id bs.length := by simp [fillTo]
theorem fillTo_set (id : Int) (k : Nat) (bs : List Int) (h : k < bs.length) : (fillTo id k bs).set k (pat id (k : Int)) = fillTo id (k + 1) bs := by
 apply List.ext_getElem
 ·rw [List.length_set, fillTo_len _ _ _ (by omega), fillTo_len _ _ _ (by omega)]
 ·intro i h1 h2
  rw [List.getElem_set]
  have hl : i < bs.length := by rw [fillTo_len _ _ _ (by omega)] at h2; exact h2
  by_cases e : k = i
  ·subst e
   rw [if_pos rfl]
   have : (fillTo id (k + 1) bs)[k]? = some (pat id (k : Int)) := by
    unfold fillTo
    rw [List.getElem?_append_left (by rw [pats_len]; omega)]
    simp [pats]
   rw [List.getElem?_eq_getElem h2] at this
   exact (Option.some.inj this).symm
  ·rw [if_neg e]
   have e1 : (fillTo id k bs)[i]? = (fillTo id (k + 1) bs)[i]? := by
    unfold fillTo
    by_cases hi : i < k
    ·rw [List.getElem?_append_left (by rw [pats_len]; omega), List.getElem?_append_left (by rw [pats_len]; omega)]
     simp [pats, hi, show i < k + 1 by omega]
    ·rw [List.getElem?_append_right (by rw [pats_len]; omega), List.getElem?_append_right (by rw [pats_len]; omega), pats_len, pats_len, List.getElem?_drop, List.getElem?_drop]
     congr 1
     omega
   rw [List.getElem?_eq_getElem (by rw [fillTo_len _ _ _ (by omega)]; exact hl), List.getElem?_eq_getElem h2] at e1
   exact Option.some.inj e1

theorem fill_store {w wr : World} {base g cap k : Nat} {id : Int} {bs : List Int} (h : Own wr base (.slice (some ⟨g, 0, none⟩) bs.length cap) (fillTo id k bs)) (hk : k < bs.length) (hg : Kept w wr (fun j => some j = some g)) :
  Own (wr.setCell ⟨g, k, none⟩ (.int .u8 (pat id (k : Int)))) base (.slice (some ⟨g, 0, none⟩) bs.length cap) (fillTo id (k + 1) bs) /\ Kept w (wr.setCell ⟨g, k, none⟩ (.int .u8 (pat id (k : Int)))) (fun j => some j = some g) /\ (∀ j, j ≠ g -> (wr.setCell ⟨g, k, none⟩ (.int .u8 (pat id (k : Int)))).heap[j]? = wr.heap[j]?) := by
 have hl := fillTo_len id k bs (by omega)
 have hl2 := fillTo_len id (k + 1) bs (by omega)
 have h' : wr.ownsRow base 5 1 (.slice (some ⟨g, 0, none⟩) bs.length cap) bs.length ((fillTo id k bs).map (Value.int .u8)) := by
  have := h; unfold Own at this; rw [hl] at this; exact this
 have hs := World.ownsRow.stored h' k (.int .u8 (pat id (k : Int)))
 refine ⟨?_, hg.trans (Kept.ofGrown hs.2), fun j hj => ?_⟩
 ·unfold Own
  rw [hl2]
  have e : ((fillTo id k bs).map (Value.int .u8)).set k (.int .u8 (pat id (k : Int))) = (fillTo id (k + 1) bs).map (Value.int .u8) := by
   rw [<- List.map_set, fillTo_set id k bs hk]
  have hs1 := hs.1
  rw [e] at hs1
  exact hs1
 ·exact Below.heap_setCell wr ⟨g, k, none⟩ _ j hj

theorem fill_end {w wr : World} {base g cap pb po : Nat} {id : Int} {bs : List Int} {cur : Array Value} {t : TypeId} {v : Value} (ho : Own wr base (.slice (some ⟨g, 0, none⟩) bs.length cap) (fillTo id bs.length bs)) (hk : Kept w wr (fun j => some j = some g)) (hp : wr.heap[pb]? = some (.cells cur t (0, 0))) (hne : pb ≠ g) :
  Own (wr.setCell ⟨pb, po, none⟩ v) base (.slice (some ⟨g, 0, none⟩) bs.length cap) (pats id bs.length) /\ (wr.setCell ⟨pb, po, none⟩ v).heap[pb]? = some (.cells (cur.setIfInBounds po v) t (0, 0)) /\ Kept w (wr.setCell ⟨pb, po, none⟩ v) (fun j => j = pb ∨ some j = some g) := by
 have hs : Kept wr (wr.setCell ⟨pb, po, none⟩ v) (fun j => j = pb) := ⟨rfl, rfl, rfl, by simp, fun j hj hp => Below.heap_setCell wr ⟨pb, po, none⟩ v j hp⟩
 rw [fillTo_all] at ho
 refine ⟨hs.owns ho (fun k hk => by simp [Value.ownBlock] at hk; omega), heap_setCell_same wr pb po cur t v hp, (hk.mono (fun _ _ h => .inr h)).trans (hs.mono (fun _ _ h => .inl h))⟩

set_option maxRecDepth 100000 in
theorem fill_some (pb po : Nat) (cur : Array Value) (g cap base : Nat) (bs : List Int) (id : Int) (dn : Bool) (w : World) (hB : Own w base (.slice (some ⟨g, 0, none⟩) bs.length cap) bs) (hp : w.heap[pb]? = some (.cells cur 89 (0, 0)))
  (c0 : cur[po]? = some (.slice (some ⟨g, 0, none⟩) bs.length cap)) (c3 : cur[po + 3]? = some (.int .i64 id)) (c4 : cur[po + 4]? = some (.bool dn)) (h0 : 0 ≤ id) (h1 : id ≤ 10000000) (hlen : bs.length ≤ 140737488355328) :
  Calls Try.prog 56 #[.pointer (some ⟨pb, po, none⟩)] w fun e w' => e = .returned (.tuple #[]) /\ Own w' base (.slice (some ⟨g, 0, none⟩) bs.length cap) (pats id bs.length) /\ w'.heap[pb]? = some (.cells (cur.setIfInBounds (po + 4) (.bool true)) 89 (0, 0)) /\ Kept w w' (fun j => j = pb ∨ some j = some g) := by
 have hne : pb ≠ g := fun e => by
  have := own_notType hB hp (by decide)
  simp [Value.ownBlock] at this
  exact this e
 go_enter Try.func56, Try.ntmps56
 go_wp2
 go_loopw [2] (fun i wr => ∃ k : Nat, k ≤ bs.length /\ i = .int .i64 k /\ Own wr base (.slice (some ⟨g, 0, none⟩) bs.length cap) (fillTo id k bs) /\ Kept w wr (fun j => some j = some g)) (fun i _ => bs.length - (intOf i).toNat)
 case atStart => exact ⟨0, Nat.zero_le _, rfl, by simpa [fillTo, pats] using hB, Kept.refl _ _⟩
 case round =>
  obtain ⟨k, hk, rfl, ho, hkp⟩ := hrel
  have hpb : wr.heap[pb]? = some (.cells cur 89 (0, 0)) := (hkp.block pb (lt_heap hp) (by simp; omega)).trans hp
  have d0 : wr.cell? ⟨pb, po, none⟩ = some (.slice (some ⟨g, 0, none⟩) bs.length cap) := (cell_block hpb).trans c0
  have d3 : wr.cell? ⟨pb, po + 3, none⟩ = some (.int .i64 id) := (cell_block hpb).trans c3
  by_cases hlt : k < bs.length
  ·have hfl := fillTo_len id k bs (by omega)
   have hcell := ho.cellAll k (by omega)
   have hfz : wr.frozen? ⟨g, k, none⟩ = false := by
    have ho' := ho
    unfold Own at ho'
    rw [hfl] at ho'
    exact World.ownsRow.frozenAt ho' k
   rw [Nat.zero_add] at hcell
   have HT := fill_store ho hlt hkp
   have HT' : Hid (Own (wr.setCell ⟨g, k, none⟩ (.int .u8 (pat id (k : Int)))) base (.slice (some ⟨g, 0, none⟩) bs.length cap) (fillTo id (k + 1) bs) /\ Kept w (wr.setCell ⟨g, k, none⟩ (.int .u8 (pat id (k : Int)))) (fun j => some j = some g)) := ⟨HT.1, HT.2.1⟩
   clear HT ho hkp hpb hB c0 c3 c4 hp
   generalize (fillTo id k bs).getD k 0 = x at *
   have i1 : (0 : Int) ≤ (k : Int) := Int.natCast_nonneg _
   have i2 : (k : Int) < (bs.length : Int) := by omega
   have s0 : ∀ v, (wr.setCell ⟨g, k, none⟩ v).cell? ⟨pb, po, none⟩ = some (.slice (some ⟨g, 0, none⟩) bs.length cap) := fun v => (World.cell?_setCell_other wr ⟨g, k, none⟩ ⟨pb, po, none⟩ v (by intro e; simp at e)).trans d0
   have s3 : ∀ v, (wr.setCell ⟨g, k, none⟩ v).cell? ⟨pb, po + 3, none⟩ = some (.int .i64 id) := fun v => (World.cell?_setCell_other wr ⟨g, k, none⟩ ⟨pb, po + 3, none⟩ v (by intro e; simp at e)).trans d3
   go_wp2_with fail
   go_region_held3 (fun w' => w'.cell? ⟨pb, po, none⟩ = some (.slice (some ⟨g, 0, none⟩) bs.length cap) /\ w'.cell? ⟨pb, po + 3, none⟩ = some (.int .i64 id)) (go_keep)
    ((go_at_call 76; refine (pat_any _ _ _ h0 h1 i1 (by omega)).mono ?_; rintro e w' ⟨rfl, rfl⟩))
   clear s0 s3 d0 d3 hcell hfz
   go_wp2
   go_roundw
   case rel => exact ⟨k + 1, by omega, by go_num, HT'.out.1, HT'.out.2.drew⟩
   case measure => simp [intOf]; omega
  ·obtain rfl : k = bs.length := by omega
   have d4 : wr.cell? ⟨pb, po + 4, none⟩ = some (.bool dn) := (cell_block hpb).trans c4
   have hfz : wr.frozen? ⟨pb, po + 4, none⟩ = false := frozen_of_row wr pb (po + 4) cur 89 hpb
   have HR : Hid (Own (wr.setCell ⟨pb, po + 4, none⟩ (.bool true)) base (.slice (some ⟨g, 0, none⟩) bs.length cap) (pats id bs.length) /\ (wr.setCell ⟨pb, po + 4, none⟩ (.bool true)).heap[pb]? = some (.cells (cur.setIfInBounds (po + 4) (.bool true)) 89 (0, 0)) /\ Kept w (wr.setCell ⟨pb, po + 4, none⟩ (.bool true)) (fun j => j = pb ∨ some j = some g)) := fill_end ho hkp hpb hne
   clear ho hkp hB hp hpb d3
   go_wp2
   go_end0
   exact ⟨rfl, HR.out⟩

theorem fill_none (pb po : Nat) (cur : Array Value) (id : Int) (dn : Bool) (w : World) (hp : w.heap[pb]? = some (.cells cur 89 (0, 0)))
  (c0 : cur[po]? = some (.slice none 0 0)) (c4 : cur[po + 4]? = some (.bool dn)) :
  Calls Try.prog 56 #[.pointer (some ⟨pb, po, none⟩)] w fun e w' => e = .returned (.tuple #[]) /\ w'.heap[pb]? = some (.cells (cur.setIfInBounds (po + 4) (.bool true)) 89 (0, 0)) /\ Kept w w' (fun j => j = pb) := by
 have d0 : w.cell? ⟨pb, po, none⟩ = some (.slice none 0 0) := (cell_block hp).trans c0
 have d4 : w.cell? ⟨pb, po + 4, none⟩ = some (.bool dn) := (cell_block hp).trans c4
 have hfz : w.frozen? ⟨pb, po + 4, none⟩ = false := frozen_of_row w pb (po + 4) cur 89 hp
 have HR : Hid ((w.setCell ⟨pb, po + 4, none⟩ (.bool true)).heap[pb]? = some (.cells (cur.setIfInBounds (po + 4) (.bool true)) 89 (0, 0)) /\ Kept w (w.setCell ⟨pb, po + 4, none⟩ (.bool true)) (fun j => j = pb)) :=
  ⟨heap_setCell_same w pb (po + 4) cur 89 _ hp, ⟨rfl, rfl, rfl, by simp, fun j hj hq => Below.heap_setCell w ⟨pb, po + 4, none⟩ _ j hq⟩⟩
 clear hp
 go_enter Try.func56, Try.ntmps56
 go_wp2
 refine wp_loop_rounds 1 ?_
 rw [rounds_succ]
 go_wp2
 go_end0
 exact ⟨rfl, HR.out⟩

theorem fill_any (pb po : Nat) (cur : Array Value) (B : Value) (base : Nat) (bs : List Int) (id : Int) (dn : Bool) (w : World) (hB : Own w base B bs) (hp : w.heap[pb]? = some (.cells cur 89 (0, 0)))
  (c0 : cur[po]? = some B) (c3 : cur[po + 3]? = some (.int .i64 id)) (c4 : cur[po + 4]? = some (.bool dn)) (h0 : 0 ≤ id) (h1 : id ≤ 10000000) (hlen : bs.length ≤ 140737488355328) :
  Calls Try.prog 56 #[.pointer (some ⟨pb, po, none⟩)] w fun e w' => e = .returned (.tuple #[]) /\ Own w' base B (pats id bs.length) /\ w'.heap[pb]? = some (.cells (cur.setIfInBounds (po + 4) (.bool true)) 89 (0, 0)) /\ Kept w w' (fun j => j = pb ∨ some j = B.ownBlock) := by
 have hB2 := hB.2
 rcases hB2 with ⟨rfl, h2⟩ | ⟨g, cap, c2, rfl, _⟩
 ·obtain rfl : bs = [] := List.eq_nil_of_length_eq_zero h2
  refine (fill_none pb po cur id dn w hp c0 c4).mono fun e w' h => ⟨h.1, World.ownsRow_nil _ _ _ _, h.2.1, h.2.2.mono (fun _ _ h => .inl h)⟩
 ·exact fill_some pb po cur g cap base bs id dn w hB hp c0 c3 c4 h0 h1 hlen

theorem owns_prefix {w : World} {base e g cap n m : Nat} {xs ys : List Value} (h : w.ownsRow base e 1 (.slice (some ⟨g, 0, none⟩) (n + m) cap) (n + m) (xs ++ ys)) (hx : xs.length = n) : w.ownsRow base e 1 (.slice (some ⟨g, 0, none⟩) n cap) n xs := by
 refine ⟨by omega, ?_⟩
 rcases h.2 with ⟨h1, _⟩ | ⟨g', cap', cur, hv, hb, hg, hn, hc, hs, ht⟩
 ·simp at h1
 ·simp only [Value.slice.injEq, Option.some.injEq, Addr.mk.injEq, and_true, true_and] at hv
  obtain ⟨rfl, rfl⟩ := hv
  refine .inr ⟨g, cap, cur, rfl, hb, hg, by omega, hc, hs, ?_⟩
  have : cur.toList.take (n * 1) = (cur.toList.take ((n + m) * 1)).take (n * 1) := by rw [List.take_take]; congr 1; omega
  rw [this, ht, List.take_append_of_le_length (by omega), List.take_of_length_le (by omega)]

theorem wpList_append_keep {P : Program} (w : World) {ops : Array Oper} {rest : List Oper} {o : Oper} {a : Act} {Q : Exit -> Act -> World -> Prop} (hgd : o.guard = none) (s x : Operand) (t : TypeId)
  (ho : o.op = Op.call { callee := Callee.builtin Builtin.append, args := #[s, x], argTypes := #[t, t] })
  (base : Nat) (e : TypeId) (i : TypeInfo) (z : Value) (bytes : Nat) (ht : P.underlying t = some (.slice e)) (hi : P.info? e = some i) (hz : i.zero = some z)
  (hsize : i.size = 1) (hby : i.bytes = bytes) (hzs : z.cells.size = 1)
  (v : Value) (n : Nat) (xs : List Value) (hs : a.eval s = v) (hown : w.ownsRow base e 1 v n xs)
  (ad : Addr) (m c : Nat) (news : List Value) (hx : a.eval x = .slice (some ad) m c) (hl : news.length = m) (hnews : ∀ j u, news[j]? = some u -> w.cell? (ad.add j) = some u) (h1 : ∀ u ∈ news, u.oneCell' = true) (hm : 0 < m)
  (h63 : n + m ≤ maxLen) (hbytes : (n + m) * bytes ≤ 140737488355328) (hbase : base ≤ w.heap.size)
  (h : ∀ v' w', w'.ownsRow base e 1 v' (n + m) (xs ++ news) -> w'.ownsRow base e 1 v n xs -> Kept w w' (fun j => some j = v.ownBlock) -> (v'.ownBlock = v.ownBlock ∨ ∃ g', v'.ownBlock = some g' /\ w.heap.size ≤ g') -> wpList P ops Q rest (a.put o.dst v') w') : wpList P ops Q (o :: rest) a w := by
 have hx1 : xs.length = n := by have := hown.1; omega
 have big : ∀ v' w', w'.ownsRow w.heap.size e 1 v' (n + m) (xs ++ news) -> w.grownBy w' none -> w'.ownsRow base e 1 v' (n + m) (xs ++ news) /\ w'.ownsRow base e 1 v n xs /\ Kept w w' (fun j => some j = v.ownBlock) /\ (v'.ownBlock = v.ownBlock ∨ ∃ g', v'.ownBlock = some g' /\ w.heap.size ≤ g') := by
  intro v' w' h2 h3
  have hk : Kept w w' (fun _ => False) := ⟨h3.os, h3.tape, h3.output, h3.size, fun i hi _ => h3.block i hi (by simp)⟩
  refine ⟨?_, hk.owns hown (fun _ _ h => h), hk.mono (fun _ _ h => h.elim), ?_⟩
  ·refine ⟨h2.1, ?_⟩
   rcases h2.2 with h | ⟨g, cap, cur, hv, hg, h⟩
   ·exact .inl h
   ·exact .inr ⟨g, cap, cur, hv, by omega, h⟩
  ·rcases h2.2 with ⟨_, h⟩ | ⟨g, cap, cur, hv, hg, h⟩
   ·omega
   ·exact .inr ⟨g, by rw [hv]; rfl, hg⟩
 rcases hown.2 with ⟨rfl, rfl⟩ | ⟨g, cap, cur, rfl, hbg, hg, hnc, hcm, hcs, htake⟩
 ·refine wpList_append_grows w hgd s x t ho e i z 1 bytes ht hi hz hsize hby hzs (by decide) none 0 0 xs hs (fun _ => ⟨rfl, rfl⟩) (by omega) (fun b hb => by cases hb) ad m c news hx (by omega) hnews h1 (by omega) h63 hbytes fun v' w' h2 h3 => ?_
  have := big v' w' h2 h3
  exact h v' w' this.1 this.2.1 this.2.2.1 this.2.2.2
 ·by_cases hroom : n + m ≤ cap
  ·refine wpList_append_fits w hgd s x t ho base e i 1 ht hi hsize g n cap xs hs hown ad m c news hx (by omega) hnews h1 hroom fun w' h2 h3 => ?_
   exact h _ w' h2 (owns_prefix h2 hx1) (Kept.ofGrown h3) (.inl rfl)
  ·refine wpList_append_grows w hgd s x t ho e i z 1 bytes ht hi hz hsize hby hzs (by decide) (some ⟨g, 0, none⟩) n cap xs hs (by simp) (by omega) (fun b hb => by obtain rfl := Option.some.inj hb; exact hown.cells rfl) ad m c news hx (by omega) hnews h1 (by omega) h63 hbytes fun v' w' h2 h3 => ?_
   have := big v' w' h2 h3
   exact h v' w' this.1 this.2.1 this.2.2.1 this.2.2.2

theorem own_pats {w' : World} {base k n : Nat} {v' : Value} {id : Int} (hn : n = k + 1) (h : w'.ownsRow base 5 1 v' n ((pats id k).map (Value.int .u8) ++ [.int .u8 (pat id (k : Int))])) : Own w' base v' (pats id (k + 1)) := by
 unfold Own
 rw [pats_succ]
 subst hn
 simpa [pats_len] using h

theorem grow_end {w w3 : World} {pb po base : Nat} {cur : Array Value} {B G : Value} {bs gs : List Int} {t : TypeId} (hB : Own w3 base B bs) (hG : Own w3 base G gs) (hp : w3.heap[pb]? = some (.cells cur t (0, 0))) (hk : Kept w w3 (fun j => some j = B.ownBlock)) (ht : t ≠ 5) (v : Value) :
  Own (w3.setCell ⟨pb, po, none⟩ v) base B bs /\ Own (w3.setCell ⟨pb, po, none⟩ v) base G gs /\ (w3.setCell ⟨pb, po, none⟩ v).heap[pb]? = some (.cells (cur.setIfInBounds po v) t (0, 0)) /\ Kept w (w3.setCell ⟨pb, po, none⟩ v) (fun j => j = pb ∨ some j = B.ownBlock) := by
 have hs : Kept w3 (w3.setCell ⟨pb, po, none⟩ v) (fun j => j = pb) := ⟨rfl, rfl, rfl, by simp, fun j hj hp => Below.heap_setCell w3 ⟨pb, po, none⟩ v j hp⟩
 refine ⟨hs.owns hB (fun k hk e => own_notType hB hp ht (by rw [<- e, hk])), hs.owns hG (fun k hk e => own_notType hG hp ht (by rw [<- e, hk])), heap_setCell_same w3 pb po cur t v hp, (hk.mono (fun _ _ h => .inr h)).trans (hs.mono (fun _ _ h => .inl h))⟩

set_option maxRecDepth 100000 in
theorem grow_any (pb po : Nat) (cur : Array Value) (B : Value) (base : Nat) (bs : List Int) (id : Int) (G0 : Value) (w : World) (hB : Own w base B bs) (hb : base ≤ w.heap.size) (hp : w.heap[pb]? = some (.cells cur 89 (0, 0)))
  (c0 : cur[po]? = some B) (c1 : cur[po + 1]? = some G0) (c3 : cur[po + 3]? = some (.int .i64 id)) (h0 : 0 ≤ id) (h1 : id ≤ 1000000) (hlen : bs.length ≤ 140737488355264) :
  Calls Try.prog 58 #[.pointer (some ⟨pb, po, none⟩)] w fun e w' => e = .returned (.tuple #[]) /\ ∃ G, Own w' base B bs /\ Own w' base G (bs ++ pats (id + 100000) 64) /\ w'.heap[pb]? = some (.cells (cur.setIfInBounds (po + 1) G) 89 (0, 0)) /\ Kept w w' (fun j => j = pb ∨ some j = B.ownBlock) /\ (G.ownBlock = B.ownBlock ∨ ∃ g', G.ownBlock = some g' /\ w.heap.size ≤ g') := by
 obtain ⟨i0, hi, hz0, hz1, hz2⟩ := info_parts info_u8
 have HB : Hid (Own w base B bs) := hB
 have HP : Hid (w.heap[pb]? = some (.cells cur 89 (0, 0))) := hp
 have HC0 : Hid (cur[po]? = some B) := c0
 have HC1 : Hid (cur[po + 1]? = some G0) := c1
 have HC3 : Hid (cur[po + 3]? = some (.int .i64 id)) := c3
 clear hB hp c0 c1 c3
 go_enter Try.func58, Try.ntmps58
 go_wp2
 go_loopw [2, 3] (fun v i wr => ∃ k : Nat, k ≤ 64 /\ i = .int .i64 k /\ Own wr w.heap.size v (pats (id + 100000) k) /\ Below w.heap.size w wr) (fun _ i _ => 64 - (intOf i).toNat)
 case atStart => exact ⟨0, Nat.zero_le _, rfl, World.ownsRow_nil _ _ _ _, Below.refl _ _⟩
 case round =>
  obtain ⟨k, hk, rfl, ho, hbel⟩ := hrel
  have hml := pats_len (id + 100000) k
  have hpb : wr.heap[pb]? = some (.cells cur 89 (0, 0)) := (hbel.block pb (lt_heap HP.out)).trans HP.out
  by_cases hlt : k < 64
  ·have d3 : wr.cell? ⟨pb, po + 3, none⟩ = some (.int .i64 id) := (cell_block hpb).trans HC3.out
   clear hpb
   go_wp2_with (first
    | (go_at_call 76; refine (pat_any _ _ _ (by omega) (by omega) (by omega) (by omega)).mono ?_; rintro e w' ⟨rfl, rfl⟩)
    | (at_builtin; refine wpList_append_own _ rfl _ _ 40 rfl w.heap.size 5 i0 (.int .u8 0) 1 1 Try.underlying40 hi hz0 hz1 hz2 rfl (by decide) _ _ _ rfl (ho.alloc _) ⟨wr.heap.size, 0, none⟩ 1 1 [.int .u8 (pat (id + 100000) (k : Int))] rfl rfl ?d1 ?d2 ?d3 ?d4 ?d5 ?_)
    | fail)
   case d1 => exact cell_one_new _ _ _
   case d2 => intro x hx; simp at hx; subst hx; rfl
   case d3 => rw [hml]; unfold maxLen; omega
   case d4 => rw [hml]; omega
   case d5 => have := hbel.size; simp; omega
   intro v3 w3 hown3 hgrow3 _
   have HO3 : Hid (Own w3 w.heap.size v3 (pats (id + 100000) (k + 1))) := own_pats (by omega) hown3
   have HB3 : Hid (Below w.heap.size w w3) := below_push hbel (by have := hbel.size; omega) ho hgrow3
   clear hown3 hgrow3 ho hbel
   go_wp2
   go_roundw
   case rel => exact ⟨k + 1, by omega, by go_num, HO3, HB3⟩
   case measure => simp [intOf]; omega
  ·obtain rfl : k = 64 := by omega
   obtain ⟨at', ct, rfl, hrt⟩ := ho.rdAny (pats_range _ _)
   rw [pats_len] at hrt ⊢
   have d0 : wr.cell? ⟨pb, po, none⟩ = some B := (cell_block hpb).trans HC0.out
   have hBr : Own wr base B bs := owns_below HB.out hbel
   rcases hrt.2.2.1 with h | ⟨tb, to', rfl, hct⟩
   ·omega
   have Hnews : Hid (∀ j v, ((pats (id + 100000) 64).map (Value.int .u8))[j]? = some v -> wr.cell? ((⟨tb, to', none⟩ : Addr).add j) = some v) := hrt.cells (Below.refl _ _) _ rfl
   have HBr : Hid (Own wr base B bs) := hBr
   have Hpb : Hid (wr.heap[pb]? = some (.cells cur 89 (0, 0))) := hpb
   have Hbel : Hid (Below w.heap.size w wr) := hbel
   have hsz := hbel.size
   clear hBr hpb hbel ho hrt hct hml
   go_wp2_with (first
    | (at_builtin; refine wpList_append_keep _ rfl _ _ 40 rfl base 5 i0 (.int .u8 0) 1 Try.underlying40 hi hz0 hz1 hz2 rfl _ _ _ rfl HBr.out _ _ _ ((pats (id + 100000) 64).map (Value.int .u8)) rfl (by simp [pats_len]) Hnews.out (bytes_oneCell _) (by decide) ?e1 ?e2 ?e3 ?_)
    | fail)
   case e1 => unfold maxLen; omega
   case e2 => omega
   case e3 => omega
   intro v3 w3 hG hB3 hk3 hloc
   have hpb3 : w3.heap[pb]? = some (.cells cur 89 (0, 0)) := (hk3.block pb (lt_heap Hpb.out) (own_notType HBr.out Hpb.out (by decide))).trans Hpb.out
   have hG3 : Own w3 base v3 (bs ++ pats (id + 100000) 64) := by
    have h := hG
    unfold Own
    simpa [pats_len] using h
   have HE := grow_end (po := po + 1) hB3 hG3 hpb3 ((Kept.ofBelow Hbel.out _).trans hk3) (by decide) v3
   have HE' : Hid (Own (w3.setCell ⟨pb, po + 1, none⟩ v3) base B bs /\ Own (w3.setCell ⟨pb, po + 1, none⟩ v3) base v3 (bs ++ pats (id + 100000) 64) /\ (w3.setCell ⟨pb, po + 1, none⟩ v3).heap[pb]? = some (.cells (cur.setIfInBounds (po + 1) v3) 89 (0, 0)) /\ Kept w (w3.setCell ⟨pb, po + 1, none⟩ v3) (fun j => j = pb ∨ some j = B.ownBlock)) := HE
   have d1 : w3.cell? ⟨pb, po + 1, none⟩ = some G0 := (cell_block hpb3).trans HC1.out
   have hfz : w3.frozen? ⟨pb, po + 1, none⟩ = false := frozen_of_row w3 pb (po + 1) cur 89 hpb3
   have hsl : ∃ a3 c3, v3 = .slice a3 (bs.length + 64) c3 := by
    rcases hG.2 with ⟨_, h⟩ | ⟨g, cap, c2, hv, _⟩
    ·omega
    ·exact ⟨_, _, hv⟩
   have Hloc : Hid (v3.ownBlock = B.ownBlock ∨ ∃ g', v3.ownBlock = some g' /\ w.heap.size ≤ g') := by
    rcases hloc with h | ⟨g', h, h'⟩
    ·exact .inl h
    ·exact .inr ⟨g', h, by omega⟩
   clear HE hG hB3 hk3 hpb3 hG3 hloc
   obtain ⟨a3, c3, hv3⟩ := hsl
   rw [hv3] at HE' Hloc ⊢
   clear hv3
   go_wp2
   go_end0
   exact ⟨rfl, _, HE'.out.1, HE'.out.2.1, HE'.out.2.2.1, HE'.out.2.2.2, Hloc⟩

end Go.Proofs.Ythanifbimndhaaa.Bk
namespace Go.Proofs.Ythanifbimndhaaa.Bk
set_option maxHeartbeats 40000000
open Go.RowKit Lo
set_option linter.unusedVariables false

set_option maxRecDepth 100000 in
theorem shows_fresh_some (bb bo cB vb vo cV n : Nat) (G : Value) (id : Int) (bs : List Int) (w : World) (hlen : n ≤ 140737488355328)
  (hb : ∀ i, i < n -> w.cell? ⟨bb, bo + i, none⟩ = some (.int .u8 (bs.getD i 0))) (hv : ∀ i, i < n -> w.cell? ⟨vb, vo + i, none⟩ = some (.int .u8 (bs.getD i 0))) :
  Calls Try.prog 74 #[.agg #[.slice (some ⟨bb, bo, none⟩) n cB, G, .slice (some ⟨vb, vo, none⟩) n cV, .int .i64 id, .bool false]] w fun e w' => e = .returned (.bool true) /\ Below w.heap.size w w' := by
 have hne : ((n : Int) != (n : Int)) = false := by simp
 go_enter Try.func74, Try.ntmps74
 go_wp2
 go_loopw [4] (fun i wr => ∃ k : Nat, k ≤ n /\ i = .int .i64 k /\ Below (w.heap.size + 1) (w.alloc (.cells #[.slice (some ⟨bb, bo, none⟩) n cB, G, .slice (some ⟨vb, vo, none⟩) n cV, .int .i64 id, .bool false] 89)) wr) (fun i _ => n - (intOf i).toNat)
 case atStart => exact ⟨0, Nat.zero_le _, rfl, Below.refl _ _⟩
 case round =>
  obtain ⟨k, hk, rfl, hbel⟩ := hrel
  have hb0 : Below w.heap.size w wr := ((Below.refl _ _).alloc (Nat.le_refl _) _).trans (hbel.mono (by omega))
  by_cases hlt : k < n
  ·have g1 := hb k hlt
   have g2 := hv k hlt
   have e1 := (hb0.cell (World.block_lt_of_cell? w _ g1)).trans g1
   have e2 := (hb0.cell (World.block_lt_of_cell? w _ g2)).trans g2
   have p0 : wr.cell? ⟨w.heap.size, 0, none⟩ = some (.slice (some ⟨bb, bo, none⟩) n cB) := (hbel.cell (by simp)).trans (by simp)
   have p2 : wr.cell? ⟨w.heap.size, 2, none⟩ = some (.slice (some ⟨vb, vo, none⟩) n cV) := (hbel.cell (by simp)).trans (by simp)
   generalize bs.getD k 0 = x at *
   have HB : Hid (Below (w.heap.size + 1) (w.alloc (.cells #[.slice (some ⟨bb, bo, none⟩) n cB, G, .slice (some ⟨vb, vo, none⟩) n cV, .int .i64 id, .bool false] 89)) wr) := hbel
   clear hb hv g1 g2 hb0 hbel
   have i1 : (0 : Int) ≤ (k : Int) := Int.natCast_nonneg _
   have i2 : (k : Int) < (n : Int) := by omega
   go_wp2_with fail
   go_quiet (fail)
   go_wp2
   go_roundw
   case rel => exact ⟨k + 1, by omega, by go_num, below_drewN HB.out _⟩
   case measure => simp [intOf]; omega
  ·clear hb hv
   have HB : Hid (Below w.heap.size w wr) := hb0
   clear hbel hb0
   go_wp2
   go_ret
   exact ⟨rfl, HB⟩

set_option maxRecDepth 100000 in
theorem shows_fresh_none (aB : Option Addr) (cB : Nat) (aV : Option Addr) (cV : Nat) (G : Value) (id : Int) (w : World) :
  Calls Try.prog 74 #[.agg #[.slice aB 0 cB, G, .slice aV 0 cV, .int .i64 id, .bool false]] w fun e w' => e = .returned (.bool true) /\ Below w.heap.size w w' := by
 go_enter Try.func74, Try.ntmps74
 go_wp2
 refine wp_loop_rounds 1 ?_
 rw [rounds_succ]
 go_wp2
 go_ret
 exact ⟨rfl, (Below.refl _ _).alloc (Nat.le_refl _) _⟩

theorem own_shape {w : World} {base : Nat} {v : Value} {bs : List Int} (h : Own w base v bs) : (bs = [] /\ ∃ a c, v = .slice a 0 c) ∨ (0 < bs.length /\ ∃ g c, v = .slice (some ⟨g, 0, none⟩) bs.length c /\ ∀ i, i < bs.length -> w.cell? ⟨g, 0 + i, none⟩ = some (.int .u8 (bs.getD i 0))) := by
 by_cases h0 : bs.length = 0
 ·obtain rfl := List.eq_nil_of_length_eq_zero h0
  rcases h.2 with ⟨h1, _⟩ | ⟨g, c, cur, hv, _⟩
  ·exact .inl ⟨rfl, _, _, h1⟩
  ·exact .inl ⟨rfl, _, _, hv⟩
 ·rcases h.2 with ⟨_, h1⟩ | ⟨g, c, cur, hv, _⟩
  ·omega
  ·subst hv
   exact .inr ⟨by omega, g, c, rfl, h.cellAll⟩

theorem shows_fresh (B G V : Value) (id : Int) (base : Nat) (bs : List Int) (w : World) (hB : Own w base B bs) (hV : Own w base V bs) (hlen : bs.length ≤ 140737488355328) :
  Calls Try.prog 74 #[.agg #[B, G, V, .int .i64 id, .bool false]] w fun e w' => e = .returned (.bool true) /\ Below w.heap.size w w' := by
 rcases own_shape hB with ⟨rfl, a, c, rfl⟩ | ⟨h0, g, c, rfl, hb⟩
 ·rcases own_shape hV with ⟨_, a', c', rfl⟩ | ⟨h, _⟩
  ·exact shows_fresh_none a c a' c' G id w
  ·simp at h
 ·rcases own_shape hV with ⟨rfl, _⟩ | ⟨_, g', c', rfl, hv⟩
  ·simp at h0
  ·exact shows_fresh_some g 0 c g' 0 c' bs.length G id bs w hlen hb hv

theorem pat_eq (id k x : Int) (w : World) (h0 : 0 ≤ id) (h1 : id ≤ 10000000) (h2 : 0 ≤ k) (h3 : k ≤ 281474976710656) (hx : x = pat id k) :
  Calls Try.prog 76 #[.int .i64 id, .int .i64 k] w fun e w' => e = .returned (.int .u8 x) /\ w' = w := by
 rw [hx]; exact pat_same id k w h0 h1 h2 h3

set_option maxRecDepth 100000 in
theorem shows_done_some (bb bo cB gb go' cG n : Nat) (V : Value) (id : Int) (w : World) (hlen : n ≤ 140737488355264) (h0 : 0 ≤ id) (h1 : id ≤ 1000000)
  (hb : ∀ i, i < n -> w.cell? ⟨bb, bo + i, none⟩ = some (.int .u8 (pat id (i : Int)))) (hg : ∀ i, i < n -> w.cell? ⟨gb, go' + i, none⟩ = some (.int .u8 (pat id (i : Int))))
  (hg2 : ∀ i, i < 64 -> w.cell? ⟨gb, go' + (n + i), none⟩ = some (.int .u8 (pat (id + 100000) (i : Int)))) :
  Calls Try.prog 74 #[.agg #[.slice (some ⟨bb, bo, none⟩) n cB, .slice (some ⟨gb, go', none⟩) (n + 64) cG, V, .int .i64 id, .bool true]] w fun e w' => e = .returned (.bool true) /\ Below w.heap.size w w' := by
 go_enter Try.func74, Try.ntmps74
 go_wp2
 go_loopw [5] (fun i wr => ∃ k : Nat, k ≤ n /\ i = .int .i64 k /\ Below (w.heap.size + 1) (w.alloc (.cells #[.slice (some ⟨bb, bo, none⟩) n cB, .slice (some ⟨gb, go', none⟩) (n + 64) cG, V, .int .i64 id, .bool true] 89)) wr) (fun i _ => n - (intOf i).toNat)
 case atStart => exact ⟨0, Nat.zero_le _, rfl, Below.refl _ _⟩
 case round =>
  obtain ⟨k, hk, rfl, hbel⟩ := hrel
  have hb0 : Below w.heap.size w wr := ((Below.refl _ _).alloc (Nat.le_refl _) _).trans (hbel.mono (by omega))
  by_cases hlt : k < n
  ·have g1 := hb k hlt
   have g2 := hg k hlt
   have e1 := (hb0.cell (World.block_lt_of_cell? w _ g1)).trans g1
   have e2 := (hb0.cell (World.block_lt_of_cell? w _ g2)).trans g2
   have p0 : wr.cell? ⟨w.heap.size, 0, none⟩ = some (.slice (some ⟨bb, bo, none⟩) n cB) := (hbel.cell (by simp)).trans (by simp)
   have p1 : wr.cell? ⟨w.heap.size, 1, none⟩ = some (.slice (some ⟨gb, go', none⟩) (n + 64) cG) := (hbel.cell (by simp)).trans (by simp)
   have p3 : wr.cell? ⟨w.heap.size, 3, none⟩ = some (.int .i64 id) := (hbel.cell (by simp)).trans (by simp)
   have HB : Hid (Below (w.heap.size + 1) (w.alloc (.cells #[.slice (some ⟨bb, bo, none⟩) n cB, .slice (some ⟨gb, go', none⟩) (n + 64) cG, V, .int .i64 id, .bool true] 89)) wr) := hbel
   clear hb hg hg2 g1 g2 hb0 hbel
   obtain ⟨x, hx⟩ : ∃ x, x = pat id (k : Int) := ⟨_, rfl⟩
   have Hx : Hid (x = pat id (k : Int)) := hx
   rw [<- hx] at e1 e2
   clear hx
   have i1 : (0 : Int) ≤ (k : Int) := Int.natCast_nonneg _
   have i2 : (k : Int) < (n : Int) := by omega
   have i3 : (k : Int) < (n : Int) + 64 := by omega
   have b1 : (x != x) = false := by simp
   go_wp2_with fail
   go_quiet ((go_at_call 76; exact Calls.quiet_of_same (pat_eq _ _ _ _ h0 (by omega) i1 (by omega) Hx)))
   go_wp2
   go_roundw
   case rel => exact ⟨k + 1, by omega, by go_num, below_drewN HB.out _⟩
   case measure => simp [intOf]; omega
  ·have HB : Hid (Below (w.heap.size + 1) (w.alloc (.cells #[.slice (some ⟨bb, bo, none⟩) n cB, .slice (some ⟨gb, go', none⟩) (n + 64) cG, V, .int .i64 id, .bool true] 89)) wr) := hbel
   clear hb hg hbel hb0
   go_wp2
   go_loopw [6] (fun i wr => ∃ k : Nat, k ≤ 64 /\ i = .int .i64 k /\ Below (w.heap.size + 1) (w.alloc (.cells #[.slice (some ⟨bb, bo, none⟩) n cB, .slice (some ⟨gb, go', none⟩) (n + 64) cG, V, .int .i64 id, .bool true] 89)) wr) (fun i _ => 64 - (intOf i).toNat)
   case atStart => exact ⟨0, Nat.zero_le _, rfl, HB⟩
   case round =>
    obtain ⟨j, hj, rfl, hbel⟩ := hrel
    have hb0 : Below w.heap.size w wr := ((Below.refl _ _).alloc (Nat.le_refl _) _).trans (hbel.mono (by omega))
    by_cases hjl : j < 64
    ·have g1 := hg2 j hjl
     have e1 := (hb0.cell (World.block_lt_of_cell? w _ g1)).trans g1
     have p1 : wr.cell? ⟨w.heap.size, 1, none⟩ = some (.slice (some ⟨gb, go', none⟩) (n + 64) cG) := (hbel.cell (by simp)).trans (by simp)
     have p3 : wr.cell? ⟨w.heap.size, 3, none⟩ = some (.int .i64 id) := (hbel.cell (by simp)).trans (by simp)
     have HB2 : Hid (Below (w.heap.size + 1) (w.alloc (.cells #[.slice (some ⟨bb, bo, none⟩) n cB, .slice (some ⟨gb, go', none⟩) (n + 64) cG, V, .int .i64 id, .bool true] 89)) wr) := hbel
     clear hg2 g1 hb0 hbel
     obtain ⟨x, hx⟩ : ∃ x, x = pat (id + 100000) (j : Int) := ⟨_, rfl⟩
     have Hx : Hid (x = pat (id + 100000) (j : Int)) := hx
     rw [<- hx] at e1
     clear hx
     have i1 : (0 : Int) ≤ (j : Int) := Int.natCast_nonneg _
     have i2 : (n : Int) + (j : Int) < (n : Int) + 64 := by omega
     have i3 : (0 : Int) ≤ (n : Int) + (j : Int) := by omega
     go_wp2_with fail
     go_quiet ((go_at_call 76; exact Calls.quiet_of_same (pat_eq _ _ _ _ (by omega) (by omega) i1 (by omega) Hx)))
     go_wp2
     go_roundw
     case rel => exact ⟨j + 1, by omega, by go_num, below_drewN HB2.out _⟩
     case measure => simp [intOf]; omega
    ·clear hg2
     have HB2 : Hid (Below w.heap.size w wr) := hb0
     clear hbel hb0
     go_wp2
     go_ret
     exact ⟨rfl, HB2⟩

set_option maxRecDepth 100000 in
theorem shows_done_none (aB : Option Addr) (cB gb go' cG : Nat) (V : Value) (id : Int) (w : World) (h0 : 0 ≤ id) (h1 : id ≤ 1000000)
  (hg2 : ∀ i, i < 64 -> w.cell? ⟨gb, go' + i, none⟩ = some (.int .u8 (pat (id + 100000) (i : Int)))) :
  Calls Try.prog 74 #[.agg #[.slice aB 0 cB, .slice (some ⟨gb, go', none⟩) 64 cG, V, .int .i64 id, .bool true]] w fun e w' => e = .returned (.bool true) /\ Below w.heap.size w w' := by
 have HB : Hid (Below (w.heap.size + 1) (w.alloc (.cells #[.slice aB 0 cB, .slice (some ⟨gb, go', none⟩) 64 cG, V, .int .i64 id, .bool true] 89)) (w.alloc (.cells #[.slice aB 0 cB, .slice (some ⟨gb, go', none⟩) 64 cG, V, .int .i64 id, .bool true] 89))) := Below.refl _ _
 go_enter Try.func74, Try.ntmps74
 go_wp2
 refine wp_loop_rounds 1 ?_
 rw [rounds_succ]
 go_wp2
 go_loopw [6] (fun i wr => ∃ k : Nat, k ≤ 64 /\ i = .int .i64 k /\ Below (w.heap.size + 1) (w.alloc (.cells #[.slice aB 0 cB, .slice (some ⟨gb, go', none⟩) 64 cG, V, .int .i64 id, .bool true] 89)) wr) (fun i _ => 64 - (intOf i).toNat)
 case atStart => exact ⟨0, Nat.zero_le _, rfl, HB⟩
 case round =>
  obtain ⟨j, hj, rfl, hbel⟩ := hrel
  have hb0 : Below w.heap.size w wr := ((Below.refl _ _).alloc (Nat.le_refl _) _).trans (hbel.mono (by omega))
  by_cases hjl : j < 64
  ·have g1 := hg2 j hjl
   have e1 := (hb0.cell (World.block_lt_of_cell? w _ g1)).trans g1
   have p1 : wr.cell? ⟨w.heap.size, 1, none⟩ = some (.slice (some ⟨gb, go', none⟩) 64 cG) := (hbel.cell (by simp)).trans (by simp)
   have p3 : wr.cell? ⟨w.heap.size, 3, none⟩ = some (.int .i64 id) := (hbel.cell (by simp)).trans (by simp)
   have HB2 : Hid (Below (w.heap.size + 1) (w.alloc (.cells #[.slice aB 0 cB, .slice (some ⟨gb, go', none⟩) 64 cG, V, .int .i64 id, .bool true] 89)) wr) := hbel
   clear hg2 g1 hb0 hbel
   obtain ⟨x, hx⟩ : ∃ x, x = pat (id + 100000) (j : Int) := ⟨_, rfl⟩
   have Hx : Hid (x = pat (id + 100000) (j : Int)) := hx
   rw [<- hx] at e1
   clear hx
   have i1 : (0 : Int) ≤ (j : Int) := Int.natCast_nonneg _
   have i2 : (j : Int) < 64 := by omega
   go_wp2_with fail
   go_quiet ((go_at_call 76; exact Calls.quiet_of_same (pat_eq _ _ _ _ (by omega) (by omega) i1 (by omega) Hx)))
   go_wp2
   go_roundw
   case rel => exact ⟨j + 1, by omega, by go_num, below_drewN HB2.out _⟩
   case measure => simp [intOf]; omega
  ·clear hg2
   have HB2 : Hid (Below w.heap.size w wr) := hb0
   clear hbel hb0
   go_wp2
   go_ret
   exact ⟨rfl, HB2⟩

theorem shows_done (B G V : Value) (id : Int) (base n : Nat) (w : World) (hB : Own w base B (pats id n)) (hG : Own w base G (pats id n ++ pats (id + 100000) 64)) (hlen : n ≤ 140737488355264) (h0 : 0 ≤ id) (h1 : id ≤ 1000000) :
  Calls Try.prog 74 #[.agg #[B, G, V, .int .i64 id, .bool true]] w fun e w' => e = .returned (.bool true) /\ Below w.heap.size w w' := by
 rcases own_shape hG with ⟨h, _⟩ | ⟨_, gb, cG, rfl, hg⟩
 ·have := congrArg List.length h
  simp [pats_len] at this
 ·have hgl : (pats id n ++ pats (id + 100000) 64).length = n + 64 := by simp [pats_len]
  rw [hgl] at hg ⊢
  have g1 : ∀ i, i < n -> w.cell? ⟨gb, 0 + i, none⟩ = some (.int .u8 (pat id (i : Int))) := by
   intro i hi
   rw [hg i (by omega)]
   have e : (pats id n ++ pats (id + 100000) 64).getD i 0 = (pats id n).getD i 0 := by simp only [List.getD]; rw [List.getElem?_append_left (by rw [pats_len]; exact hi)]
   rw [e, pats_get id n i hi]
  have g2 : ∀ i, i < 64 -> w.cell? ⟨gb, 0 + (n + i), none⟩ = some (.int .u8 (pat (id + 100000) (i : Int))) := by
   intro i hi
   rw [hg (n + i) (by omega)]
   have e : (pats id n ++ pats (id + 100000) 64).getD (n + i) 0 = (pats (id + 100000) 64).getD i 0 := by simp only [List.getD]; rw [List.getElem?_append_right (by rw [pats_len]; omega), pats_len]; congr 2; omega
   rw [e, pats_get _ 64 i hi]
  rcases own_shape hB with ⟨h, a, c, rfl⟩ | ⟨_, bb, cB, rfl, hb⟩
  ·obtain rfl : n = 0 := by have := congrArg List.length h; simpa [pats_len] using this
   exact shows_done_none a c gb 0 cG V id w h0 h1 (by simpa using g2)
  ·rw [pats_len] at hb ⊢
   exact shows_done_some bb 0 cB gb 0 cG n V id w hlen h0 h1 (fun i hi => by rw [hb i hi, pats_get id n i hi]) g1 g2

end Go.Proofs.Ythanifbimndhaaa.Bk
