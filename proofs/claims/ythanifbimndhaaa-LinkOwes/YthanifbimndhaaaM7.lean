import Derived.Test.YthanifbimndhaaaM6
import Derived.Lib.SliceRun
namespace Go.Proofs.Ythanifbimndhaaa.Ln
set_option maxHeartbeats 40000000
open Go.RowKit Mb
set_option linter.unusedVariables false
set_option maxRecDepth 100000
set_option linter.unusedSimpArgs false
section
variable {w w' W : World} {B win room : Nat} {S S' : St} {E E' : En} {M M' : Mx}
theorem info_frame : (Try.prog.info? 55).map (·.size) = some 6 := by kernel_rfl
abbrev z6 : List Value := [.int .i64 0, .int .i64 0, .int .i64 0, .int .i64 0, .int .i64 0, .slice none 0 0]
theorem frame_info : ∃ i : TypeInfo, Try.prog.info? 55 = some i /\ i.zero = some (.agg z6.toArray) /\ i.size = 6 /\ i.bytes = 64 := by
 have h : (Try.prog.info? 55).map (fun i => (i.zero, i.size, i.bytes)) = some (some (.agg z6.toArray), 6, 64) := by kernel_rfl
 cases hq : Try.prog.info? 55 with
 | none => rw [hq] at h; cases h
 | some i => rw [hq] at h; simp at h; exact ⟨i, rfl, h.1, h.2.1, h.2.2⟩
theorem z6_at (i : Nat) : (z6.toArray)[i % 6]! = z6.getD (i % 6) undef := by
 have : i % 6 < 6 := Nat.mod_lt _ (by omega)
 generalize i % 6 = k at this
 rcases k with _ | _ | _ | _ | _ | _ | k <;> first | rfl | omega
theorem wl_makeF {ops : Array Oper} {rest : List Oper} {o : Oper} {a : Act} {Q : Exit -> Act -> World -> Prop} (hg : o.guard = none) (l c : Operand) (hop : o.op = Op.makeSlice 46 l c) (x y : Int) (n : Nat) (hl : a.eval l = .int .i64 x) (hc : a.eval c = .int .i64 y) (hx : x = (n : Int)) (hy : y = (n : Int)) (hn : n ≤ 1000000)
  (h : ∀ w', Fb w' w.heap.size 55 (n * 6) (fun j => z6.getD (j % 6) undef) -> Below w.heap.size w w' -> wpList Try.prog ops Q rest (a.put o.dst (.slice (some ⟨w.heap.size, 0, none⟩) n n)) w') : wpList Try.prog ops Q (o :: rest) a w := by
 obtain ⟨i0, hi, hz0, hz1, hz2⟩ := frame_info
 refine wpList_make_full w hg l c 46 hop w.heap.size 55 i0 (.agg z6.toArray) 6 Try.underlying46 hi hz0 hz1 .i64 .i64 x y n hl hc hx hy (by rw [hz2]; omega) (by unfold maxLen; omega) (Nat.le_refl _) fun w1 hown hgrow => h w1 ?_ ((Below.refl _ w).grown hgrow (Nat.le_refl _) (fun k hk => by cases hk))
 rcases hown.2 with ⟨h3, _⟩ | ⟨g, cap, cur, hv, hg, hh, hr1, hr2, hr3, hr4⟩
 ·cases h3
 ·simp at hv
  obtain ⟨hg', rfl⟩ := hv
  subst hg'
  refine ⟨cur, hh, hr3, fun i hi => ?_⟩
  have e1 : cur[i]? = (cur.toList.take (n * 6))[i]? := by rw [List.getElem?_take]; simp [hi]
  rw [e1, hr4]
  have e2 : (madeCells z6.toArray (n * 6)).toList[i]? = some (z6.toArray[i % 6]!) := by
   simp [madeCells, hi, Value.cells]
  exact e2.trans (congrArg some (z6_at i))
def gB (bl : List Bd) (i : Nat) : Bd := bl.getD i ⟨0, []⟩
theorem gB_at {bl : List Bd} {i : Nat} (h : i < bl.length) : bl[i]? = some (gB bl i) := by simp [gB, List.getD, h]
def frv (t : Tg) (s : Nat) (v : Value) : List Value := [.int .i64 t.e, .int .i64 t.l, .int .i64 t.i, .int .i64 t.c, .int .i64 (s : Int), v]
def slv (k l : Nat) : Value := .slice (some ⟨k, 0, none⟩) l l
theorem frv_one (t : Tg) (s k l : Nat) : ∀ u ∈ frv t s (slv k l), u.oneCell' = true := by
 intro u hu
 simp [frv, slv] at hu
 rcases hu with rfl | rfl | rfl | rfl | rfl | rfl <;> rfl
def fri (t : Tg) (op : Nat) (bl : List Bd) (ks : Nat -> Nat) (i j : Nat) : List Value := if j < i then frv t (op + j + 1) (slv (ks j) (gB bl j).bs.length) else z6
def frf (t : Tg) (op : Nat) (bl : List Bd) (ks : Nat -> Nat) (i : Nat) (j : Nat) : Value := (fri t op bl ks i (j / 6)).getD (j % 6) undef
theorem frf_next {t : Tg} {op fb n i k : Nat} {bl : List Bd} {ks : Nat -> Nat} (h : Fb w fb 55 (n * 6) (frf t op bl ks i)) : Fb (w.setCells fb (i * 6) (frv t (op + i + 1) (slv k (gB bl i).bs.length))) fb 55 (n * 6) (frf t op bl (upd ks i k) (i + 1)) :=
 (Fb.sets _ _ _ _ h).congr fun j hj => by
  have hl : (frv t (op + i + 1) (slv k (gB bl i).bs.length)).length = 6 := rfl
  rw [hl]
  unfold frf fri
  by_cases e : i * 6 ≤ j /\ j < i * 6 + 6
  ·rw [if_pos e, show j / 6 = i by omega, if_pos (by omega), upd_same, show j - i * 6 = j % 6 by omega]
  ·rw [if_neg e]
   have e2 : j / 6 ≠ i := by omega
   by_cases e3 : j / 6 < i
   ·rw [if_pos e3, if_pos (by omega), upd_ne _ _ e2]
   ·rw [if_neg e3, if_neg (by omega)]
structure FrS (w wr : World) (fb n : Nat) (t : Tg) (op : Nat) (bl : List Bd) (i : Nat) (ks : Nat -> Nat) : Prop where
 bel : Below w.heap.size w wr
 row : Fb wr fb 55 (n * 6) (frf t op bl ks i)
 bk : ∀ j, j < i -> Bk wr (ks j) (gB bl j).bs /\ w.heap.size ≤ ks j
 inj : ∀ j j', j < i -> j' < i -> ks j = ks j' -> j = j'
theorem FrS.next {wr D w3 : World} {t : Tg} {op fb n i : Nat} {bl : List Bd} {ks : Nat -> Nat} (h : FrS w wr fb n t op bl i ks) (hfb : fb = w.heap.size) (hD : Below wr.heap.size wr D) (hbk : Bk w3 D.heap.size (gB bl i).bs) (hb3 : Below D.heap.size D w3) : FrS w (w3.setCells fb (i * 6) (frv t (op + i + 1) (slv D.heap.size (gB bl i).bs.length))) fb n t op bl (i + 1) (upd ks i D.heap.size) := by
 have hb : Below wr.heap.size wr w3 := bstep hD hb3
 have k : Kept w3 (w3.setCells fb (i * 6) (frv t (op + i + 1) (slv D.heap.size (gB bl i).bs.length))) (fun j => j = fb) := ksets (P := fun j => j = fb) rfl _ _ _
 have hfl := h.row.lt
 have hne : ∀ j (x : List Int), Bk w3 j x -> j ≠ fb := fun j x hj => by
  obtain ⟨C, hC, _⟩ := h.row
  exact bk_ne hj ((hb.block _ hfl).trans hC) (by decide)
 have hws := h.bel.size
 have hds := hD.size
 refine ⟨bsets (by omega) _ _ (bstep h.bel (hb.mono (by omega) |> fun x => hb)), frf_next (h.row.keep (Kept.ofBelow hb (fun _ => False)) id), fun j hj => ?_, fun j j' hj hj' e => ?_⟩
 ·by_cases e : j = i
  ·subst e; rw [upd_same]; exact ⟨hbk.keep k (hne _ _ hbk), by omega⟩
  ·rw [upd_ne _ _ e]
   have h1 := h.bk j (by omega)
   exact ⟨(h1.1.still hb).keep k (hne _ _ (h1.1.still hb)), h1.2⟩
 ·by_cases e1 : j = i
  ·by_cases e2 : j' = i
   ·rw [e1, e2]
   ·subst e1; rw [upd_same, upd_ne _ _ e2] at e
    have := (h.bk j' (by omega)).1.lt; omega
  ·by_cases e2 : j' = i
   ·subst e2; rw [upd_same, upd_ne _ _ e1] at e
    have := (h.bk j (by omega)).1.lt; omega
   ·rw [upd_ne _ _ e1, upd_ne _ _ e2] at e
    exact h.inj j j' (by omega) (by omega) e
structure FrO (w w' : World) (M : Mx) (E : En) (e : Ending) : Prop where
 out : ∃ (fb n : Nat) (bl : List Bd) (ks : Nat -> Nat), e = .returned (.slice (some ⟨fb, 0, none⟩) n n) /\ bl = takeN E.o.f E.o.p M.win /\ bl.length = n /\ w.heap.size ≤ fb /\ FrS w w' fb n M.tag E.o.p bl n ks
theorem frames_no (h : M.Ok w B) {q : Int} (hq : M.at q = none) : Calls Try.prog 20 #[.pointer (some ⟨M.b, 0, none⟩), .int .i64 q] w fun e w' => e = .returned (.slice none 0 0) /\ w = w' := by
 have HP : Hid (∀ w1, Below w.heap.size w w1 -> Calls Try.prog 60 #[.pointer (some ⟨M.b, 0, none⟩), .int .i64 q] w1 fun e w' => e = .returned (.pointer none) /\ w1 = w') := fun w1 hb => (show Calls _ _ _ _ _ from by have := peer_any (h.still hb) q; rw [hq] at this; exact this)
 have HPW := HP.out w (Below.refl _ _)
 have HPh : Hid (Calls _ _ _ _ _) := HPW
 clear h hq HPW
 go_enter Try.func20, Try.ntmps20
 go_wp2_with (first | (go_at_call 60; refine HPh.out.mono ?_; rintro e w' ⟨rfl, rfl⟩) | fail)
 go_ret
 exact ⟨rfl, rfl⟩
theorem frames_yes (h : M.Ok w B) {q : Int} (hq : M.at q = some E) : Calls Try.prog 20 #[.pointer (some ⟨M.b, 0, none⟩), .int .i64 q] w fun e w' => FrO w w' M E e := by
 have HP : Hid (∀ w1, Below w.heap.size w w1 -> Calls Try.prog 60 #[.pointer (some ⟨M.b, 0, none⟩), .int .i64 q] w1 fun e w' => e = .returned (.pointer (some ⟨E.b, 0, none⟩)) /\ w1 = w') := fun w1 hb => (show Calls _ _ _ _ _ from by have := peer_any (h.still hb) q; rw [hq] at this; exact this)
 have HPW := HP.out w (Below.refl _ _)
 have HPh : Hid (Calls _ _ _ _ _) := HPW
 obtain ⟨k, rfl, hk, he⟩ := at_es hq
 have hE := h.el k E he
 have hw1 := h.w1
 have m1 : w.cell? ⟨M.b, 1, none⟩ = some (.int .i64 (M.win : Int)) := h.c 1 rfl
 have HNx : Hid (Calls Try.prog 61 #[.pointer (some ⟨E.b, 0, none⟩), .int .i64 (M.win : Int)] w.drew fun e w' => NextO w.drew w' E.o M.win e) := next_any (hE.oo.still (dB w)) (bA (dB w) (hE.c 0 rfl)) (bA (dB w) (hE.c 1 rfl)) (by omega)
 have HM : Hid (M.Ok w B) := h
 have HE : Hid (E.Ok w B M.win M.room) := hE
 have hln := takeN_len E.o.f M.win E.o.p
 have hp6 := hE.oo.p62
 clear h hq HPW hE
 go_enter Try.func20, Try.ntmps20
 go_wp2_with (first | (go_at_call 60; refine HPh.out.mono ?_; rintro e w' ⟨rfl, rfl⟩) | fail)
 refine wp_region_held_drew (S := (fun w' => w'.cell? ⟨M.b, 1, none⟩ = some (.int .i64 (M.win : Int)))) (by kernel_rfl) (bA (Below.refl _ _).drew m1) (fun hH => ?_)
 simp only [Act.put, lA, lC, lN, zA]
 refine wG 0 (.pointer (some ⟨E.b, 0, none⟩)) rfl hH ?_
 simp only [aP, gA, gZ, gC, sA, sZ, sC]
 refine wG 1 (.pointer (some ⟨E.b, 0, none⟩)) rfl hH ?_
 simp only [aP, gA, gZ, gC, sA, sZ, sC]
 refine wG 2 (.pointer (some ⟨E.b, 0, none⟩)) rfl hH ?_
 simp only [aP, gA, gZ, gC, sA, sZ, sC]
 refine wG 3 (.pointer (some ⟨M.b, 0, none⟩)) rfl hH ?_
 simp only [aP, gA, gZ, gC, sA, sZ, sC]
 refine wG 4 (.pointer (some ⟨M.b, 0, none⟩)) rfl hH ?_
 simp only [aP, gA, gZ, gC, sA, sZ, sC]
 refine wG 5 (.pointer (some ⟨M.b, 1, none⟩)) rfl hH ?_
 simp only [aP, gA, gZ, gC, sA, sZ, sC]
 refine wX 6 (.int .i64 (M.win : Int)) rfl (Or.inl ⟨by rfl, fun w' hS => by (have s0 := hS; go_simp)⟩) hH ?_
 simp only [aP, gA, gZ, gC, sA, sZ, sC]
 refine rY 7 rfl fun K hK => ?_
 go_simp
 refine HNx.out.mono ?_
 rintro e w2 ⟨⟨a, cc, rfl, hrow, hb5⟩⟩
 refine hK.out _ _ (bA hb5 (bA (dB w) m1)) (fun hH => ?_)
 clear hK K
 refine wG 8 (.slice a (takeN E.o.f E.o.p M.win).length cc) rfl hH ?_
 simp only [aP, gA, gZ, gC, sA, sZ, sC]
 refine wpAnyH_done (by kernel_rfl) ?_ _
 clear hH
 have hat := takeN_at E.o.f M.win E.o.p
 obtain ⟨bl, hbl⟩ : ∃ bl, takeN E.o.f E.o.p M.win = bl := ⟨_, rfl⟩
 rw [hbl] at hrow hat hln ⊢
 obtain ⟨n, hn⟩ : ∃ n, bl.length = n := ⟨_, rfl⟩
 rw [hn] at hrow hat hln ⊢
 have Hbl : Hid (bl = takeN E.o.f E.o.p M.win /\ bl.length = n) := (show _ /\ _ from ⟨hbl.symm, hn⟩)
 have Hat : Hid (∀ i, i < n -> E.o.f (E.o.p + i + 1) = bl[i]?) := hat
 have Hb2 : Hid (Below w.heap.size w w2) := (show Below _ _ _ from bstep (dB w) hb5)
 have Hrow : Hid (w2.ownsRow w.heap.size 40 1 (.slice a n cc) n (bl.map Bd.v)) := own_lower hrow (dB w).size
 clear hbl hn hat hrow hb5 m1 HNx
 go_wp2_with (first | (at_make; refine wl_makeF rfl _ _ rfl _ _ n rfl rfl rfl rfl (by omega) ?_) | fail)
 intro w3 hf3 hb3
 obtain ⟨fb, hfb⟩ : ∃ fb, w2.heap.size = fb := ⟨_, rfl⟩
 rw [hfb] at hf3
 have HS0 : Hid (FrS w2 w3 fb n M.tag E.o.p bl 0 (fun _ => 0)) := ⟨hb3, hf3.congr fun j hj => (by unfold frf fri; rw [if_neg (by omega)]; rfl), fun j hj => by omega, fun j j' hj => by omega⟩
 have Hfb : Hid (w2.heap.size = fb) := hfb
 rw [hfb]
 clear hf3 hb3 hfb
 go_wp2
 go_loopw [28] (fun v28 wr => ∃ (i : Nat) (ks : Nat -> Nat), i ≤ n /\ v28 = .int .i64 (i : Int) /\ Hid (FrS w2 wr fb n M.tag E.o.p bl i ks)) (fun v28 _ => n - (intOf v28).toNat)
 case atStart => exact ⟨0, _, Nat.zero_le _, rfl, HS0⟩
 case round =>
  obtain ⟨i, ks, hi, rfl, hs⟩ := hrel
  by_cases hlt : i < n
  ·have hsb := hs.out.bel
   have hbw := bstep Hb2.out hsb
   have hEr := HE.out.still hbw
   have hMr := HM.out.still hbw
   have hbli : bl[i]? = some (gB bl i) := gB_at (by rw [Hbl.out.2]; exact hlt)
   have hfi : E.o.f (E.o.p + i + 1) = some (gB bl i) := (Hat.out i hlt).trans hbli
   have hbd := hEr.oo.el _ _ hfi
   have hrr := own_still Hrow.out hsb
   obtain ⟨ga, rfl⟩ : ∃ ga, a = some ⟨ga, 0, none⟩ := by
    rcases Hrow.out.2 with ⟨e1, e2⟩ | ⟨g, cap, cur, hv, _⟩
    ·omega
    ·simp at hv; exact ⟨g, hv.1⟩
   have hc0 : wr.cell? ⟨ga, i, none⟩ = some (gB bl i).v := by
    rw [World.ownsRow.cellAt hrr i (by omega), List.getElem?_map, hbli]; rfl
   obtain ⟨bk, hbk⟩ : ∃ bk, (gB bl i).k = bk := ⟨_, rfl⟩
   obtain ⟨bn, hbn⟩ : ∃ bn, (gB bl i).bs.length = bn := ⟨_, rfl⟩
   have hcell : wr.cell? ⟨ga, i, none⟩ = some (.slice (some ⟨bk, 0, none⟩) bn bn) := by rw [hc0]; unfold Bd.v; rw [hbk, hbn]
   have hle := hbd.le
   have HC : Hid (∀ D, Below wr.heap.size wr D -> Calls Try.prog 62 #[.slice (some ⟨bk, 0, none⟩) bn bn] D fun e w' => e = .returned (.slice (some ⟨D.heap.size, 0, none⟩) bn bn) /\ Bk w' D.heap.size (gB bl i).bs /\ Below D.heap.size D w') := fun D hb => by
    have := copy_any (hbd.rd.still hb) (by omega)
    rw [hbk, hbn] at this
    exact this
   have HNF : Hid (∀ D w3, Below wr.heap.size wr D -> Bk w3 D.heap.size (gB bl i).bs -> Below D.heap.size D w3 -> w3.there fb (i * 6) 6 /\ (∀ u ∈ [Value.int .i64 M.tag.e, .int .i64 M.tag.l, .int .i64 M.tag.i, .int .i64 M.tag.c, .int .i64 ((E.o.p : Int) + (i : Int) + 1), .slice (some ⟨D.heap.size, 0, none⟩) bn bn], u.oneCell' = true) /\ FrS w2 (w3.setCells fb (i * 6) [.int .i64 M.tag.e, .int .i64 M.tag.l, .int .i64 M.tag.i, .int .i64 M.tag.c, .int .i64 ((E.o.p : Int) + (i : Int) + 1), .slice (some ⟨D.heap.size, 0, none⟩) bn bn]) fb n M.tag E.o.p bl (i + 1) (upd ks i D.heap.size)) := fun D w3 hD hk3 hb3 => by
    have e1 := hs.out.next Hfb.out.symm hD hk3 hb3
    have e2 := frv_one M.tag (E.o.p + i + 1) D.heap.size (gB bl i).bs.length
    have e3 : frv M.tag (E.o.p + i + 1) (slv D.heap.size (gB bl i).bs.length) = [Value.int .i64 M.tag.e, .int .i64 M.tag.l, .int .i64 M.tag.i, .int .i64 M.tag.c, .int .i64 ((E.o.p : Int) + (i : Int) + 1), .slice (some ⟨D.heap.size, 0, none⟩) bn bn] := by unfold frv slv; rw [hbn]; rw [show ((E.o.p + i + 1 : Nat) : Int) = (E.o.p : Int) + (i : Int) + 1 by omega]
    rw [e3] at e1 e2
    exact ⟨(hs.out.row.keep (Kept.ofBelow (bstep hD hb3) (fun _ => False)) id).there _ _ (by omega), e2, e1⟩
   have m3 : wr.cell? ⟨M.b, 3, none⟩ = some (.int .i64 M.tag.e) := hMr.c 3 rfl
   have m4 : wr.cell? ⟨M.b, 4, none⟩ = some (.int .i64 M.tag.l) := hMr.c 4 rfl
   have m5 : wr.cell? ⟨M.b, 5, none⟩ = some (.int .i64 M.tag.i) := hMr.c 5 rfl
   have m6 : wr.cell? ⟨M.b, 6, none⟩ = some (.int .i64 M.tag.c) := hMr.c 6 rfl
   have x0 : wr.cell? ⟨E.b, 0, none⟩ = some (.int .i64 (E.o.p : Int)) := hEr.c 0 rfl
   have hfw : w.heap.size ≤ fb := by rw [<- Hfb.out]; exact Hb2.out.size
   have Hne : Hid (M.b ≠ fb /\ E.b ≠ fb) := (show _ /\ _ from ⟨fun e => by have := lt_heap HM.out.blk; omega, fun e => by have := HE.out.lt (.inl rfl); omega⟩)
   have i1 : (0 : Int) ≤ (i : Int) := Int.natCast_nonneg _
   have i2 : (i : Int) < (n : Int) := by omega
   clear hs hsb hbw hEr hMr hbli hfi hbd hrr hc0 hbk hbn hfw
   go_wp2
   refine wp_region_held_drew (S := (fun w' => w'.cell? ⟨M.b, 3, none⟩ = some (.int .i64 M.tag.e) /\ w'.cell? ⟨M.b, 4, none⟩ = some (.int .i64 M.tag.l) /\ w'.cell? ⟨M.b, 5, none⟩ = some (.int .i64 M.tag.i) /\ w'.cell? ⟨M.b, 6, none⟩ = some (.int .i64 M.tag.c) /\ w'.cell? ⟨E.b, 0, none⟩ = some (.int .i64 (E.o.p : Int)))) (by kernel_rfl) ⟨bA (Below.refl _ _).drew m3, bA (Below.refl _ _).drew m4, bA (Below.refl _ _).drew m5, bA (Below.refl _ _).drew m6, bA (Below.refl _ _).drew x0⟩ (fun hH => ?_)
   simp only [Act.put, lA, lC, lN, zA]
   refine wG 0 (.slice (some ⟨fb, 0, none⟩) n n) rfl hH ?_
   simp only [aP, gA, gZ, gC, sA, sZ, sC]
   refine wG 1 (.int .i64 (i : Int)) rfl hH ?_
   simp only [aP, gA, gZ, gC, sA, sZ, sC]
   refine wG 2 (.pointer (some ⟨M.b, 0, none⟩)) rfl hH ?_
   simp only [aP, gA, gZ, gC, sA, sZ, sC]
   refine wG 3 (.pointer (some ⟨M.b, 0, none⟩)) rfl hH ?_
   simp only [aP, gA, gZ, gC, sA, sZ, sC]
   refine wG 4 (.pointer (some ⟨M.b, 3, none⟩)) rfl hH ?_
   simp only [aP, gA, gZ, gC, sA, sZ, sC]
   refine wL 5 (.agg #[.int .i64 M.tag.e, .int .i64 M.tag.l, .int .i64 M.tag.i, .int .i64 M.tag.c]) rfl hH ?_
   simp only [aP, gA, gZ, gC, sA, sZ, sC]
   refine wG 6 (.pointer (some ⟨E.b, 0, none⟩)) rfl hH ?_
   simp only [aP, gA, gZ, gC, sA, sZ, sC]
   refine wG 7 (.pointer (some ⟨E.b, 0, none⟩)) rfl hH ?_
   simp only [aP, gA, gZ, gC, sA, sZ, sC]
   refine wG 8 (.pointer (some ⟨E.b, 0, none⟩)) rfl hH ?_
   simp only [aP, gA, gZ, gC, sA, sZ, sC]
   refine wG 9 (.pointer (some ⟨E.b, 0, none⟩)) rfl hH ?_
   simp only [aP, gA, gZ, gC, sA, sZ, sC]
   refine wL 10 (.int .i64 (E.o.p : Int)) rfl hH ?_
   simp only [aP, gA, gZ, gC, sA, sZ, sC]
   refine wG 11 (.int .i64 (i : Int)) rfl hH ?_
   simp only [aP, gA, gZ, gC, sA, sZ, sC]
   refine wX 12 (.int .i64 ((E.o.p : Int) + (i : Int))) rfl (Or.inl ⟨by rfl, fun w' hS => by (go_simp; exact wrap_id (by omega) (by omega))⟩) hH ?_
   simp only [aP, gA, gZ, gC, sA, sZ, sC]
   refine wX 13 (.int .i64 ((E.o.p : Int) + (i : Int) + 1)) rfl (Or.inl ⟨by rfl, fun w' hS => by (go_simp; exact wrap_id (by omega) (by omega))⟩) hH ?_
   simp only [aP, gA, gZ, gC, sA, sZ, sC]
   refine wG 14 (.slice (some ⟨bk, 0, none⟩) bn bn) rfl hH ?_
   simp only [aP, gA, gZ, gC, sA, sZ, sC]
   have q3 := bA (dB wr) m3
   have q4 := bA (dB wr) m4
   have q5 := bA (dB wr) m5
   have q6 := bA (dB wr) m6
   have q0 := bA (dB wr) x0
   have hbD : Below wr.heap.size wr wr.drew := dB wr
   clear m3 m4 m5 m6 x0
   generalize wr.drew = D4 at *
   refine rY 15 rfl fun K hK => ?_
   go_simp
   refine (HC.out D4 hbD).mono ?_
   rintro e w3 ⟨rfl, hbk, hb3⟩
   refine hK.out _ _ ⟨bA hb3 q3, bA hb3 q4, bA hb3 q5, bA hb3 q6, bA hb3 q0⟩ (fun hH => ?_)
   clear hK K
   refine wG 16 (.agg #[.int .i64 M.tag.e, .int .i64 M.tag.l, .int .i64 M.tag.i, .int .i64 M.tag.c, .int .i64 ((E.o.p : Int) + (i : Int) + 1), .slice (some ⟨D4.heap.size, 0, none⟩) bn bn]) rfl hH ?_
   simp only [aP, gA, gZ, gC, sA, sZ, sC]
   refine wG 17 (.pointer (some ⟨fb, i * 6, none⟩)) rfl hH ?_
   simp only [aP, gA, gZ, gC, sA, sZ, sC]
   obtain ⟨t1, t2, t3⟩ := HNF.out D4 w3 hbD hbk hb3
   refine rY 18 rfl fun K hK => ?_
   refine step_storeL rfl 55 (.tmp 50) (.tmp 49) rfl (L := [.int .i64 M.tag.e, .int .i64 M.tag.l, .int .i64 M.tag.i, .int .i64 M.tag.c, .int .i64 ((E.o.p : Int) + (i : Int) + 1), .slice (some ⟨D4.heap.size, 0, none⟩) bn bn]) rfl rfl t1 info_frame t2 ?_
   have kk : Kept w3 (w3.setCells fb (i * 6) [.int .i64 M.tag.e, .int .i64 M.tag.l, .int .i64 M.tag.i, .int .i64 M.tag.c, .int .i64 ((E.o.p : Int) + (i : Int) + 1), .slice (some ⟨D4.heap.size, 0, none⟩) bn bn]) (fun j => j = fb) := ksets (P := fun j => j = fb) rfl _ _ _
   refine hK.out _ _ ⟨kC kk Hne.out.1 (bA hb3 q3), kC kk Hne.out.1 (bA hb3 q4), kC kk Hne.out.1 (bA hb3 q5), kC kk Hne.out.1 (bA hb3 q6), kC kk Hne.out.2 (bA hb3 q0)⟩ (fun hH => ?_)
   have HT3 : Hid (FrS w2 _ fb n M.tag E.o.p bl (i + 1) _) := t3
   clear hK K kk t1 t2 t3 q3 q4 q5 q6 q0 hbk hb3 hbD
   refine wpAnyH_done (by kernel_rfl) ?_ _
   clear hH
   go_wp2
   exact ⟨⟨i + 1, _, by omega, by go_num, HT3⟩, by simp [intOf]; omega⟩
  ·obtain rfl : i = n := by omega
   have HX : Hid (FrO w wr M E (.returned (.slice (some ⟨fb, 0, none⟩) i i))) := (show FrO _ _ _ _ _ from ⟨⟨fb, i, bl, ks, rfl, Hbl.out.1, Hbl.out.2, by rw [<- Hfb.out]; exact Hb2.out.size, ⟨bstep Hb2.out hs.out.bel, hs.out.row, fun j hj => ⟨(hs.out.bk j hj).1, Nat.le_trans Hb2.out.size (hs.out.bk j hj).2⟩, hs.out.inj⟩⟩⟩)
   clear hs
   go_wp2
   go_ret
   exact HX.out
end
section
variable {w w' W : World} {B win room : Nat} {S S' : St} {E E' : En} {M M' : Mx}
structure RdI (w : World) (ao : Option Addr) (n c : Nat) (xs : List Int) : Prop where
 len : xs.length = n
 cap : n ≤ c
 nil : ao = none -> c = 0
 at_ : n = 0 ∨ ∃ b off, ao = some ⟨b, off, none⟩ /\ ∀ i, i < n -> w.cell? ⟨b, off + i, none⟩ = some (.int .i64 (xs.getD i 0))
theorem RdI.still {ao : Option Addr} {n c : Nat} {xs : List Int} (h : RdI w ao n c xs) (hb : Below w.heap.size w w') : RdI w' ao n c xs :=
 ⟨h.len, h.cap, h.nil, h.at_.elim (fun hh => .inl hh) (fun ⟨b, off, e, hc⟩ => .inr ⟨b, off, e, fun i hi => bA hb (hc i hi)⟩)⟩
theorem ptr_info : ∃ i : TypeInfo, Try.prog.info? 92 = some i /\ i.zero = some (.pointer none) /\ i.size = 1 /\ i.bytes = 8 := by
 have h : (Try.prog.info? 92).map (fun i => (i.zero, i.size, i.bytes)) = some (some (.pointer none), 1, 8) := by kernel_rfl
 cases hq : Try.prog.info? 92 with
 | none => rw [hq] at h; cases h
 | some i => rw [hq] at h; simp at h; exact ⟨i, rfl, h.1, h.2.1, h.2.2⟩
theorem wl_makeP {ops : Array Oper} {rest : List Oper} {o : Oper} {a : Act} {Q : Exit -> Act -> World -> Prop} (hg : o.guard = none) (l c : Operand) (hop : o.op = Op.makeSlice 101 l c) (x y : Int) (n : Nat) (hl : a.eval l = .int .i64 x) (hc : a.eval c = .int .i64 y) (hx : x = (n : Int)) (hy : y = (n : Int)) (hn : n ≤ 1000000)
  (h : ∀ w', Fb w' w.heap.size 92 n (fun _ => .pointer none) -> Below w.heap.size w w' -> w'.heap.size = w.heap.size + 1 -> wpList Try.prog ops Q rest (a.put o.dst (.slice (some ⟨w.heap.size, 0, none⟩) n n)) w') : wpList Try.prog ops Q (o :: rest) a w := by
 obtain ⟨i0, hi, hz0, hz1, hz2⟩ := ptr_info
 refine wpList_step fun K hK => ?_
 have hw : Region.wanted o (yielded ops a.tmps) = true := by simp [Region.wanted, hg]
 rw [if_pos hw]
 have hrun := run_make (P := Try.prog) w 101 92 i0 (.pointer none) Try.underlying101 hi hz0 .i64 .i64 n n (by omega) (Int.le_refl _) (by rw [hz2]; omega) (by omega)
 simp only [Int.toNat_natCast, hz1, Nat.mul_one] at hrun
 subst hx
 subst hy
 unfold Oper.wp
 simp [execOp, hop, hl, hc, hrun, Result.andThen]
 refine hK _ _ (h _ ?_ ((Below.refl _ _).alloc (Nat.le_refl _) _) (by simp))
 refine ⟨_, heap_alloc_new _ _, by simp [size_madeCells], fun i hi => ?_⟩
 rw [<- Array.getElem?_toList]
 show (madeCells #[Value.pointer none] n).toList[i]? = _
 rw [toList_madeCells_one]
 simp [hi]
def mnew (b br n self win room : Nat) : Mx := ⟨b, br, n, self, win, room, ⟨0, 0, 0, 0⟩, fun _ => none⟩
theorem new_ok {n self win room : Nat} (h1 : 1 ≤ n) (h2 : n ≤ 16) (h3 : self < n) (h4 : 1 ≤ win) (h5 : win ≤ room) (h6 : room ≤ 20000) : Calls Try.prog 23 #[.int .i64 (n : Int), .int .i64 (self : Int), .int .i64 (win : Int), .int .i64 (room : Int)] w fun e w' => e = .returned (.tuple #[.pointer (some ⟨w.heap.size + 1, 0, none⟩), .int .i64 0]) /\ (mnew (w.heap.size + 1) w.heap.size n self win room).Ok w' w.heap.size /\ Below w.heap.size w w' := by
 have e1 : inR 1 16 (n : Int) = true := inR_t (by omega) (by omega)
 have e2 : inR 0 ((n : Int) - 1) (self : Int) = true := inR_t (by omega) (by omega)
 have e3 : inR 1 20000 (room : Int) = true := inR_t (by omega) (by omega)
 have e4 : inR 1 (room : Int) (win : Int) = true := inR_t (by omega) (by omega)
 go_enter Try.func23, Try.ntmps23
 go_wp2_with (first | (go_at_call 66; refine (within_any _ _ _).mono ?_; rintro e w' ⟨rfl, rfl⟩) | (at_make; refine wl_makeP rfl _ _ rfl _ _ n rfl rfl rfl rfl (by omega) ?_) | fail)
 intro w1 hf hb hs
 have HF : Hid (Fb w1 w.heap.size 92 n (fun _ => .pointer none)) := hf
 have HB : Hid (Below w.heap.size w w1) := hb
 have HX : Hid ((mnew (w.heap.size + 1) w.heap.size n self win room).Ok (w1.alloc (.cells (mnew (w.heap.size + 1) w.heap.size n self win room).cs 103)) w.heap.size) := ⟨by rw [show w.heap.size + 1 = w1.heap.size by omega]; exact heap_alloc_new _ _, hf.keep (Kept.ofBelow (balloc (Below.refl _ _)) (fun _ => False)) id, fun q e he => (by cases he), fun p q e f _ he => (by cases he), fun _ _ => rfl, ⟨h1, h2, h3⟩, ⟨h4, h5, h6⟩, ⟨by show w.heap.size ≤ w.heap.size + 1; omega, Nat.le_refl _⟩⟩
 have Hs : Hid (w1.heap.size = w.heap.size + 1) := hs
 clear hf hb hs
 go_wp2
 exact bodyPost_ret (v := .tuple #[.pointer (some ⟨w1.heap.size, 0, none⟩), .int .i64 0]) (by simp [results, Try.results23, go_sem]) rfl ⟨by rw [Hs.out], HX.out, balloc HB.out⟩
def okP (n self : Nat) : Int -> List Int -> Bool
 | _, [] => true
 | l, x :: xs => inR l ((n : Int) - 1) x && !(x == (self : Int)) && okP n self (x + 1) xs
theorem okP_mem {n self : Nat} : ∀ {xs : List Int} {l : Int}, 0 ≤ l -> okP n self l xs = true -> ∀ x ∈ xs, l ≤ x /\ x < (n : Int) /\ x ≠ (self : Int)
 | [], l, _, _, x, hx => by cases hx
 | y :: ys, l, hl, h, x, hx => by
   simp only [okP, Bool.and_eq_true, inR, decide_eq_true_eq, Bool.not_eq_true', beq_eq_false_iff_ne] at h
   rcases List.mem_cons.1 hx with rfl | hx
   ·exact ⟨h.1.1.1, by omega, h.1.2⟩
   ·have := okP_mem (xs := ys) (l := y + 1) (by omega) h.2 x hx
    exact ⟨by omega, this.2⟩
theorem canBe_any (h : M.Ok w B) {ao : Option Addr} {k c : Nat} {xs : List Int} (hr : RdI w ao k c xs) (hkk : k ≤ 1000000000000000) : Calls Try.prog 68 #[.pointer (some ⟨M.b, 0, none⟩), .slice ao k c] w fun e w' => e = .returned (.bool (okP M.n M.self 0 xs)) /\ w = w' := by
 have c7 : w.cell? ⟨M.b, 7, none⟩ = some (.slice (some ⟨M.br, 0, none⟩) M.n M.n) := h.c 7 rfl
 have c0 : w.cell? ⟨M.b, 0, none⟩ = some (.int .i64 (M.self : Int)) := h.c 0 rfl
 have hn := h.n1
 have Hr : Hid (RdI w ao k c xs) := hr
 clear h hr
 go_enter Try.func68, Try.ntmps68
 go_wp2
 go_loopw [5, 10] (fun v5 v10 wr => ∃ (i : Nat) (l : Int), i ≤ k /\ v5 = .int .i64 l /\ v10 = .int .i64 (i : Int) /\ 0 ≤ l /\ l ≤ (M.n : Int) /\ Hid (okP M.n M.self 0 xs = okP M.n M.self l (xs.drop i)) /\ w = wr) (fun _ v10 _ => k - (intOf v10).toNat)
 case atStart => exact ⟨0, 0, Nat.zero_le _, rfl, rfl, Int.le_refl _, by omega, (show _ = _ from by rw [List.drop_zero]), rfl⟩
 case round =>
  obtain ⟨i, l, hi, rfl, rfl, hl0, hln, Hok, rfl⟩ := hrel
  by_cases hlt : i < k
  ·have hlen := Hr.out.len
   obtain ⟨x, hx⟩ : ∃ x, xs.getD i 0 = x := ⟨_, rfl⟩
   have hd : xs.drop i = x :: xs.drop (i + 1) := by
    rw [<- hx, List.drop_eq_getElem_cons (by omega)]
    congr 1
    simp [List.getD, show i < xs.length by omega]
   rcases Hr.out.at_ with h0 | ⟨b, off, rfl, hc⟩
   ·omega
   ·have hcx := hc i hlt
    rw [hx] at hcx
    have HK : Hid (okP M.n M.self 0 xs = (inR l ((M.n : Int) - 1) x && !(x == (M.self : Int)) && okP M.n M.self (x + 1) (xs.drop (i + 1)))) := (show _ = _ from by rw [Hok.out, hd]; rfl)
    have i1 : (0 : Int) ≤ (i : Int) := Int.natCast_nonneg _
    have i2 : (i : Int) < (k : Int) := by omega
    clear hc hd hx hlen
    cases e0 : inR l ((M.n : Int) - 1) x with
    | false =>
     rw [e0] at HK
     go_wp2_with (first | (go_at_call 66; refine (within_any _ _ _).mono ?_; rintro e w' ⟨rfl, rfl⟩) | fail)
     go_ret
     exact ⟨by rw [HK.out]; rfl, rfl⟩
    | true =>
     have hx2 : l ≤ x /\ x ≤ (M.n : Int) - 1 := by simpa [inR] using e0
     rw [e0] at HK
     cases e1 : (x == (M.self : Int)) with
     | true =>
      rw [e1] at HK
      go_wp2_with (first | (go_at_call 66; refine (within_any _ _ _).mono ?_; rintro e w' ⟨rfl, rfl⟩) | fail)
      go_ret
      exact ⟨by rw [HK.out]; rfl, rfl⟩
     | false =>
      rw [e1] at HK
      have HK2 : Hid (okP M.n M.self 0 xs = okP M.n M.self (x + 1) (xs.drop (i + 1))) := (show _ = _ from by rw [HK.out]; rfl)
      clear HK Hok
      go_wp2_with (first | (go_at_call 66; refine (within_any _ _ _).mono ?_; rintro e w' ⟨rfl, rfl⟩) | fail)
      exact ⟨⟨i + 1, x + 1, by omega, rfl, by go_num, by omega, by omega, HK2, by first | rfl | trivial⟩, by simp [intOf]; omega⟩
  ·obtain rfl : i = k := by omega
   have HK2 : Hid (okP M.n M.self 0 xs = true) := (show _ = _ from by rw [Hok.out, List.drop_of_length_le (by have := Hr.out.len; omega)]; rfl)
   clear Hok
   go_wp2
   go_ret
   exact ⟨by simp [HK2.out], rfl⟩
end
section
variable {w w' W : World}
def Tg.whole (t : Tg) : Bool := inR 1 4611686018427387904 t.e && inR 0 15 t.l && inR 1 4611686018427387904 t.i && inR 1 4611686018427387904 t.c
theorem whole_any (t : Tg) : Calls Try.prog 67 #[.agg #[.int .i64 t.e, .int .i64 t.l, .int .i64 t.i, .int .i64 t.c]] w fun e w' => e = .returned (.bool t.whole) /\ Below w.heap.size w w' := by
 unfold Tg.whole
 generalize hW : w.alloc (.cells #[.int .i64 t.e, .int .i64 t.l, .int .i64 t.i, .int .i64 t.c] 39) = W
 have hbW := bW0 hW
 have hblk := hQ0 hW
 have a0 : W.cell? ⟨w.heap.size, 0, none⟩ = some (.int .i64 t.e) := bC hblk 0
 have a1 : W.cell? ⟨w.heap.size, 1, none⟩ = some (.int .i64 t.l) := bC hblk 1
 have a2 : W.cell? ⟨w.heap.size, 2, none⟩ = some (.int .i64 t.i) := bC hblk 2
 have a3 : W.cell? ⟨w.heap.size, 3, none⟩ = some (.int .i64 t.c) := bC hblk 3
 have HB : Hid (Below w.heap.size w W) := hbW
 clear hblk hbW
 cases e0 : inR 1 4611686018427387904 t.e with
 | false =>
  go_enter Try.func67, Try.ntmps67
  go_wp2_with (first | (go_at_call 66; refine (within_any _ _ _).mono ?_; rintro e w' ⟨rfl, rfl⟩) | fail)
  go_ret
  exact ⟨rfl, HB.out⟩
 | true =>
  cases e1 : inR 0 15 t.l with
  | false =>
   go_enter Try.func67, Try.ntmps67
   go_wp2_with (first | (go_at_call 66; refine (within_any _ _ _).mono ?_; rintro e w' ⟨rfl, rfl⟩) | fail)
   go_ret
   exact ⟨rfl, HB.out⟩
  | true =>
   cases e2 : inR 1 4611686018427387904 t.i with
   | false =>
    go_enter Try.func67, Try.ntmps67
    go_wp2_with (first | (go_at_call 66; refine (within_any _ _ _).mono ?_; rintro e w' ⟨rfl, rfl⟩) | fail)
    go_ret
    exact ⟨rfl, HB.out⟩
   | true =>
    go_enter Try.func67, Try.ntmps67
    go_wp2_with (first | (go_at_call 66; refine (within_any _ _ _).mono ?_; rintro e w' ⟨rfl, rfl⟩) | fail)
    go_ret
    exact ⟨by simp, HB.out⟩
end
section
variable {w w' W : World} {B win room : Nat} {S S' : St} {E E' : En} {M M' : Mx}
def S0 : St := ⟨0, 0, 0, fun _ => none⟩
def E0 (b : Nat) : En := ⟨b, S0, 0, S0, false⟩
theorem s0_ok : S0.Ok w B := ⟨fun h => absurd h (by simp [S0]), fun n b h => (by cases h), fun n b h => (by cases h), fun n m b c h => (by cases h), by simp [S0], by simp [S0]⟩
theorem s0_own {j : Nat} : ¬ S0.own j := by
 rintro (⟨h, _⟩ | ⟨n, b, h, _⟩)
 ·simp [S0] at h
 ·cases h
theorem e0_ok {b : Nat} (h : w.heap[b]? = some (.cells (E0 b).cs 100 (0, 0))) (hb : B ≤ b) : (E0 b).Ok w B win room :=
 ⟨h, hb, s0_ok, s0_ok, fun j h1 _ => s0_own h1, Nat.le_refl _, by show 0 ≤ 0 + room; omega, by show 0 ≤ _; omega, fun n h1 h2 => (by have h2' : n ≤ 0 := h2; have h1' : 0 < n := h1; omega), fun n b h => (by cases h), fun n b h => (by cases h), rfl⟩
theorem e0_own {b j : Nat} : (E0 b).own j ↔ j = b := ⟨fun h => h.elim id (fun h => h.elim (fun h => (s0_own h).elim) (fun h => (s0_own h).elim)), fun h => .inl h⟩
abbrev zE : Array Value := #[.int .i64 0, .slice none 0 0, .int .i64 0, .int .i64 0, .slice none 0 0, .bool false]
def Mx.add (M : Mx) (q kd : Nat) : Mx := { M with es := upd M.es q (some (E0 kd)) }
theorem Mx.Ok.add (h : M.Ok w B) (hB : B ≤ w.heap.size) {q : Nat} (hq : q < M.n) : (M.add q w.heap.size).Ok ((w.alloc (.cells zE 100)).setCell ⟨M.br, q, none⟩ (.pointer (some ⟨w.heap.size, 0, none⟩))) B /\ Kept w ((w.alloc (.cells zE 100)).setCell ⟨M.br, q, none⟩ (.pointer (some ⟨w.heap.size, 0, none⟩))) (fun j => j = M.br) := by
 have ka : Kept w (w.alloc (.cells zE 100)) (fun j => j = M.br) := Kept.ofBelow (balloc (Below.refl _ _)) _
 have ks : Kept (w.alloc (.cells zE 100)) ((w.alloc (.cells zE 100)).setCell ⟨M.br, q, none⟩ (.pointer (some ⟨w.heap.size, 0, none⟩))) (fun j => j = M.br) := kset _ _ _ _ rfl
 have kk := ka.trans ks
 have hbl := h.row.lt
 have hne : w.heap.size ≠ M.br := by omega
 have hE : ((w.alloc (.cells zE 100)).setCell ⟨M.br, q, none⟩ (.pointer (some ⟨w.heap.size, 0, none⟩))).heap[w.heap.size]? = some (.cells (E0 w.heap.size).cs 100 (0, 0)) := ks.obj (heap_alloc_new _ _) hne
 have hrow := (h.row.keep (Kept.ofBelow (balloc (o := .cells zE 100) (Below.refl _ _)) (fun _ => False)) id).set q (.pointer (some ⟨w.heap.size, 0, none⟩))
 obtain ⟨C, hC, _⟩ := h.row
 refine ⟨⟨kk.obj h.blk (fun e => blk_ne h.blk hC (by decide) e), hrow.congr fun p hp => ?_, fun p f hf => ?_, fun p r f g hpr hf hg j hj hk => ?_, fun p hp => ?_, h.n1, h.w1, h.lo⟩, kk⟩
 ·show _ = eptr (upd M.es q (some (E0 w.heap.size)) p)
  by_cases e : p = q
  ·rw [if_pos e, e, upd_same]; rfl
  ·rw [if_neg e, upd_ne _ _ e]
 ·by_cases e : p = q
  ·subst e; simp only [Mx.add, upd_same, Option.some.injEq] at hf; subst hf; exact e0_ok hE hB
  ·simp only [Mx.add, upd_ne _ _ e] at hf
   exact (h.el p f hf).keep kk fun j hj e => (h.ne_e hf).2 (by rw [<- e]; exact hj)
 ·by_cases e1 : p = q
  ·subst e1
   simp only [Mx.add, upd_same, Option.some.injEq, upd_ne _ _ (Ne.symm hpr)] at hf hg
   subst hf
   have := e0_own.1 hj
   have := (h.el r g hg).lt hk; omega
  ·by_cases e2 : r = q
   ·subst e2
    simp only [Mx.add, upd_same, Option.some.injEq, upd_ne _ _ e1] at hf hg
    subst hg
    have := e0_own.1 hk
    have := (h.el p f hf).lt hj; omega
   ·simp only [Mx.add, upd_ne _ _ e1, upd_ne _ _ e2] at hf hg
    exact h.ap p r f g hpr hf hg j hj hk
 ·have hp' : M.n ≤ p := hp
  simp only [Mx.add, upd_ne _ _ (show p ≠ q by omega)]
  exact h.far p hp'
def Mx.cleared (M : Mx) (t : Tg) : Mx := { M with tag := t, es := fun _ => none }
theorem Mx.Ok.clear (h : M.Ok w B) (t : Tg) : (M.cleared t).Ok ((w.setCells M.b 3 t.vs).setCells M.br 0 (List.replicate M.n (.pointer none))) B /\ Kept w ((w.setCells M.b 3 t.vs).setCells M.br 0 (List.replicate M.n (.pointer none))) (fun j => j = M.b ∨ j = M.br) := by
 have k1 : Kept w (w.setCells M.b 3 t.vs) (fun j => j = M.b) := ksets (P := fun j => j = M.b) rfl _ _ _
 have k2 : Kept (w.setCells M.b 3 t.vs) ((w.setCells M.b 3 t.vs).setCells M.br 0 (List.replicate M.n (.pointer none))) (fun j => j = M.br) := ksets (P := fun j => j = M.br) rfl _ _ _
 obtain ⟨C, hC, _⟩ := h.row
 have hne : M.b ≠ M.br := blk_ne h.blk hC (by decide)
 have hb : (w.setCells M.b 3 t.vs).heap[M.b]? = some (.cells (M.cleared t).cs 103 (0, 0)) := by
  have := sets_list (k := M.b) (t := 103) t.vs 3 w M.cs.toList (by simpa using h.blk) (by show 3 + 4 ≤ 8; omega)
  exact this
 have hrow := Fb.sets (List.replicate M.n (Value.pointer none)) 0 _ _ (h.row.keep k1 (fun e => hne e.symm))
 refine ⟨⟨k2.obj hb hne, hrow.congr fun i hi => ?_, fun q e he => (by cases he), fun p q e f _ he => (by cases he), fun _ _ => rfl, h.n1, h.w1, h.lo⟩, (k1.mono fun j _ e => .inl e).trans (k2.mono fun j _ e => .inr e)⟩
 have hi' : i < M.n := hi
 rw [if_pos (by simp; exact hi')]
 simp [List.getD, hi', Mx.cleared, eptr]
def esT (xs : List Int) (bs : Nat -> Nat) (i : Nat) (q : Nat) : Option En := if (q : Int) ∈ xs.take i then some (E0 (bs q)) else none
theorem esT_next {xs : List Int} {bs : Nat -> Nat} {i x kd : Nat} (hx : xs[i]? = some (x : Int)) : upd (esT xs bs i) x (some (E0 kd)) = esT xs (upd bs x kd) (i + 1) := by
 funext q
 unfold esT
 rw [List.take_add_one, hx]
 by_cases e : q = x
 ·subst e; rw [upd_same, upd_same, if_pos (by simp)]
 ·rw [upd_ne _ _ e, upd_ne _ _ e]
  by_cases e2 : (q : Int) ∈ xs.take i
  ·rw [if_pos e2, if_pos (by simp [e2])]
  ·rw [if_neg e2, if_neg (by simp [e2]; omega)]
structure RsS (w wr : World) (M : Mx) (B : Nat) (t : Tg) (xs : List Int) (i : Nat) (bs : Nat -> Nat) : Prop where
 ok : ({ M with tag := t, es := esT xs bs i } : Mx).Ok wr B
 kept : Kept w wr (fun j => j = M.b ∨ j = M.br)
 fr : ∀ q : Nat, (q : Int) ∈ xs.take i -> w.heap.size ≤ bs q
theorem RsS.next {wr : World} {t : Tg} {xs : List Int} {i x : Nat} {bs : Nat -> Nat} (h : RsS w wr M B t xs i bs) (hB : B ≤ w.heap.size) (hx : xs[i]? = some (x : Int)) (hn : x < M.n) : RsS w ((wr.alloc (.cells zE 100)).setCell ⟨M.br, x, none⟩ (.pointer (some ⟨wr.heap.size, 0, none⟩))) M B t xs (i + 1) (upd bs x wr.heap.size) := by
 have hs := h.kept.size
 obtain ⟨h1, h2⟩ := h.ok.add (by omega) (q := x) hn
 refine ⟨?_, h.kept.trans (h2.mono fun j _ e => .inr e), fun q hq => ?_⟩
 ·have : (({ M with tag := t, es := esT xs bs i } : Mx).add x wr.heap.size) = { M with tag := t, es := esT xs (upd bs x wr.heap.size) (i + 1) } := by
   unfold Mx.add
   simp only
   rw [esT_next hx]
  rw [this] at h1
  exact h1
 ·by_cases e : q = x
  ·subst e; rw [upd_same]; exact hs
  ·rw [upd_ne _ _ e]
   refine h.fr q ?_
   rw [List.take_add_one, hx] at hq
   simp at hq
   rcases hq with hq | hq
   ·exact hq
   ·omega
structure ResO (w w' : World) (M : Mx) (B : Nat) (t : Tg) (xs : List Int) : Prop where
 out : ∃ bs : Nat -> Nat, Mstep w w' M { M with tag := t, es := fun q : Nat => if (q : Int) ∈ xs then some (E0 (bs q)) else none } B
theorem RsS.fin {wr : World} {t : Tg} {xs : List Int} {k : Nat} {bs : Nat -> Nat} (h : RsS w wr M B t xs k bs) (hk : xs.length ≤ k) : ResO w wr M B t xs := by
 have e : esT xs bs k = fun q : Nat => if (q : Int) ∈ xs then some (E0 (bs q)) else none := by funext q; unfold esT; rw [List.take_of_length_le hk]
 refine ⟨⟨bs, ?_, h.kept.mono fun j _ hj => hj.elim .inl (fun hj => .inr (.inl hj)), ?_⟩⟩
 ·rw [<- e]; exact h.ok
 ·rintro j (rfl | rfl | ⟨q, f, hf, hj⟩)
  ·exact .inl (.inl rfl)
  ·exact .inl (.inr (.inl rfl))
  ·have hf' : (if (q : Int) ∈ xs then some (E0 (bs q)) else none) = some f := hf
   by_cases e2 : (q : Int) ∈ xs
   ·rw [if_pos e2] at hf'
    cases hf'
    right
    rw [e0_own.1 hj]
    exact h.fr q (by rw [List.take_of_length_le hk]; exact e2)
   ·rw [if_neg e2] at hf'; cases hf'
theorem info_id : (Try.prog.info? 39).map (·.size) = some 4 := by kernel_rfl
theorem tg_one (t : Tg) : ∀ u ∈ t.vs, u.oneCell' = true := by
 intro u hu
 simp [Tg.vs] at hu
 rcases hu with rfl | rfl | rfl | rfl <;> rfl
theorem zero_ptr : ∀ w, (zeroValue 92).run Try.prog w = .ok (.pointer none) w := fun w => by
 rfl
theorem reset_tag (t : Tg) {ao : Option Addr} {k c : Nat} (ht : t.whole = false) : Calls Try.prog 25 #[.pointer (some ⟨M.b, 0, none⟩), .agg #[.int .i64 t.e, .int .i64 t.l, .int .i64 t.i, .int .i64 t.c], .slice ao k c] w fun e w' => e = .returned (.int .i64 40) /\ Below w.heap.size w w' := by
 generalize hW : w.alloc (.cells #[.int .i64 t.e, .int .i64 t.l, .int .i64 t.i, .int .i64 t.c] 39) = W
 have hbW := bW0 hW
 have hblk := hQ0 hW
 have a0 : W.cell? ⟨w.heap.size, 0, none⟩ = some (.int .i64 t.e) := bC hblk 0
 have a1 : W.cell? ⟨w.heap.size, 1, none⟩ = some (.int .i64 t.l) := bC hblk 1
 have a2 : W.cell? ⟨w.heap.size, 2, none⟩ = some (.int .i64 t.i) := bC hblk 2
 have a3 : W.cell? ⟨w.heap.size, 3, none⟩ = some (.int .i64 t.c) := bC hblk 3
 have HB : Hid (Below w.heap.size w W) := hbW
 have HWh : Hid (Calls Try.prog 67 #[.agg #[.int .i64 t.e, .int .i64 t.l, .int .i64 t.i, .int .i64 t.c]] W fun e w' => e = .returned (.bool false) /\ Below W.heap.size W w') := (show Calls _ _ _ _ _ from by rw [<- ht]; exact whole_any t)
 clear hblk hbW ht
 go_enter Try.func25, Try.ntmps25
 go_wp2_with (first | (go_at_call 67; refine HWh.out.mono ?_; rintro e w2 ⟨rfl, hb2⟩) | fail)
 go_ret
 exact ⟨rfl, bstep HB.out hb2⟩
theorem reset_arg (h : M.Ok w B) (t : Tg) {ao : Option Addr} {k c : Nat} {xs : List Int} (hr : RdI w ao k c xs) (hk : k ≤ 1000000000000000) (ht : t.whole = true) (ho : okP M.n M.self 0 xs = false) : Calls Try.prog 25 #[.pointer (some ⟨M.b, 0, none⟩), .agg #[.int .i64 t.e, .int .i64 t.l, .int .i64 t.i, .int .i64 t.c], .slice ao k c] w fun e w' => e = .returned (.int .i64 1) /\ Below w.heap.size w w' := by
 generalize hW : w.alloc (.cells #[.int .i64 t.e, .int .i64 t.l, .int .i64 t.i, .int .i64 t.c] 39) = W
 have hbW := bW0 hW
 have hblk := hQ0 hW
 have a0 : W.cell? ⟨w.heap.size, 0, none⟩ = some (.int .i64 t.e) := bC hblk 0
 have a1 : W.cell? ⟨w.heap.size, 1, none⟩ = some (.int .i64 t.l) := bC hblk 1
 have a2 : W.cell? ⟨w.heap.size, 2, none⟩ = some (.int .i64 t.i) := bC hblk 2
 have a3 : W.cell? ⟨w.heap.size, 3, none⟩ = some (.int .i64 t.c) := bC hblk 3
 have HB : Hid (Below w.heap.size w W) := hbW
 have HWh : Hid (Calls Try.prog 67 #[.agg #[.int .i64 t.e, .int .i64 t.l, .int .i64 t.i, .int .i64 t.c]] W fun e w' => e = .returned (.bool true) /\ Below W.heap.size W w') := (show Calls _ _ _ _ _ from by rw [<- ht]; exact whole_any t)
 have HC : Hid (∀ w1, Below w.heap.size w w1 -> Calls Try.prog 68 #[.pointer (some ⟨M.b, 0, none⟩), .slice ao k c] w1 fun e w' => e = .returned (.bool false) /\ w1 = w') := fun w1 hb => (show Calls _ _ _ _ _ from by rw [<- ho]; exact canBe_any (h.still hb) (hr.still hb) hk)
 clear hblk hbW ht h hr ho
 go_enter Try.func25, Try.ntmps25
 go_wp2_with (first | (go_at_call 67; refine HWh.out.mono ?_; rintro e w2 ⟨rfl, hb2⟩) | (go_at_call 68; refine (HC.out _ (bstep HB.out hb2)).mono ?_; rintro e w3 ⟨rfl, rfl⟩) | fail)
 go_ret
 exact ⟨rfl, bstep HB.out hb2⟩
theorem reset_ok (h : M.Ok w B) (hB : B ≤ w.heap.size) (t : Tg) {ao : Option Addr} {k c : Nat} {xs : List Int} (hr : RdI w ao k c xs) (hap : In ao fun b => ¬ M.own b) (hk : k ≤ 1000000000000000) (ht : t.whole = true) (ho : okP M.n M.self 0 xs = true) : Calls Try.prog 25 #[.pointer (some ⟨M.b, 0, none⟩), .agg #[.int .i64 t.e, .int .i64 t.l, .int .i64 t.i, .int .i64 t.c], .slice ao k c] w fun e w' => e = .returned (.int .i64 0) /\ ResO w w' M B t xs := by
 generalize hW : w.alloc (.cells #[.int .i64 t.e, .int .i64 t.l, .int .i64 t.i, .int .i64 t.c] 39) = W
 have hbW := bW0 hW
 have hblk := hQ0 hW
 have a0 : W.cell? ⟨w.heap.size, 0, none⟩ = some (.int .i64 t.e) := bC hblk 0
 have a1 : W.cell? ⟨w.heap.size, 1, none⟩ = some (.int .i64 t.l) := bC hblk 1
 have a2 : W.cell? ⟨w.heap.size, 2, none⟩ = some (.int .i64 t.i) := bC hblk 2
 have a3 : W.cell? ⟨w.heap.size, 3, none⟩ = some (.int .i64 t.c) := bC hblk 3
 have HB : Hid (Below w.heap.size w W) := hbW
 have HWh : Hid (Calls Try.prog 67 #[.agg #[.int .i64 t.e, .int .i64 t.l, .int .i64 t.i, .int .i64 t.c]] W fun e w' => e = .returned (.bool true) /\ Below W.heap.size W w') := (show Calls _ _ _ _ _ from by rw [<- ht]; exact whole_any t)
 have HC : Hid (∀ w1, Below w.heap.size w w1 -> Calls Try.prog 68 #[.pointer (some ⟨M.b, 0, none⟩), .slice ao k c] w1 fun e w' => e = .returned (.bool true) /\ w1 = w') := fun w1 hb => (show Calls _ _ _ _ _ from by rw [<- ho]; exact canBe_any (h.still hb) (hr.still hb) hk)
 have Hm : Hid (∀ x ∈ xs, 0 ≤ x /\ x < (M.n : Int) /\ x ≠ (M.self : Int)) := okP_mem (Int.le_refl _) ho
 have Hr : Hid (RdI w ao k c xs) := hr
 have Hap : Hid (In ao fun b => ¬ M.own b) := hap
 have HM : Hid (M.Ok w B) := h
 have hn := h.n1
 have HBw : Hid (B ≤ w.heap.size) := hB
 clear hblk hbW ht h hr ho hap hB
 go_enter Try.func25, Try.ntmps25
 go_wp2_with (first | (go_at_call 67; refine HWh.out.mono ?_) | fail)
 rintro e w2 ⟨rfl, hb2⟩
 have hbw : Below w.heap.size w w2 := bstep HB.out hb2
 have hM2 := HM.out.still hbw
 have d0 := bA hb2 a0
 have d1 := bA hb2 a1
 have d2 := bA hb2 a2
 have d3 := bA hb2 a3
 have HC2 : Hid (Calls _ _ _ _ _) := HC.out w2 hbw
 have HT : Hid (w2.there M.b 3 4) := (show w2.there M.b 3 4 from fun j hj => ⟨by rw [bC hM2.blk]; simp [Mx.cs]; omega, frozen_of_row w2 _ _ _ _ hM2.blk⟩)
 obtain ⟨C, hC, _⟩ := hM2.row
 have hne : M.b ≠ M.br := blk_ne hM2.blk hC (by decide)
 generalize hU : w2.setCells M.b 3 [.int .i64 t.e, .int .i64 t.l, .int .i64 t.i, .int .i64 t.c] = U
 have kU : Kept w2 U (fun j => j = M.b) := by rw [<- hU]; exact ksets (P := fun j => j = M.b) rfl _ _ _
 have hrowU := hM2.row.keep kU (fun e => hne e.symm)
 have c7 : U.cell? ⟨M.b, 7, none⟩ = some (.slice (some ⟨M.br, 0, none⟩) M.n M.n) := by
  have hb : U.heap[M.b]? = some (.cells (M.cleared t).cs 103 (0, 0)) := by
   rw [<- hU]
   exact sets_list (k := M.b) (t := 103) t.vs 3 w2 M.cs.toList (by simpa using hM2.blk) (by show 3 + 4 ≤ 8; omega)
  exact (bC hb 7).trans rfl
 generalize hU2 : U.setCells M.br 0 (List.replicate M.n (.pointer none)) = U2
 have hcl : ∀ ty, (Builtin.clear_ #[101] ty #[.slice (some ⟨M.br, 0, none⟩) M.n M.n]).run Try.prog U = .ok (.tuple #[]) U2 := fun ty => by
  rw [<- hU2]
  exact Lib.run_clear_slice U 101 92 ty (.pointer none) Try.underlying101 zero_ptr rfl rfl M.br 0 M.n M.n (by omega) (fun j hj => by rw [Nat.zero_add, hrowU.cell j hj]; rfl) (fun j hj => hrowU.fz _)
 have HS0 : Hid (RsS w U2 M B t xs 0 (fun _ => 0)) := (show RsS _ _ _ _ _ _ _ _ from by
  have e1 := hM2.clear t
  have e2 : (w2.setCells M.b 3 t.vs).setCells M.br 0 (List.replicate M.n (.pointer none)) = U2 := by rw [<- hU2, <- hU]; rfl
  rw [e2] at e1
  refine ⟨?_, (Kept.ofBelow hbw _).trans e1.2, fun q hq => (by simp at hq)⟩
  have e3 : ({ M with tag := t, es := esT xs (fun _ => 0) 0 } : Mx) = M.cleared t := by unfold Mx.cleared; congr 1
  rw [e3]; exact e1.1)
 clear hM2 hC hrowU kU hbw hU2 hb2
 go_wp2_with (first | (go_at_call 68; refine HC2.out.mono ?_; rintro e w3 ⟨rfl, rfl⟩) | (refine at_store 39 _ _ rfl ?_; refine wl_storeL rfl 39 _ _ rfl (L := [.int .i64 t.e, .int .i64 t.l, .int .i64 t.i, .int .i64 t.c]) rfl rfl HT.out info_id (tg_one t) ?_; rw [hU]) | fail)
 go_loopw [26] (fun v26 wr => ∃ (i : Nat) (bs : Nat -> Nat), i ≤ k /\ v26 = .int .i64 (i : Int) /\ Hid (RsS w wr M B t xs i bs)) (fun v26 _ => k - (intOf v26).toNat)
 case atStart => exact ⟨0, _, Nat.zero_le _, rfl, HS0⟩
 case round =>
  obtain ⟨i, bs, hi, rfl, hs⟩ := hrel
  by_cases hlt : i < k
  ·have hlen := Hr.out.len
   have hxm : xs.getD i 0 ∈ xs := by simp [List.getD, show i < xs.length by omega]
   have hxr := Hm.out _ hxm
   obtain ⟨x, hx⟩ : ∃ x : Nat, xs.getD i 0 = (x : Int) := ⟨(xs.getD i 0).toNat, by omega⟩
   rw [hx] at hxr
   have hxi : xs[i]? = some (x : Int) := by rw [<- hx]; simp [List.getD, show i < xs.length by omega]
   rcases Hr.out.at_ with h0 | ⟨b, off, rfl, hc⟩
   ·omega
   ·have hbo : ¬ (b = M.b ∨ b = M.br) := fun e => Hap.out b off rfl (e.elim .inl (fun e => .inr (.inl e)))
    have hcx : wr.cell? ⟨b, off + i, none⟩ = some (.int .i64 (x : Int)) := by rw [<- hx]; exact kC hs.out.kept hbo (hc i hlt)
    have e7 : wr.cell? ⟨M.b, 7, none⟩ = some (.slice (some ⟨M.br, 0, none⟩) M.n M.n) := hs.out.ok.c 7 rfl
    have hrow : Fb wr M.br 92 M.n (fun q => eptr (esT xs bs i q)) := hs.out.ok.row
    have HN : Hid (RsS w ((wr.alloc (.cells zE 100)).setCell ⟨M.br, x, none⟩ (.pointer (some ⟨wr.heap.size, 0, none⟩))) M B t xs (i + 1) (upd bs x wr.heap.size)) := hs.out.next HBw.out hxi (by omega)
    generalize hV : wr.alloc (.cells zE 100) = V at *
    have hbV : Below wr.heap.size wr V := by rw [<- hV]; exact balloc (Below.refl _ _)
    have g7 := bA hbV e7
    have gx : V.cell? ⟨M.br, x, none⟩ = some (eptr (esT xs bs i x)) := bA hbV (hrow.cell x (by omega))
    obtain ⟨pv, hpv⟩ : ∃ pv, eptr (esT xs bs i x) = .pointer pv := by cases esT xs bs i x <;> exact ⟨_, rfl⟩
    rw [hpv] at gx
    have gf : V.frozen? ⟨M.br, x, none⟩ = false := by
     have := hrow.keep (Kept.ofBelow hbV (fun _ => False)) id
     exact this.fz x
    have i1 : (0 : Int) ≤ (i : Int) := Int.natCast_nonneg _
    have i2 : (i : Int) < (k : Int) := by omega
    have j1 : (0 : Int) ≤ (x : Int) := Int.natCast_nonneg _
    have j2 : (x : Int) < (M.n : Int) := by omega
    clear hs hc hx hxi hxm hxr hbo hrow hbV hpv
    go_wp2
    exact ⟨⟨i + 1, _, by omega, by go_num, HN⟩, by simp [intOf]; omega⟩
  ·obtain rfl : i = k := by omega
   have HX : Hid (ResO w wr M B t xs) := hs.out.fin (by rw [Hr.out.len]; exact Nat.le_refl _)
   clear hs
   go_wp2
   go_ret
   exact ⟨rfl, HX.out⟩
end
end Go.Proofs.Ythanifbimndhaaa.Ln
