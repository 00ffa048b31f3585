import Derived.Test.YthanifbimndhaaaM10
namespace Go.Proofs.Ythanifbimndhaaa.Ln
set_option maxHeartbeats 40000000
open Go.RowKit Mb
set_option linter.unusedVariables false
set_option maxRecDepth 100000
set_option linter.unusedSimpArgs false
section
variable {w w' W : World} {B T : Nat} {R R' : Rx} {r r' : Rn}
structure RsR (D wr : World) (R : Rx) (t : Tg) (xs : List Int) (i : Nat) (v : Value) : Prop where
 blk : wr.heap[R.b]? = some (.cells #[.int .i64 (R.n : Int), .int .i64 (R.self : Int), .int .i64 (R.win : Int), .int .i64 (R.space : Int), .int .i64 t.e, .int .i64 t.l, .int .i64 t.i, .int .i64 t.c, .slice (some ⟨R.g, 0, none⟩) R.n R.c] 110 (0, 0))
 row : wr.ownsRow D.heap.size 107 6 v i (rs xs i)
 kept : Kept D wr (fun j => j = R.b)
structure RsI (D wr : World) (R : Rx) (t : Tg) (xs : List Int) (i : Nat) (v : Value) (eb j : Nat) : Prop where
 rr : RsR D wr R t xs i v
 ec : wr.heap[eb]? = some (.cells ((rnp (xs.take j) i).cs).toArray 107 (0, 0))
 lo : D.heap.size ≤ eb
 ne : ∀ g, v.ownBlock = some g -> g ≠ eb
theorem RsR.first {D : World} {t : Tg} {xs : List Int} (h : R.Ok D B T) : RsR D (D.setCells R.b 4 t.vs) R t xs 0 (.slice none 0 0) := by
 refine ⟨?_, ⟨rfl, .inl ⟨rfl, rfl⟩⟩, ksets (P := fun j => j = R.b) rfl _ _ _⟩
 have := sets_list (k := R.b) (t := 110) t.vs 4 D R.cs.toList (by simpa using h.blk) (by simp [Rx.cs, Tg.vs])
 exact this
theorem RsR.own_g {D wr : World} {t : Tg} {xs : List Int} {i : Nat} {v : Value} (h : RsR D wr R t xs i v) (hb : R.b < D.heap.size) {g : Nat} (hg : v.ownBlock = some g) : D.heap.size ≤ g /\ g ≠ R.b := by
 have := (World.ownsRow.lt h.row g hg).1
 exact ⟨this, by omega⟩
theorem RsR.inn {D wr : World} {t : Tg} {xs : List Int} {i : Nat} {v : Value} (h : RsR D wr R t xs i v) : RsI D ((wr.alloc (.cells z6e.toArray 107)).setCells wr.heap.size 0 z6e) R t xs i v wr.heap.size 0 := by
 obtain ⟨h1, h2⟩ := newvar wr 107 z6e.toArray z6e rfl
 refine ⟨⟨(h1.block _ (lt_heap h.blk)).trans h.blk, own_still h.row h1, h.kept.trans (Kept.ofBelow h1 _)⟩, ?_, h.kept.size, fun g hg => by have := (World.ownsRow.lt h.row g hg).2; omega⟩
 rw [h2]
 simp [rnp, Rn.cs]
theorem RsI.no {D wr : World} {t : Tg} {xs : List Int} {i eb j : Nat} {v : Value} {x : Int} (h : RsI D wr R t xs i v eb j) (hx : xs[j]? = some x) (hn : ¬ x = (i : Int)) : RsI D wr R t xs i v eb (j + 1) := by
 refine ⟨h.rr, ?_, h.lo, h.ne⟩
 rw [h.ec]
 have : decide ((i : Int) ∈ xs.take (j + 1)) = decide ((i : Int) ∈ xs.take j) := by
  rw [List.take_add_one, hx]
  simp [show ¬ (i : Int) = x from fun e => hn e.symm]
 simp only [rnp, this]
theorem RsI.yes {D wr : World} {t : Tg} {xs : List Int} {i eb j : Nat} {v : Value} (h : RsI D wr R t xs i v eb j) (hb : R.b < D.heap.size) (hx : xs[j]? = some (i : Int)) : RsI D (wr.setCell ⟨eb, 0, none⟩ (.bool true)) R t xs i v eb (j + 1) := by
 have k1 : Kept wr (wr.setCell ⟨eb, 0, none⟩ (.bool true)) (fun q => q = eb) := kset _ _ _ _ rfl
 refine ⟨⟨k1.obj h.rr.blk (fun e => by have := h.lo; omega), k1.owns h.rr.row (fun g hg e => h.ne g hg e), h.rr.kept.step k1 (fun q hq => .inr (by have := h.lo; omega))⟩, ?_, h.lo, h.ne⟩
 refine blk_set h.ec ?_
 have : decide ((i : Int) ∈ xs.take (j + 1)) = true := by
  rw [List.take_add_one, hx]
  simp
 simp [rnp, Rn.cs, this]
theorem RsI.next {D wr w4 : World} {t : Tg} {xs : List Int} {i eb j g cap : Nat} {v : Value} (h : RsI D wr R t xs i v eb j) (hb : R.b < D.heap.size) (ho : w4.ownsRow D.heap.size 107 6 (.slice (some ⟨g, 0, none⟩) (i + 1) cap) (i + 1) (rs xs i ++ (rnp xs i).cs)) (hk : Kept wr w4 (fun k => v.ownBlock = some k)) : RsR D w4 R t xs (i + 1) (.slice (some ⟨g, 0, none⟩) (i + 1) cap) :=
 ⟨hk.obj h.rr.blk (fun e => (h.rr.own_g hb e).2 rfl), by rw [rs_succ]; exact ho, h.rr.kept.step hk (fun q hq => .inr (h.rr.own_g hb hq).1)⟩
theorem RsR.fin {D wr : World} {t : Tg} {xs : List Int} {v : Value} (h : R.Ok D B T) (hB : B ≤ D.heap.size) (hs : RsR D wr R t xs R.n v) : ∃ g c, v = .slice (some ⟨g, 0, none⟩) R.n c /\ Rstep D (wr.setCell ⟨R.b, 8, none⟩ v) R { R with tag := t, g := g, c := c, es := rnp xs } B T := by
 have hb := lt_heap h.blk
 rcases hs.row.2 with ⟨_, h0⟩ | ⟨g, cap, cur, hv, hg, hh, hr1, hr2⟩
 ·have := h.n1; omega
 ·have hgb : g ≠ R.b := by omega
  refine ⟨g, cap, hv, ?_⟩
  subst hv
  have k1 : Kept wr (wr.setCell ⟨R.b, 8, none⟩ (.slice (some ⟨g, 0, none⟩) R.n cap)) (fun q => q = R.b) := kset _ _ _ _ rfl
  have hrow := k1.owns hs.row (fun q hq e => by cases hq; exact hgb e)
  refine ⟨⟨blk_set hs.blk rfl, rk_of hrow (Nat.le_refl _) (rs_at xs R.n), fun q _ => rnp_ok xs q, fun p q k _ _ _ hk => (by cases hk), fun p q k _ _ _ hk => (by cases hk), ⟨h.n1.1, h.n1.2.1, h.n1.2.2.1, hr1⟩, h.w1, ⟨h.lo.1, Nat.le_trans hB hg⟩, h.t1⟩, ?_, ?_, rfl⟩
  ·exact (hs.kept.trans k1).mono fun j _ hj => .inl hj
  ·rintro j (rfl | rfl | ⟨q, hq, hj⟩)
   ·exact .inl (.inl rfl)
   ·exact .inr hg
   ·rcases hj with hj | hj | ⟨y, hy, _⟩ | ⟨x, hx, _⟩
    ·cases hj
    ·cases hj
    ·cases hy
    ·cases hx
theorem end_one (pe : Bool) : ∀ u ∈ ([.bool pe, .slice none 0 0, .int .i64 0, .int .i64 0, .slice none 0 0, .bool false] : List Value), u.oneCell' = true := by
 intro u hu
 simp only [List.mem_cons, List.not_mem_nil, or_false] at hu
 rcases hu with rfl | rfl | rfl | rfl | rfl | rfl <;> rfl
end
def fro (t : Tg) : Nat -> List Bn -> List Value
 | _, [] => []
 | op, y :: l => frv t (op + 1) y.v ++ fro t (op + 1) l
section
variable {w w' W : World} {B T : Nat} {R R' : Rx} {r r' : Rn}
theorem fro_snoc (t : Tg) (y : Bn) : ∀ (l : List Bn) (op : Nat), fro t op (l ++ [y]) = fro t op l ++ frv t (op + l.length + 1) y.v
 | [], op => by simp [fro]
 | z :: l, op => by
   rw [List.cons_append, fro, fro, fro_snoc t y l (op + 1), List.append_assoc]
   congr 3
   simp; omega
theorem fr_one (a b c d e : Int) (k n m : Nat) : ∀ u ∈ ([.int .i64 a, .int .i64 b, .int .i64 c, .int .i64 d, .int .i64 e, .slice (some ⟨k, 0, none⟩) n m] : List Value), u.oneCell' = true := by
 intro u hu
 simp only [List.mem_cons, List.not_mem_nil, or_false] at hu
 rcases hu with rfl | rfl | rfl | rfl | rfl | rfl <;> rfl
theorem step_pushR {ops : Array Oper} {o : Oper} {a : Act} {K : Act -> World -> Prop} {Q : Exit -> Act -> World -> Prop} {E : Prop} (hgd : o.guard = none) (s x : Operand)
  (ho : o.op = .call { callee := .builtin .append, args := #[s, x], argTypes := #[46, 46] })
  (w0 : World) (v : Value) (vals : List Value) (L : List Value) (hL : L.length = 6) (hL1 : ∀ u ∈ L, u.oneCell' = true) (hs : a.eval s = v) (n : Nat) (hown : w0.ownsRow B 55 6 v n vals) (hw : w = w0.alloc (.cells L.toArray 55)) (hx : a.eval x = .slice (some ⟨w0.heap.size, 0, none⟩) 1 1)
  (hn : n + 1 ≤ 1000000) (hbase : B ≤ w0.heap.size)
  (h : ∀ g cap w', w'.ownsRow B 55 6 (.slice (some ⟨g, 0, none⟩) (n + 1) cap) (n + 1) (vals ++ L) -> Kept w0 w' (fun k => v.ownBlock = some k) -> (v.ownBlock = some g ∨ w0.heap.size ≤ g) -> g < w'.heap.size -> K (a.put o.dst (.slice (some ⟨g, 0, none⟩) (n + 1) cap)) w') : if Region.wanted o (yielded ops a.tmps) = true then Oper.wp Try.prog o a w K Q else E := by
 obtain ⟨i0, hi, hz0, hz1, hz2⟩ := frame_info
 subst hw
 refine step_append_lies _ hgd s x 46 ho B 55 i0 (.agg z6.toArray) 6 64 Try.underlying46 hi hz0 hz1 hz2 rfl (by decide) v n vals hs (World.ownsRow.alloc hown _) ⟨w0.heap.size, 0, none⟩ 1 1 L hx (by rw [hL]) (fun j y hy => by rw [Addr.add_mid, Nat.zero_add, bC (heap_alloc_new _ _), List.getElem?_toArray, hy]) hL1 (by omega) (by unfold maxLen; omega) (by omega) (by simp; omega) _ rfl fun g cap w' h2 h3 h4 h5 => h g cap w' h2 ?_ ?_ h5
 ·exact (Kept.ofBelow ((Below.refl _ w0).alloc (Nat.le_refl _) (.cells L.toArray 55)) _).step (Kept.ofGrown h3) (fun j hj => .inl hj.symm)
 ·rcases h4 with h4 | h4
  ·exact .inl h4
  ·right; rw [h4]; simp
structure FrR (w wr : World) (t : Tg) (an : Nat) (ps : List Bn) (i : Nat) (v : Value) (l : List Bn) : Prop where
 len : l.length = i
 row : wr.ownsRow w.heap.size 55 6 v i (fro t an l)
 bs : l.map Bn.bs = ((ps.drop an).take i).map Bn.bs
 ok : ∀ y ∈ l, y.Ok wr w.heap.size
 bel : Below w.heap.size w wr
structure FrRO (w w' : World) (t : Tg) (an : Nat) (ps : List Bn) (n : Nat) (e : Ending) : Prop where
 out : ∃ v l, e = .returned v /\ FrR w w' t an ps n v l
theorem FrR.next {wr D1 w3 w4 : World} {t : Tg} {an i gg cap : Nat} {ps l : List Bn} {v : Value} {x y : Bn} (h : FrR w wr t an ps i v l) (hx : ps[an + i]? = some x) (h1 : Below wr.heap.size wr D1) (h3 : Below D1.heap.size D1 w3) (hy : y.bs = x.bs) (hok : y.Ok w3 D1.heap.size) (ho : w4.ownsRow w.heap.size 55 6 (.slice (some ⟨gg, 0, none⟩) (i + 1) cap) (i + 1) (fro t an l ++ frv t (an + i + 1) y.v)) (hk : Kept w3 w4 (fun k => v.ownBlock = some k)) : FrR w w4 t an ps (i + 1) (.slice (some ⟨gg, 0, none⟩) (i + 1) cap) (l ++ [y]) := by
 have hb3 : Below wr.heap.size wr w3 := bstep h1 h3
 have hvt : ∀ j, v.ownBlock = some j -> ∃ C, w3.heap[j]? = some (.cells C 55 (0, 0)) := fun j hj => own_ty (own_still h.row hb3) hj
 refine ⟨by simp [h.len], ?_, ?_, fun z hz => ?_, ?_⟩
 ·rw [fro_snoc, h.len]; exact ho
 ·rw [List.map_append, h.bs, List.take_add_one, List.map_append]
  congr 1
  rw [List.getElem?_drop, hx]
  simp [hy]
 ·rcases List.mem_append.1 hz with hz | hz
  ·exact ((h.ok z hz).still hb3).keep hk fun e => by obtain ⟨C, hC⟩ := hvt _ e; exact ((h.ok z hz).still hb3).ne hC (by decide) rfl
  ·simp at hz
   subst hz
   refine (hok.keep hk fun e => ?_).lower (Nat.le_trans h.bel.size h1.size)
   obtain ⟨C, hC⟩ := hvt _ e
   exact hok.ne hC (by decide) rfl
 ·exact (bstep h.bel hb3).trans (hk.below (Nat.le_trans h.bel.size hb3.size) fun j hj e => by have := (World.ownsRow.lt h.row j e).1; omega)
theorem rframes_no (h : R.Ok w B T) {q : Int} (hq : R.at q = none) : Calls Try.prog 21 #[.pointer (some ⟨R.b, 0, none⟩), .int .i64 q] w fun e w' => e = .returned (.slice none 0 0) /\ w = w' := by
 have HI : Hid (Calls Try.prog 63 #[.pointer (some ⟨R.b, 0, none⟩), .int .i64 q] w fun e w' => e = .returned (.bool false) /\ w = w') := is_no h hq
 clear h hq
 go_enter Try.func21, Try.ntmps21
 go_wp2_with (first | (go_at_call 63; refine HI.out.mono ?_; rintro e w' ⟨rfl, rfl⟩) | fail)
 go_ret
 exact ⟨rfl, rfl⟩
theorem rframes_yes (h : R.Ok w B T) {q : Int} (hq : R.at q = some r) : Calls Try.prog 21 #[.pointer (some ⟨R.b, 0, none⟩), .int .i64 q] w fun e w' => FrRO w w' R.tag r.an r.ps (R.last r - r.an) e := by
 have HI : Hid (Calls Try.prog 63 #[.pointer (some ⟨R.b, 0, none⟩), .int .i64 q] w fun e w' => e = .returned (.bool true) /\ w = w') := is_yes h hq
 obtain ⟨k, rfl, hk, he, hpe⟩ := rat_es hq
 have hr := h.el k hk
 rw [he] at hr
 have hc := h.ce hk he
 have i1 : (0 : Int) ≤ (k : Int) := Int.natCast_nonneg _
 have i2 : (k : Int) < (R.n : Int) := by omega
 have s1 := hr.s1
 have s2 := hr.s2
 have s3 := h.t1
 have s4 := h.w1
 obtain ⟨pl, hpl⟩ : ∃ l, r.ps.length = l := ⟨_, rfl⟩
 obtain ⟨an, han⟩ : ∃ l, r.an = l := ⟨_, rfl⟩
 obtain ⟨la, hla⟩ : ∃ l, R.last r = l := ⟨_, rfl⟩
 have hl1 : an ≤ la /\ la ≤ pl := by rw [<- hla, <- han, <- hpl]; unfold Rx.last; omega
 have HR : Hid (R.Ok w B T) := h
 have HE : Hid (R.es k = r) := he
 have Hpl : Hid (r.ps.length = pl) := hpl
 have Han : Hid (r.an = an) := han
 have HLa : Hid (∀ D, Below w.heap.size w D -> Calls Try.prog 64 #[.pointer (some ⟨R.b, 0, none⟩), .int .i64 (k : Int)] D fun e w' => e = .returned (.int .i64 (la : Int)) /\ Below D.heap.size D w') := fun D hb => (show Calls _ _ _ _ _ from by have := rlast_any (h.still hb) hk he; rw [hla] at this; exact this)
 have c8 := hc.c8
 have e2 := hc.e2
 rw [han] at e2
 rw [hla, han]
 rw [hpl, han] at s1
 rw [hpl] at s2
 have HF0 : Hid (∃ l, FrR w w R.tag an r.ps 0 (.slice none 0 0) l) := (show ∃ l, FrR _ _ _ _ _ _ _ l from ⟨[], rfl, ⟨rfl, .inl ⟨rfl, rfl⟩⟩, by simp, fun y hy => (by cases hy), Below.refl _ _⟩)
 clear h hq hr hc he hpe hpl han hla
 go_enter Try.func21, Try.ntmps21
 go_wp2_with (first | (go_at_call 63; refine HI.out.mono ?_; rintro e w' ⟨rfl, rfl⟩) | fail)
 go_loopw [5, 6] (fun v5 v6 wr => ∃ i : Nat, i ≤ la - an /\ v6 = .int .i64 ((an : Int) + 1 + (i : Int)) /\ Hid (∃ l, FrR w wr R.tag an r.ps i v5 l)) (fun _ v6 _ => la + 2 - (intOf v6).toNat)
 case atStart => exact ⟨0, by omega, by simp, HF0⟩
 case round =>
  clear HF0
  obtain ⟨i, hi, rfl, hst⟩ := hrel
  obtain ⟨l, hS⟩ := hst.out
  clear hst
  have HLr : Hid (Calls Try.prog 64 #[.pointer (some ⟨R.b, 0, none⟩), .int .i64 (k : Int)] wr fun e w' => e = .returned (.int .i64 (la : Int)) /\ Below wr.heap.size wr w') := HLa.out wr hS.bel
  by_cases hlt : i < la - an
  ·have j2 : (an : Int) + 1 + (i : Int) ≤ (la : Int) := by omega
   have HS : Hid (FrR w wr R.tag an r.ps i _ l) := hS
   clear hS
   go_wp2_with (first | (go_at_call 64; refine HLr.out.mono ?_) | fail)
   rintro e w2 ⟨rfl, hb2⟩
   have hS2 := HS.out
   obtain ⟨fa, fc, hv⟩ := row_shape' hS2.row
   rw [hv] at HS
   rw [hv]
   have hS3 : FrR w w2 R.tag an r.ps i (.slice fa i fc) l := ⟨HS.out.len, own_still HS.out.row hb2, HS.out.bs, fun y hy => (HS.out.ok y hy).still hb2, bstep HS.out.bel hb2⟩
   have hR2 := HR.out.still hS3.bel
   have hc2 := hR2.ce hk HE.out
   have hr2 := hR2.el k hk
   rw [HE.out] at hr2
   have hrp := hr2.rp
   obtain ⟨x, hx⟩ : ∃ x, r.ps[an + i]? = some x := ⟨_, List.getElem?_eq_getElem (by rw [Hpl.out]; omega)⟩
   have hxk := hr2.bp x (List.mem_of_getElem? hx)
   obtain ⟨pg, pc, hpv⟩ : ∃ pg pc, r.pv = .slice (some ⟨pg, 0, none⟩) pl pc := by
    rcases hrp.2 with ⟨_, h0⟩ | ⟨g, cap, cur, hv', _⟩
    ·have := Hpl.out; omega
    ·exact ⟨g, cap, by rw [hv', Hpl.out]⟩
   have m4 := hc2.c4
   have m5 := hc2.c5
   have m6 := hc2.c6
   have m7 := hc2.c7
   have m8 := hc2.c8
   have m9 := hc2.e1
   rw [hpv] at m9 hrp
   rw [Hpl.out] at hrp
   have m10 : w2.cell? ⟨pg, an + i, none⟩ = some (.slice (some ⟨x.k, 0, none⟩) x.bs.length x.c) := by
    rw [World.ownsRow.cellAt hrp (an + i) (by omega), List.getElem?_map, hx]
    rfl
   have q1 : (0 : Int) ≤ (an : Int) + (i : Int) := by omega
   have q2 : (an : Int) + (i : Int) < (pl : Int) := by omega
   have HCp : Hid (∀ D, Below w2.heap.size w2 D -> Calls Try.prog 65 #[.slice (some ⟨x.k, 0, none⟩) x.bs.length x.c] D fun e w' => CpO D w' x.bs e) := fun D hb => (show Calls _ _ _ _ _ from copied_any (hxk.still hb).rd hxk.pos hxk.le)
   have HOw : Hid (w2.ownsRow w.heap.size 55 6 (.slice fa i fc) i (fro R.tag an l)) := hS3.row
   have HB0 : Hid (w.heap.size ≤ w2.heap.size) := (show _ ≤ _ from hS3.bel.size)
   have HNb : Hid (¬ (Value.slice fa i fc).ownBlock = some R.b) := (show ¬ _ from fun e => by have := (World.ownsRow.lt hS3.row _ e).1; have := HR.out.lt (.inl rfl); omega)
   have HNg : Hid (¬ (Value.slice fa i fc).ownBlock = some R.g) := (show ¬ _ from fun e => by have := (World.ownsRow.lt hS3.row _ e).1; have := HR.out.lt (.inr (.inl rfl)); omega)
   have HNp : Hid (¬ (Value.slice fa i fc).ownBlock = some pg) := (show ¬ _ from fun e => by have := (World.ownsRow.lt hS3.row _ e).1; have := HR.out.lt (j := pg) (.inr (.inr ⟨k, hk, .inl (by rw [HE.out, hpv]; rfl)⟩)); omega)
   have HS3 : Hid (FrR w w2 R.tag an r.ps i (.slice fa i fc) l) := hS3
   have Hx : Hid (r.ps[an + i]? = some x) := hx
   clear hS2 hS3 hR2 hc2 hr2 hrp hxk hpv hx HS hv hb2 HLr
   go_wp2
   refine wp_region_held_drew (S := (fun w' => w'.cell? ⟨R.b, 4, none⟩ = some (.int .i64 R.tag.e) /\ w'.cell? ⟨R.b, 5, none⟩ = some (.int .i64 R.tag.l) /\ w'.cell? ⟨R.b, 6, none⟩ = some (.int .i64 R.tag.i) /\ w'.cell? ⟨R.b, 7, none⟩ = some (.int .i64 R.tag.c) /\ w'.cell? ⟨R.b, 8, none⟩ = some (.slice (some ⟨R.g, 0, none⟩) R.n R.c) /\ w'.cell? ⟨R.g, k * 6 + 1, none⟩ = some (.slice (some ⟨pg, 0, none⟩) pl pc) /\ w'.cell? ⟨pg, an + i, none⟩ = some (.slice (some ⟨x.k, 0, none⟩) x.bs.length x.c))) (by kernel_rfl) ⟨(dW0 m4), (dW0 m5), (dW0 m6), (dW0 m7), (dW0 m8), (dW0 m9), (dW0 m10)⟩ (fun hH => ?_)
   simp only [Act.put, lA, lC, lN, zA]
   refine wG 0 (.slice fa i fc) rfl hH ?_
   simp only [aP, gA, gZ, gC, sA, sZ, sC]
   refine wG 1 (.pointer (some ⟨R.b, 0, none⟩)) rfl hH ?_
   simp only [aP, gA, gZ, gC, sA, sZ, sC]
   refine wG 2 (.pointer (some ⟨R.b, 0, none⟩)) rfl hH ?_
   simp only [aP, gA, gZ, gC, sA, sZ, sC]
   refine wG 3 (.pointer (some ⟨R.b, 4, none⟩)) rfl hH ?_
   simp only [aP, gA, gZ, gC, sA, sZ, sC]
   refine wL 4 (.agg #[.int .i64 R.tag.e, .int .i64 R.tag.l, .int .i64 R.tag.i, .int .i64 R.tag.c]) rfl hH ?_
   simp only [aP, gA, gZ, gC, sA, sZ, sC]
   refine wG 5 (.int .i64 ((an : Int) + 1 + (i : Int))) rfl hH ?_
   simp only [aP, gA, gZ, gC, sA, sZ, sC]
   refine wG 6 (.pointer (some ⟨R.b, 0, none⟩)) rfl hH ?_
   simp only [aP, gA, gZ, gC, sA, sZ, sC]
   refine wG 7 (.pointer (some ⟨R.b, 0, none⟩)) rfl hH ?_
   simp only [aP, gA, gZ, gC, sA, sZ, sC]
   refine wG 8 (.pointer (some ⟨R.b, 8, none⟩)) rfl hH ?_
   simp only [aP, gA, gZ, gC, sA, sZ, sC]
   refine wL 9 (.slice (some ⟨R.g, 0, none⟩) R.n R.c) rfl hH ?_
   simp only [aP, gA, gZ, gC, sA, sZ, sC]
   refine wG 10 (.int .i64 (k : Int)) rfl hH ?_
   simp only [aP, gA, gZ, gC, sA, sZ, sC]
   refine wG 11 (.pointer (some ⟨R.g, k * 6, none⟩)) rfl hH ?_
   simp only [aP, gA, gZ, gC, sA, sZ, sC]
   refine wG 12 (.pointer (some ⟨R.g, k * 6 + 1, none⟩)) rfl hH ?_
   simp only [aP, gA, gZ, gC, sA, sZ, sC]
   refine wL 13 (.slice (some ⟨pg, 0, none⟩) pl pc) rfl hH ?_
   simp only [aP, gA, gZ, gC, sA, sZ, sC]
   refine wG 14 (.int .i64 ((an : Int) + 1 + (i : Int))) rfl hH ?_
   simp only [aP, gA, gZ, gC, sA, sZ, sC]
   refine wX 15 (.int .i64 ((an : Int) + (i : Int))) rfl (Or.inl ⟨by rfl, fun w' hS => by (go_simp <;> (rw [wrap_id (by omega) (by omega)]; omega))⟩) hH ?_
   simp only [aP, gA, gZ, gC, sA, sZ, sC]
   refine wX 16 (.pointer (some ⟨pg, an + i, none⟩)) rfl (Or.inl ⟨by rfl, fun w' hS => by (go_simp <;> (first | omega | (simp only [Int.toNat_add (Int.natCast_nonneg _) (Int.natCast_nonneg _), Int.toNat_natCast]) | skip))⟩) hH ?_
   simp only [aP, gA, gZ, gC, sA, sZ, sC]
   refine wL 17 (.slice (some ⟨x.k, 0, none⟩) x.bs.length x.c) rfl hH ?_
   simp only [aP, gA, gZ, gC, sA, sZ, sC]
   have hbD1 : Below w2.heap.size w2 w2.drew := dB _
   have q0 := bA hbD1 m4
   have q1 := bA hbD1 m5
   have q2 := bA hbD1 m6
   have q3 := bA hbD1 m7
   have q4 := bA hbD1 m8
   have q5 := bA hbD1 m9
   have q6 := bA hbD1 m10
   generalize w2.drew = D1 at *
   refine rY 18 rfl fun K hK => ?_
   go_simp
   refine (HCp.out D1 hbD1).mono ?_
   rintro e w3 hx3
   obtain ⟨⟨y, he3, hy3, hok3⟩, hb3⟩ := hx3
   rw [show y.v = Value.slice (some ⟨y.k, 0, none⟩) y.bs.length y.c from rfl] at he3
   subst he3
   have Hy3 : Hid (y.bs = x.bs) := hy3
   have Hok3 : Hid (y.Ok w3 D1.heap.size) := hok3
   clear hy3 hok3
   refine hK.out _ _ ⟨(bA hb3 q0), (bA hb3 q1), (bA hb3 q2), (bA hb3 q3), (bA hb3 q4), (bA hb3 q5), (bA hb3 q6)⟩ (fun hH => ?_)
   clear hK K
   refine wG 19 (.agg #[.int .i64 R.tag.e, .int .i64 R.tag.l, .int .i64 R.tag.i, .int .i64 R.tag.c, .int .i64 ((an : Int) + 1 + (i : Int)), .slice (some ⟨y.k, 0, none⟩) y.bs.length y.c]) rfl hH ?_
   simp only [aP, gA, gZ, gC, sA, sZ, sC]
   refine rY 20 rfl fun K hK => ?_
   go_simp
   refine hK.out _ _ ⟨(aL0 (bA hb3 q0)), (aL0 (bA hb3 q1)), (aL0 (bA hb3 q2)), (aL0 (bA hb3 q3)), (aL0 (bA hb3 q4)), (aL0 (bA hb3 q5)), (aL0 (bA hb3 q6))⟩ (fun hH => ?_)
   clear hK K
   obtain ⟨w3a, hw3a⟩ : ∃ x, w3.alloc (.cells ([.int .i64 R.tag.e, .int .i64 R.tag.l, .int .i64 R.tag.i, .int .i64 R.tag.c, .int .i64 ((an : Int) + 1 + (i : Int)), .slice (some ⟨y.k, 0, none⟩) y.bs.length y.c] : List Value).toArray 55) = x := ⟨_, rfl⟩
   have hb3a : Below w3.heap.size w3 w3a := by rw [<- hw3a]; exact balloc (Below.refl _ _)
   rw [hw3a] at hH ⊢
   refine rY 21 rfl fun K hK => ?_
   refine step_pushR rfl _ _ rfl w3 _ _ [.int .i64 R.tag.e, .int .i64 R.tag.l, .int .i64 R.tag.i, .int .i64 R.tag.c, .int .i64 ((an : Int) + 1 + (i : Int)), .slice (some ⟨y.k, 0, none⟩) y.bs.length y.c] rfl (fr_one _ _ _ _ _ _ _ _) rfl i (own_still HOw.out (bstep hbD1 hb3)) hw3a.symm rfl (by omega) (Nat.le_trans HB0.out (bstep hbD1 hb3).size) ?_
   intro gg cap w4 ho4 hk4 hg4 hl4
   have hb4 : Below w3.heap.size w3 w4 ∨ True := .inr trivial
   have z4 := kC hk4 HNb.out (bA hb3 q0)
   have z5 := kC hk4 HNb.out (bA hb3 q1)
   have z6 := kC hk4 HNb.out (bA hb3 q2)
   have z7 := kC hk4 HNb.out (bA hb3 q3)
   have z8 := kC hk4 HNb.out (bA hb3 q4)
   have z9 := kC hk4 HNg.out (bA hb3 q5)
   have z10 := kC hk4 HNp.out (bA hb3 q6)
   refine hK.out _ _ ⟨z4, z5, z6, z7, z8, z9, z10⟩ (fun hH => ?_)
   clear hK K
   refine wG 22 (.slice (some ⟨gg, 0, none⟩) (i + 1) cap) rfl hH ?_
   simp only [aP, gA, gZ, gC, sA, sZ, sC]
   refine wpAnyH_done (by kernel_rfl) ?_ _
   clear hH
   have HN : Hid (∃ l, FrR w w4 R.tag an r.ps (i + 1) (.slice (some ⟨gg, 0, none⟩) (i + 1) cap) l) := (show ∃ l, FrR _ _ _ _ _ _ _ l from ⟨l ++ [y], HS3.out.next Hx.out hbD1 hb3 Hy3.out Hok3.out (by
    have e9 : frv R.tag (an + i + 1) y.v = [.int .i64 R.tag.e, .int .i64 R.tag.l, .int .i64 R.tag.i, .int .i64 R.tag.c, .int .i64 ((an : Int) + 1 + (i : Int)), .slice (some ⟨y.k, 0, none⟩) y.bs.length y.c] := by
     unfold frv
     rw [show (((an + i + 1 : Nat)) : Int) = (an : Int) + 1 + (i : Int) from by omega]
     rfl
    rw [e9]
    exact ho4) hk4⟩)
   clear ho4 hk4 hg4 hl4 HS3 hbD1 hb3 Hok3 z4 z5 z6 z7 z8 z9 z10
   go_wp2
   exact ⟨⟨i + 1, by omega, by go_num, HN⟩, by simp [intOf]; omega⟩
  ·have hil : i = la - an := by omega
   have j2 : ¬ (an : Int) + 1 + (i : Int) ≤ (la : Int) := by omega
   have HS : Hid (FrR w wr R.tag an r.ps i _ l) := hS
   clear hS
   go_wp2_with (first | (go_at_call 64; refine HLr.out.mono ?_) | fail)
   rintro e w2 he2 hb2
   subst he2
   have HS2 := HS.out
   have hw2 := own_still HS2.row hb2
   rw [hil] at HS2
   have HZ : Hid (FrRO w w2 R.tag an r.ps (la - an) (.returned _)) := (show FrRO _ _ _ _ _ _ _ from ⟨_, l, rfl, by rw [<- hil]; exact ⟨HS.out.len, own_still HS.out.row hb2, HS.out.bs, fun y hy => (HS.out.ok y hy).still hb2, bstep HS.out.bel hb2⟩⟩)
   clear hb2 HS
   go_wp2
   go_ret
   exact HZ.out
end
end Go.Proofs.Ythanifbimndhaaa.Ln
