import Derived.Test.YtihcaopcfhbofaaX48
import Derived.Test.YtihcaopcfhbofaaX41
import Derived.Test.YtihcaopcfhbofaaX22
import Derived.Test.YtihcaopcfhbofaaX43
import Derived.Test.YtihcaopcfhbofaaX49
namespace Go.Proofs.Ytihcaopcfhbofaa.Fm
open Go.RowKit Go.Maps Mb
set_option linter.unusedVariables false
set_option maxRecDepth 100000
set_option linter.unusedSimpArgs false
section
variable {w w' W : World} {B : Nat}
theorem oneSls : (Try.prog.info? 25).map (·.size) = some 1 := by kernel_rfl
theorem oneIns : (Try.prog.info? 26).map (·.size) = some 1 := by kernel_rfl
theorem wl_store1 {ops : Array Oper} {rest : List Oper} {o : Oper} {a : Act} {Q : Exit → Act → World → Prop} (hgd : o.guard = none) (ty : TypeId) (x y : Operand) (ho : o.op = .store ty x y) {g p t : Nat} {C : Array Value} {sa : Option Addr} {sn sc : Nat} (hx : a.eval x = .pointer (some ⟨g, p, none⟩)) (hy : a.eval y = .slice sa sn sc) (hg : w.heap[g]? = some (.cells C t (0, 0))) (hp : p < C.size) (hz : (Try.prog.info? ty).map (·.size) = some 1) (hd : o.dst = none)
    (h : wpList Try.prog ops Q rest a (w.setCell ⟨g, p, none⟩ (.slice sa sn sc))) : wpList Try.prog ops Q (o :: rest) a w :=
  wpList_plain hgd fun K hK => by
    have q : w.cell? ⟨g, p, none⟩ = some C[p] := by rw [blk_cell hg p]; exact Array.getElem?_eq_getElem hp
    have z : w.frozen? ⟨g, p, none⟩ = false := frozen_of_row w _ _ _ _ hg
    have hs : (sizeOf ty).run Try.prog w = .ok 1 w := by
      cases hi : Try.prog.info? ty with
      | none => rw [hi] at hz; cases hz
      | some i =>
        rw [hi] at hz
        simp only [Option.map_some, Option.some.injEq] at hz
        simp [sizeOf, typeInfo, hi, hz, go_sem]
    unfold Oper.wp execOp
    simp only [ho, hx, hy]
    go_simp
    have hk := hK a _ h
    rw [hd] at *
    exact hk
theorem Kp.still {B gr : Nat} (hB : B ≤ w.heap.size) (hb : Below w.heap.size w w') : Kp B gr w w' := ⟨hb.mono hB, fun _ _ _ _ _ _ _ _ h _ => own_still h hb⟩
theorem Ld.still {B gr cr nr o : Nat} {L0 L : List Fl} {w0 : World} (hB : B ≤ w.heap.size) (h : Ld B gr cr nr o L0 w0 w L) (hb : Below w.heap.size w w') : Ld B gr cr nr o L0 w0 w' L := ⟨h.len, h.out, h.m.still hb, own_still h.r hb, h.k.trans (Kp.still hB hb)⟩
theorem own_heap {B t k n c g : Nat} {l : List Value} (h : w.ownsRow B t k (.slice (some ⟨g, 0, none⟩) n c) n l) : ∃ C, w.heap[g]? = some (.cells C t (0, 0)) ∧ n * k ≤ C.size := by
  rcases h.2 with ⟨e, h0⟩ | ⟨g', cap, cur, hv, hB, hg, hnc, hcm, hcs, htk⟩
  · cases e
  · simp only [Value.slice.injEq, Option.some.injEq, Addr.mk.injEq, and_true] at hv
    obtain ⟨⟨rfl, -⟩, -, rfl⟩ := hv
    exact ⟨cur, hg, by rw [hcs]; exact Nat.mul_le_mul_right k hnc⟩
theorem kept_one (w : World) (g p : Nat) (v : Value) : Kept w (w.setCell ⟨g, p, none⟩ v) (fun j => j = g) := ⟨rfl, rfl, rfl, by simp, fun i hi hp => Below.heap_setCell w ⟨g, p, none⟩ v i hp⟩
theorem own_nb {B t k n c : Nat} {a : Option Addr} {l : List Value} (h : w.ownsRow B t k (.slice a n c) n l) : (a = none ∧ n = 0 ∧ c = 0) ∨ ∃ g, a = some ⟨g, 0, none⟩ ∧ n ≤ c ∧ c ≤ 9223372036854775807 := by
  rcases h.2 with ⟨e, h0⟩ | ⟨g', cap, cur, hv, hB, hg, hnc, hcm, hcs, htk⟩
  · simp only [Value.slice.injEq] at e
    exact .inl ⟨e.1, h0, e.2.2⟩
  · simp only [Value.slice.injEq] at hv
    obtain ⟨rfl, -, rfl⟩ := hv
    unfold maxLen at hcm
    exact .inr ⟨g', rfl, hnc, by omega⟩
set_option maxHeartbeats 16000000 in
theorem laid_any {gr cr nr o B : Nat} {L0 ls : List Fl} {la : Option Addr} {lc : Nat} (hB : B ≤ w.heap.size) (hL : o + nr ≤ L0.length) (hr : w.ownsRow B 28 7 (.slice (some ⟨gr, 0, none⟩) nr cr) nr (flCells ((L0.drop o).take nr))) (hm : Rm B w L0) (hs : ∀ X, Kp B gr w X → RdFs X la ls ∧ ∀ k, k < ls.length → (ls.getD k fl0).In X) (hnr : nr ≤ 1048576) (hls : ls.length ≤ 1048576) : Calls Try.prog 6 #[.slice (some ⟨gr, 0, none⟩) nr cr, .slice la ls.length lc] w fun e w' => e = .returned (.tuple #[]) ∧ ∃ L, Ld B gr cr nr o L0 w w' L := by
  have HS : Hid (∀ X, Kp B gr w X → RdFs X la ls ∧ ∀ k, k < ls.length → (ls.getD k fl0).In X) := hs
  have HL0 : Hid (Ld B gr cr nr o L0 w w L0) := ⟨rfl, fun _ _ => rfl, hm, hr, Kp.refl _ _ _⟩
  have HBw : Hid (B ≤ w.heap.size) := hB
  have HLo : Hid (o + nr ≤ L0.length) := hL
  obtain ⟨si, shi, shz0, shz1, shz2⟩ := slot_info
  obtain ⟨ii, ihi, ihz0, ihz1, ihz2⟩ := int_info
  generalize hll : ls.length = ll at *
  have Hll : Hid (ls.length = ll) := hll
  clear hs hr hm hll hB hL
  go_enter Try.func6, Try.ntmps6
  go_wp2
  go_loopw [4] (fun i wr => ∃ c : Nat, c ≤ nr ∧ c ≤ ll ∧ i = .int .i64 c ∧ ∃ L, Ld B gr cr nr o L0 w wr L) (fun i _ => nr - (intOf i).toNat)
  case atStart => exact ⟨0, Nat.zero_le _, Nat.zero_le _, rfl, L0, HL0.out⟩
  case round =>
    obtain ⟨c, hc1, hc2, rfl, L, hld⟩ := hrel
    have HLd : Hid (Ld B gr cr nr o L0 w wr L) := hld
    clear hld HL0
    have i1 : (0 : Int) ≤ (c : Int) := Int.natCast_nonneg _
    by_cases hlt : c < nr ∧ c < ll
    · obtain ⟨hc3, hc4⟩ := hlt
      have i2 : (c : Int) < (nr : Int) := by omega
      have i3 : (c : Int) < (ll : Int) := by omega
      have hBr : B ≤ wr.heap.size := Nat.le_trans HBw.out HLd.out.k.b.size
      have hD := HLd.out.still hBr (drew_bel wr)
      have HD : Hid (Ld B gr cr nr o L0 w wr.drew L) := hD
      have HBr : Hid (B ≤ wr.drew.heap.size) := hBr
      have hlo : o + c < L.length := by rw [hD.len]; have := HLo.out; omega
      obtain ⟨hsf, hsi⟩ := HS.out wr.drew hD.k
      obtain ⟨lb, lo, rfl, hsc⟩ := hsf.at (i := c) (by rw [Hll.out]; exact hc4)
      have hin := hsi c hc4
      have HSc : Hid (∀ X, Kp B gr w X → X.rangeAt lb (lo + c * 7) (ls.getD c fl0).cs ∧ (ls.getD c fl0).In X) := fun X hX => by
        obtain ⟨h1, h2⟩ := HS.out X hX
        obtain ⟨b', o', e, h3⟩ := h1.at (i := c) (by rw [Hll.out]; exact hc4)
        simp only [Option.some.injEq, Addr.mk.injEq, and_true] at e
        obtain ⟨rfl, rfl⟩ := e
        exact ⟨h3, h2 c hc4⟩
      have hrg : wr.drew.rangeAt gr (c * 7) (L.getD (o + c) fl0).cs := by
        have := own_rangeF hD.r (row_len (by rw [hD.len]; exact HLo.out)) hc3
        rwa [row_get hc3] at this
      have oS := hD.m.s.o (o + c) hlo
      have oH := hD.m.h.o (o + c) hlo
      have HOS : Hid (wr.drew.ownsRow B 70 2 (slv (L.getD (o + c) fl0)) (L.getD (o + c) fl0).c.sl.length (slCells (L.getD (o + c) fl0).c.sl)) := oS
      have HOH : Hid (wr.drew.ownsRow B 3 1 (itv (L.getD (o + c) fl0)) (L.getD (o + c) fl0).c.hv.length (ints (L.getD (o + c) fl0).c.hv)) := oH
      have HXa : Hid (((L.getD (o + c) fl0).sa = none ∧ (L.getD (o + c) fl0).c.sl.length = 0 ∧ (L.getD (o + c) fl0).sc = 0) ∨ ∃ g, (L.getD (o + c) fl0).sa = some ⟨g, 0, none⟩ ∧ (L.getD (o + c) fl0).c.sl.length ≤ (L.getD (o + c) fl0).sc ∧ (L.getD (o + c) fl0).sc ≤ 9223372036854775807) := own_nb oS
      have HXh : Hid (((L.getD (o + c) fl0).ha = none ∧ (L.getD (o + c) fl0).c.hv.length = 0 ∧ (L.getD (o + c) fl0).hc = 0) ∨ ∃ g, (L.getD (o + c) fl0).ha = some ⟨g, 0, none⟩ ∧ (L.getD (o + c) fl0).c.hv.length ≤ (L.getD (o + c) fl0).hc ∧ (L.getD (o + c) fl0).hc ≤ 9223372036854775807) := own_nb oH
      have HOz : Hid (wr.drew.ownsRow B 70 2 (.slice (L.getD (o + c) fl0).sa 0 (L.getD (o + c) fl0).sc) 0 []) := own_zero oS
      have HQ5 : Hid (wr.drew.cell? ⟨gr, c * 7 + 5, none⟩ = some (.slice (L.getD (o + c) fl0).sa (L.getD (o + c) fl0).c.sl.length (L.getD (o + c) fl0).sc)) := hrg 5 _ rfl
      have HQ6 : Hid (wr.drew.cell? ⟨gr, c * 7 + 6, none⟩ = some (.slice (L.getD (o + c) fl0).ha (L.getD (o + c) fl0).c.hv.length (L.getD (o + c) fl0).hc)) := hrg 6 _ rfl
      have HF5 : Hid (wr.drew.cell? ⟨lb, lo + c * 7 + 5, none⟩ = some (.slice (ls.getD c fl0).sa (ls.getD c fl0).c.sl.length (ls.getD c fl0).sc)) := hsc 5 _ rfl
      have HGr : Hid (gr < wr.drew.heap.size) := hD.size
      have HBv : Hid (slv (L.getD (o + c) fl0) = .slice (L.getD (o + c) fl0).sa (L.getD (o + c) fl0).c.sl.length (L.getD (o + c) fl0).sc) := rfl
      have HBi : Hid (itv (L.getD (o + c) fl0) = .slice (L.getD (o + c) fl0).ha (L.getD (o + c) fl0).c.hv.length (L.getD (o + c) fl0).hc) := rfl
      have HNx : Hid (∀ (w1 w2 w3 : World) a1 c1 a2 c2, w1.ownsRow B 70 2 (.slice a1 (ls.getD c fl0).c.sl.length c1) (ls.getD c fl0).c.sl.length (slCells (ls.getD c fl0).c.sl) → Kept wr.drew w1 (fun j => (slv (L.getD (o + c) fl0)).ownBlock = some j) → ((Value.slice a1 (ls.getD c fl0).c.sl.length c1).ownBlock = (slv (L.getD (o + c) fl0)).ownBlock ∨ (Value.slice a1 (ls.getD c fl0).c.sl.length c1).ownBlock = some wr.drew.heap.size) → w2.ownsRow B 3 1 (.slice a2 (ls.getD c fl0).c.hv.length c2) (ls.getD c fl0).c.hv.length (ints (ls.getD c fl0).c.hv) → Kept w1 w2 (fun j => (itv (L.getD (o + c) fl0)).ownBlock = some j) → ((Value.slice a2 (ls.getD c fl0).c.hv.length c2).ownBlock = (itv (L.getD (o + c) fl0)).ownBlock ∨ (Value.slice a2 (ls.getD c fl0).c.hv.length c2).ownBlock = some w1.heap.size) → Kept w2 w3 (fun j => j = gr) → w3.ownsRow B 28 7 (.slice (some ⟨gr, 0, none⟩) nr cr) nr (flCells (((L.drop o).take nr).set c ⟨(ls.getD c fl0).c, a1, c1, a2, c2⟩)) → ∃ L', Ld B gr cr nr o L0 w w3 L') := fun w1 w2 w3 a1 c1 a2 c2 h1 h2 h3 h4 h5 h6 h7 h8 => ⟨_, HD.out.next HBr.out HLo.out hc3 ⟨hin.rd.r, hin.rd.b, hin.sn, hin.hn⟩ h1 h2 h3 h4 h5 h6 h7 h8⟩
      have HRow : Hid (wr.drew.ownsRow B 28 7 (.slice (some ⟨gr, 0, none⟩) nr cr) nr (flCells ((L.drop o).take nr))) := hD.r
      have HRl : Hid (((L.drop o).take nr).length = nr) := row_len (by rw [hD.len]; exact HLo.out)
      have hsn := hin.sn
      have hhn := hin.hn
      have HFz : Hid ((ls.getD c fl0).sa = none → (ls.getD c fl0).c.sl.length = 0 ∧ (ls.getD c fl0).sc = 0) := hin.sz
      have HFh : Hid ((ls.getD c fl0).ha = none → (ls.getD c fl0).c.hv.length = 0 ∧ (ls.getD c fl0).hc = 0) := hin.hz
      have HFs : Hid (∀ ad, (ls.getD c fl0).sa = some ad → ∀ j u, (slCells (ls.getD c fl0).c.sl)[j]? = some u → wr.drew.cell? (ad.add j) = some u) := rdS_news hin.rd.s
      have HKb : Hid (Kp B gr w wr.drew) := hD.k
      clear hD hlo hsf hsi hsc hin hrg oS oH hBr
      generalize (L.drop o).take nr = ys at *
      generalize L.getD (o + c) fl0 = x at *
      generalize hf : ls.getD c fl0 = f at *
      clear hf
      generalize hfn : f.c.sl.length = fn at *
      have Hfn : Hid (f.c.sl.length = fn) := hfn
      generalize hgn : f.c.hv.length = gn at *
      have Hgn : Hid (f.c.hv.length = gn) := hgn
      clear hfn hgn
      rw [HBv.out] at HOS HNx
      rw [HBi.out] at HOH HNx
      generalize hxn : x.c.sl.length = xn at *
      generalize hxh : x.c.hv.length = xh at *
      generalize hxa : x.sa = xa at *
      generalize hxc : x.sc = xc at *
      generalize hxb : x.ha = xb at *
      generalize hxd : x.hc = xd at *
      clear hxn hxh hxa hxc hxb hxd HBv HBi
      go_wp2_with (fail)
      refine wp_region_held_drew (S := (fun w' => w'.cell? ⟨gr, c * 7 + 5, none⟩ = some (.slice xa xn xc) ∧ w'.cell? ⟨lb, lo + c * 7 + 5, none⟩ = some (.slice f.sa fn f.sc))) (by kernel_rfl) (⟨HQ5.out, HF5.out⟩) (fun hHeld => ?_)
      simp only [Act.put, List.size_toArray, List.length_cons, List.length_nil, Nat.zero_add]
      refine wpAnyH_take (i := 0) (v := .slice (some ⟨gr, 0, none⟩) nr cr) rfl (by kernel_rfl) (by kernel_rfl) (by kernel_rfl) (fun _ _ _ h => h) (Or.inl ⟨by rfl, fun w' hS => by go_simp⟩) hHeld ?_
      simp only [Act.put, gA9, gZ9, gC9, sA9, sZ9, sC9]
      refine wpAnyH_take (i := 1) (v := .int .i64 (c : Int)) rfl (by kernel_rfl) (by kernel_rfl) (by kernel_rfl) (fun _ _ _ h => h) (Or.inl ⟨by rfl, fun w' hS => by go_simp⟩) hHeld ?_
      simp only [Act.put, gA9, gZ9, gC9, sA9, sZ9, sC9]
      refine wpAnyH_take (i := 2) (v := .pointer (some ⟨gr, c * 7, none⟩)) rfl (by kernel_rfl) (by kernel_rfl) (by kernel_rfl) (fun _ _ _ h => h) (Or.inl ⟨by rfl, fun w' hS => by go_simp⟩) hHeld ?_
      simp only [Act.put, gA9, gZ9, gC9, sA9, sZ9, sC9]
      refine wpAnyH_take (i := 3) (v := .pointer (some ⟨gr, c * 7 + 5, none⟩)) rfl (by kernel_rfl) (by kernel_rfl) (by kernel_rfl) (fun _ _ _ h => h) (Or.inl ⟨by rfl, fun w' hS => by go_simp⟩) hHeld ?_
      simp only [Act.put, gA9, gZ9, gC9, sA9, sZ9, sC9]
      refine wpAnyH_take (i := 4) (v := .slice xa xn xc) rfl (by kernel_rfl) (by kernel_rfl) (by kernel_rfl) (fun _ _ _ h => h) (Or.inl ⟨by rfl, fun w' hS => by (obtain ⟨t5, td⟩ := hS; go_simp)⟩) hHeld ?_
      simp only [Act.put, gA9, gZ9, gC9, sA9, sZ9, sC9]
      refine wpAnyH_take (i := 5) (v := .slice xa 0 xc) rfl (by kernel_rfl) (by kernel_rfl) (by kernel_rfl) (fun _ _ _ h => h) (Or.inl ⟨by rfl, fun w' hS => by (rcases HXa.out with ⟨rfl, rfl, rfl⟩ | ⟨g, rfl, hh1, hh2⟩ <;> go_simp <;> first | done | (split <;> first | rfl | (simp_all; done) | omega))⟩) hHeld ?_
      simp only [Act.put, gA9, gZ9, gC9, sA9, sZ9, sC9]
      refine wpAnyH_take (i := 6) (v := .slice (some ⟨lb, lo, none⟩) ll lc) rfl (by kernel_rfl) (by kernel_rfl) (by kernel_rfl) (fun _ _ _ h => h) (Or.inl ⟨by rfl, fun w' hS => by go_simp⟩) hHeld ?_
      simp only [Act.put, gA9, gZ9, gC9, sA9, sZ9, sC9]
      refine wpAnyH_take (i := 7) (v := .int .i64 (c : Int)) rfl (by kernel_rfl) (by kernel_rfl) (by kernel_rfl) (fun _ _ _ h => h) (Or.inl ⟨by rfl, fun w' hS => by go_simp⟩) hHeld ?_
      simp only [Act.put, gA9, gZ9, gC9, sA9, sZ9, sC9]
      refine wpAnyH_take (i := 8) (v := .pointer (some ⟨lb, lo + c * 7, none⟩)) rfl (by kernel_rfl) (by kernel_rfl) (by kernel_rfl) (fun _ _ _ h => h) (Or.inl ⟨by rfl, fun w' hS => by go_simp⟩) hHeld ?_
      simp only [Act.put, gA9, gZ9, gC9, sA9, sZ9, sC9]
      refine wpAnyH_take (i := 9) (v := .pointer (some ⟨lb, lo + c * 7 + 5, none⟩)) rfl (by kernel_rfl) (by kernel_rfl) (by kernel_rfl) (fun _ _ _ h => h) (Or.inl ⟨by rfl, fun w' hS => by go_simp⟩) hHeld ?_
      simp only [Act.put, gA9, gZ9, gC9, sA9, sZ9, sC9]
      refine wpAnyH_take (i := 10) (v := .slice f.sa fn f.sc) rfl (by kernel_rfl) (by kernel_rfl) (by kernel_rfl) (fun _ _ _ h => h) (Or.inl ⟨by rfl, fun w' hS => by (obtain ⟨t5, td⟩ := hS; go_simp)⟩) hHeld ?_
      simp only [Act.put, gA9, gZ9, gC9, sA9, sZ9, sC9]
      refine wpAnyH_ready (rs := [11]) (by kernel_rfl) (by simp) ?_
      refine AllReadyH.cons rfl (fun K hK => ?_) AllReadyH.nil
      refine step_appO rfl _ _ 25 rfl B 70 si (.agg #[.int .i64 0, .int .i64 0]) 2 16 Try.underlying25 shi shz0 shz1 shz2 rfl (by omega) (.slice xa 0 xc) rfl HOz.out f.sa fn f.sc (slCells f.c.sl) rfl HFz.out (by rw [slCells_len, Hfn.out]) HFs.out (slCells_one _) (by unfold maxLen; omega) (by omega) HBr.out ?_
      intro a1 c1 Z1 ho1 hk1 he1
      have HO1 : Hid (Z1.ownsRow B 70 2 (.slice a1 fn c1) fn (slCells f.c.sl)) := ho1
      have HK1 : Hid (Kept wr.drew Z1 (fun j => (Value.slice xa xn xc).ownBlock = some j)) := hk1.mono (fun q _ e => by rw [own_blk xa 0 xn xc xc] at e; exact e)
      have HE1 : Hid ((Value.slice a1 fn c1).ownBlock = (Value.slice xa xn xc).ownBlock ∨ (Value.slice a1 fn c1).ownBlock = some wr.drew.heap.size) := he1.imp (fun e => by rw [e]; exact own_blk xa 0 xn xc xc) id
      have HN5 : Hid (∀ q : Nat, (Value.slice xa xn xc).ownBlock = some q → B ≤ q ∧ q ≠ gr) := fun q e => by
        obtain ⟨h1, cur, h2⟩ := row_cells HOS.out e
        refine ⟨h1, fun e2 => ?_⟩
        subst e2
        obtain ⟨C, h3, _⟩ := own_heap HRow.out
        rw [h3] at h2
        simp at h2
      have HB1 : Hid (Kp B gr w Z1) := HKb.out.trans (Kp.row HBr.out HOS.out (.inl rfl) HK1.out)
      have HQ5' : Hid (Z1.cell? ⟨gr, c * 7 + 5, none⟩ = some (.slice xa xn xc) ∧ Z1.cell? ⟨gr, c * 7 + 6, none⟩ = some (.slice xb xh xd)) := by
        have hb := HK1.out.block gr HGr.out (fun e => (HN5.out gr e).2 rfl)
        have h1 := HQ5.out
        have h2 := HQ6.out
        unfold World.cell? at *
        rw [hb]
        exact ⟨h1, h2⟩
      clear ho1 hk1 he1
      refine hK.out _ _ ⟨HQ5'.out.1, (HSc.out Z1 HB1.out).1 5 _ (by show _ = some (Value.slice f.sa f.c.sl.length f.sc); rfl) |>.trans (by rw [Hfn.out])⟩ (fun hHeld => ?_)
      clear hK K
      simp only [Act.put, gA9, gZ9, gC9, sA9, sZ9, sC9]
      refine wpAnyH_take (i := 12) (v := .slice a1 fn c1) rfl (by kernel_rfl) (by kernel_rfl) (by kernel_rfl) (fun _ _ _ h => h) (Or.inl ⟨by rfl, fun w' hS => by go_simp⟩) hHeld ?_
      simp only [Act.put, gA9, gZ9, gC9, sA9, sZ9, sC9]
      refine wpAnyH_done (by kernel_rfl) ?_ _
      clear hHeld
      have HBz : Hid (B ≤ Z1.drew.heap.size) := Nat.le_trans HBr.out HK1.out.size
      have HB1d : Hid (Kp B gr w Z1.drew) := HB1.out.trans (Kp.still (Nat.le_trans HBr.out HK1.out.size) (drew_bel Z1))
      have HO1d : Hid (Z1.drew.ownsRow B 70 2 (.slice a1 fn c1) fn (slCells f.c.sl)) := own_still HO1.out (drew_bel Z1)
      have HK1d : Hid (Kept wr.drew Z1.drew (fun j => (Value.slice xa xn xc).ownBlock = some j)) := HK1.out.trans (Kept.ofBelow (drew_bel Z1) _)
      have HOH1 : Hid (Z1.drew.ownsRow B 3 1 (.slice xb xh xd) xh (ints x.c.hv)) := own_still (own_keptT HOH.out HOS.out HK1.out (by decide)) (drew_bel Z1)
      have HOz1 : Hid (Z1.drew.ownsRow B 3 1 (.slice xb 0 xd) 0 []) := own_zero HOH1.out
      have HRow1 : Hid (Z1.drew.ownsRow B 28 7 (.slice (some ⟨gr, 0, none⟩) nr cr) nr (flCells ys)) := own_still (own_keptT HRow.out HOS.out HK1.out (by decide)) (drew_bel Z1)
      have HQ6d : Hid (Z1.drew.cell? ⟨gr, c * 7 + 6, none⟩ = some (.slice xb xh xd)) := below_at (drew_bel Z1) HQ5'.out.2
      have HF6 : Hid (Z1.drew.cell? ⟨lb, lo + c * 7 + 6, none⟩ = some (.slice f.ha gn f.hc)) := ((HSc.out Z1.drew HB1d.out).1 6 _ (by show _ = some (Value.slice f.ha f.c.hv.length f.hc); rfl)).trans (by rw [Hgn.out])
      have HFi : Hid (∀ ad, f.ha = some ad → ∀ j u, (ints f.c.hv)[j]? = some u → Z1.drew.cell? (ad.add j) = some u) := rdI_news (HSc.out Z1.drew HB1d.out).2.rd.h
      go_wp2_with (fail)
      refine wp_region_held_drew (S := (fun w' => w'.cell? ⟨gr, c * 7 + 6, none⟩ = some (.slice xb xh xd) ∧ w'.cell? ⟨lb, lo + c * 7 + 6, none⟩ = some (.slice f.ha gn f.hc))) (by kernel_rfl) (⟨HQ6d.out, HF6.out⟩) (fun hHeld => ?_)
      simp only [Act.put, List.size_toArray, List.length_cons, List.length_nil, Nat.zero_add]
      refine wpAnyH_take (i := 0) (v := .slice (some ⟨gr, 0, none⟩) nr cr) rfl (by kernel_rfl) (by kernel_rfl) (by kernel_rfl) (fun _ _ _ h => h) (Or.inl ⟨by rfl, fun w' hS => by go_simp⟩) hHeld ?_
      simp only [Act.put, gA9, gZ9, gC9, sA9, sZ9, sC9]
      refine wpAnyH_take (i := 1) (v := .int .i64 (c : Int)) rfl (by kernel_rfl) (by kernel_rfl) (by kernel_rfl) (fun _ _ _ h => h) (Or.inl ⟨by rfl, fun w' hS => by go_simp⟩) hHeld ?_
      simp only [Act.put, gA9, gZ9, gC9, sA9, sZ9, sC9]
      refine wpAnyH_take (i := 2) (v := .pointer (some ⟨gr, c * 7, none⟩)) rfl (by kernel_rfl) (by kernel_rfl) (by kernel_rfl) (fun _ _ _ h => h) (Or.inl ⟨by rfl, fun w' hS => by go_simp⟩) hHeld ?_
      simp only [Act.put, gA9, gZ9, gC9, sA9, sZ9, sC9]
      refine wpAnyH_take (i := 3) (v := .pointer (some ⟨gr, c * 7 + 6, none⟩)) rfl (by kernel_rfl) (by kernel_rfl) (by kernel_rfl) (fun _ _ _ h => h) (Or.inl ⟨by rfl, fun w' hS => by go_simp⟩) hHeld ?_
      simp only [Act.put, gA9, gZ9, gC9, sA9, sZ9, sC9]
      refine wpAnyH_take (i := 4) (v := .slice xb xh xd) rfl (by kernel_rfl) (by kernel_rfl) (by kernel_rfl) (fun _ _ _ h => h) (Or.inl ⟨by rfl, fun w' hS => by (obtain ⟨t5, td⟩ := hS; go_simp)⟩) hHeld ?_
      simp only [Act.put, gA9, gZ9, gC9, sA9, sZ9, sC9]
      refine wpAnyH_take (i := 5) (v := .slice xb 0 xd) rfl (by kernel_rfl) (by kernel_rfl) (by kernel_rfl) (fun _ _ _ h => h) (Or.inl ⟨by rfl, fun w' hS => by (rcases HXh.out with ⟨rfl, rfl, rfl⟩ | ⟨g, rfl, hh1, hh2⟩ <;> go_simp <;> first | done | (split <;> first | rfl | (simp_all; done) | omega))⟩) hHeld ?_
      simp only [Act.put, gA9, gZ9, gC9, sA9, sZ9, sC9]
      refine wpAnyH_take (i := 6) (v := .slice (some ⟨lb, lo, none⟩) ll lc) rfl (by kernel_rfl) (by kernel_rfl) (by kernel_rfl) (fun _ _ _ h => h) (Or.inl ⟨by rfl, fun w' hS => by go_simp⟩) hHeld ?_
      simp only [Act.put, gA9, gZ9, gC9, sA9, sZ9, sC9]
      refine wpAnyH_take (i := 7) (v := .int .i64 (c : Int)) rfl (by kernel_rfl) (by kernel_rfl) (by kernel_rfl) (fun _ _ _ h => h) (Or.inl ⟨by rfl, fun w' hS => by go_simp⟩) hHeld ?_
      simp only [Act.put, gA9, gZ9, gC9, sA9, sZ9, sC9]
      refine wpAnyH_take (i := 8) (v := .pointer (some ⟨lb, lo + c * 7, none⟩)) rfl (by kernel_rfl) (by kernel_rfl) (by kernel_rfl) (fun _ _ _ h => h) (Or.inl ⟨by rfl, fun w' hS => by go_simp⟩) hHeld ?_
      simp only [Act.put, gA9, gZ9, gC9, sA9, sZ9, sC9]
      refine wpAnyH_take (i := 9) (v := .pointer (some ⟨lb, lo + c * 7 + 6, none⟩)) rfl (by kernel_rfl) (by kernel_rfl) (by kernel_rfl) (fun _ _ _ h => h) (Or.inl ⟨by rfl, fun w' hS => by go_simp⟩) hHeld ?_
      simp only [Act.put, gA9, gZ9, gC9, sA9, sZ9, sC9]
      refine wpAnyH_take (i := 10) (v := .slice f.ha gn f.hc) rfl (by kernel_rfl) (by kernel_rfl) (by kernel_rfl) (fun _ _ _ h => h) (Or.inl ⟨by rfl, fun w' hS => by (obtain ⟨t5, td⟩ := hS; go_simp)⟩) hHeld ?_
      simp only [Act.put, gA9, gZ9, gC9, sA9, sZ9, sC9]
      refine wpAnyH_ready (rs := [11]) (by kernel_rfl) (by simp) ?_
      refine AllReadyH.cons rfl (fun K hK => ?_) AllReadyH.nil
      refine step_appO rfl _ _ 26 rfl B 3 ii (.int .i64 0) 1 8 Try.underlying26 ihi ihz0 ihz1 ihz2 rfl (by omega) (.slice xb 0 xd) rfl HOz1.out f.ha gn f.hc (ints f.c.hv) rfl HFh.out (by rw [ints_len, Hgn.out, Nat.mul_one]) HFi.out (ints_one _) (by unfold maxLen; omega) (by omega) HBz.out ?_
      intro a2 c2 Z2 ho2 hk2 he2
      have HO2 : Hid (Z2.ownsRow B 3 1 (.slice a2 gn c2) gn (ints f.c.hv)) := ho2
      have HK2 : Hid (Kept Z1.drew Z2 (fun j => (Value.slice xb xh xd).ownBlock = some j)) := hk2.mono (fun q _ e => by rw [own_blk xb 0 xh xd xd] at e; exact e)
      have HE2 : Hid ((Value.slice a2 gn c2).ownBlock = (Value.slice xb xh xd).ownBlock ∨ (Value.slice a2 gn c2).ownBlock = some Z1.drew.heap.size) := he2.imp (fun e => by rw [e]; exact own_blk xb 0 xh xd xd) id
      have HRow2 : Hid (Z2.ownsRow B 28 7 (.slice (some ⟨gr, 0, none⟩) nr cr) nr (flCells ys)) := own_keptT HRow1.out HOH1.out HK2.out (by decide)
      have HB2 : Hid (Kp B gr w Z2) := HB1d.out.trans (Kp.row HBz.out HOH1.out (.inr rfl) HK2.out)
      have hq6 : Z2.cell? ⟨gr, c * 7 + 6, none⟩ = some (.slice xb xh xd) := by
        have hgl : gr < Z1.drew.heap.size := Nat.lt_of_lt_of_le HGr.out HK1.out.size
        have hb := HK2.out.block gr hgl (fun e => by
          obtain ⟨h1, cur, h2⟩ := row_cells HOH1.out e
          obtain ⟨C, h3, _⟩ := own_heap HRow1.out
          rw [h3] at h2
          simp at h2)
        have h2 := HQ6d.out
        unfold World.cell? at *
        rw [hb]
        exact h2
      have hf6 : Z2.cell? ⟨lb, lo + c * 7 + 6, none⟩ = some (.slice f.ha gn f.hc) := ((HSc.out Z2 HB2.out).1 6 _ (by show _ = some (Value.slice f.ha f.c.hv.length f.hc); rfl)).trans (by rw [Hgn.out])
      clear ho2 hk2 he2
      refine hK.out _ _ ⟨hq6, hf6⟩ (fun hHeld => ?_)
      clear hK K hq6 hf6
      simp only [Act.put, gA9, gZ9, gC9, sA9, sZ9, sC9]
      refine wpAnyH_take (i := 12) (v := .slice a2 gn c2) rfl (by kernel_rfl) (by kernel_rfl) (by kernel_rfl) (fun _ _ _ h => h) (Or.inl ⟨by rfl, fun w' hS => by go_simp⟩) hHeld ?_
      simp only [Act.put, gA9, gZ9, gC9, sA9, sZ9, sC9]
      refine wpAnyH_done (by kernel_rfl) ?_ _
      clear hHeld
      have HLf : Hid (Z2.rangeAt lb (lo + c * 7) f.cs) := (HSc.out Z2 HB2.out).1
      have HP1 : Hid (Z2.there gr (c * 7) 7 ∧ (Z2.setCells gr (c * 7) f.cs).ownsRow B 28 7 (.slice (some ⟨gr, 0, none⟩) nr cr) nr (flCells (ys.set c f))) := by
        obtain ⟨p1, p2, p3⟩ := own_putF HRow2.out HRl.out hc3 f
        exact ⟨p1, p3⟩
      clear HS HSc HQ5 HQ6 HQ5' HF5 HF6 HQ6d HXa HXh HOS HOH HOz HFs HFi HRow HRow1 HRow2
      go_wp2_with (first
        | (refine load_mid 28 (.tmp 47) HLf.out _ Try.underlying28 rfl info_flush rfl rfl rfl ?_)
        | (refine wl_storeM rfl 28 _ _ rfl (g := gr) (off := c * 7) (L := f.cs) rfl rfl HP1.out.1 info_flush (flOne f) ?_; have HP2 : Hid ((Z2.setCells gr (c * 7) f.cs).ownsRow B 28 7 (.slice (some ⟨gr, 0, none⟩) nr cr) nr (flCells (ys.set c f))) := HP1.out.2; have HK3 : Hid (Kept Z2 (Z2.setCells gr (c * 7) f.cs) (fun j => j = gr)) := ksets (P := fun j => j = gr) rfl _ _ _; generalize Z2.setCells gr (c * 7) f.cs = Z3 at *; obtain ⟨C3, hC3, hs3⟩ := own_heap HP2.out; have HC3 : Hid (Z3.heap[gr]? = some (.cells C3 28 (0, 0))) := hC3; have HS3 : Hid (c * 7 + 5 < C3.size ∧ c * 7 + 6 < C3.size) := ⟨by omega, by omega⟩; clear hC3 hs3)
        | (refine wl_store1 rfl 25 _ _ rfl (g := gr) (p := c * 7 + 5) rfl rfl HC3.out HS3.out.1 oneSls rfl ?_; have HP3 : Hid ((Z3.setCell ⟨gr, c * 7 + 5, none⟩ (.slice a1 fn c1)).ownsRow B 28 7 (.slice (some ⟨gr, 0, none⟩) nr cr) nr (flCells (ys.set c ⟨f.c, a1, c1, f.ha, f.hc⟩))) := (by have := own_setc (p := c * 7 + 5) HP2.out (.slice a1 fn c1); rwa [flCells_setc (x1 := ⟨f.c, a1, c1, f.ha, f.hc⟩) (by rw [List.length_set, HRl.out]; exact hc3) (by omega) (by rw [getD_setG _ _ _ _ (by rw [HRl.out]; exact hc3), if_pos rfl, ← Hfn.out]; rfl), List.set_set] at this); have HK4 : Hid (Kept Z2 (Z3.setCell ⟨gr, c * 7 + 5, none⟩ (.slice a1 fn c1)) (fun j => j = gr)) := HK3.out.trans (kept_one _ _ _ _); generalize Z3.setCell ⟨gr, c * 7 + 5, none⟩ (.slice a1 fn c1) = Z4 at *; obtain ⟨C4, hC4, hs4⟩ := own_heap HP3.out; have HC4 : Hid (Z4.heap[gr]? = some (.cells C4 28 (0, 0))) := hC4; have HS4 : Hid (c * 7 + 6 < C4.size) := (show c * 7 + 6 < C4.size from by omega); clear hC4 hs4)
        | (refine wl_store1 rfl 26 _ _ rfl (g := gr) (p := c * 7 + 6) rfl rfl HC4.out HS4.out oneIns rfl ?_; have HP4 : Hid ((Z4.setCell ⟨gr, c * 7 + 6, none⟩ (.slice a2 gn c2)).ownsRow B 28 7 (.slice (some ⟨gr, 0, none⟩) nr cr) nr (flCells (ys.set c ⟨f.c, a1, c1, a2, c2⟩))) := (by have := own_setc (p := c * 7 + 6) HP3.out (.slice a2 gn c2); rwa [flCells_setc (x1 := ⟨f.c, a1, c1, a2, c2⟩) (by rw [List.length_set, HRl.out]; exact hc3) (by omega) (by rw [getD_setG _ _ _ _ (by rw [HRl.out]; exact hc3), if_pos rfl, ← Hgn.out]; rfl), List.set_set] at this); have HK5 : Hid (Kept Z2 (Z4.setCell ⟨gr, c * 7 + 6, none⟩ (.slice a2 gn c2)) (fun j => j = gr)) := HK4.out.trans (kept_one _ _ _ _); generalize Z4.setCell ⟨gr, c * 7 + 6, none⟩ (.slice a2 gn c2) = Z5 at *)
        | fail)
      exact ⟨⟨c + 1, by omega, by omega, by go_num, HNx.out Z1.drew Z2 Z5 a1 c1 a2 c2 HO1d.out HK1d.out HE1.out HO2.out HK2.out HE2.out HK5.out HP4.out⟩, by simp [intOf]; omega⟩
    · by_cases hcn : c < nr
      · have i2 : (c : Int) < (nr : Int) := by omega
        have i3 : ¬ (c : Int) < (ll : Int) := by omega
        go_wp2
        go_end0
        exact ⟨rfl, L, HLd.out⟩
      · have i2 : ¬ (c : Int) < (nr : Int) := by omega
        go_wp2
        go_end0
        exact ⟨rfl, L, HLd.out⟩
end
end Go.Proofs.Ytihcaopcfhbofaa.Fm
namespace Go.Proofs.Ytihcaopcfhbofaa.Of
open Go.ChangeShapes Go.WideShapes Go.ChangeAt Go.RowKit Mb Fm
set_option linter.unusedVariables false
set_option linter.unusedSimpArgs false
set_option maxRecDepth 100000
section
variable {H : Type} {enc : TypeId × Value → H} {W : World}
theorem open_u {fuel : Nat} {c : Value} {x : DataW H × List MemPlace} (h : DataW.trod enc Try.prog W 0 (fun _ => true) true fuel 5 [c] = some x) : ∃ v : Int, c = .int .u8 v ∧ 0 ≤ v ∧ v ≤ 255 := by
  obtain ⟨v, e, _, hw⟩ := DataW.trod_int Try.underlying5 h
  simp only [List.cons.injEq, and_true] at e
  refine ⟨v, e, ?_⟩
  simpa [Lit.wf, IntKind.min, IntKind.max, IntKind.signed, IntKind.bits] using hw
theorem cU : Try.prog.cellsOf 5 = 1 := by kernel_rfl
theorem cBs : Try.prog.cellsOf 35 = 1 := by kernel_rfl
theorem cD : Try.prog.cellsOf 37 = 4 := by kernel_rfl
theorem cDs : Try.prog.cellsOf 29 = 1 := by kernel_rfl
theorem cCa : Try.prog.cellsOf 31 = 13 := by kernel_rfl
theorem list13 {α : Type} {l : List α} (h : l.length = 13) : ∃ c0 c1 c2 c3 c4 c5 c6 c7 c8 c9 c10 c11 c12, l = [c0, c1, c2, c3, c4, c5, c6, c7, c8, c9, c10, c11, c12] := by
  match l, h with
  | [c0, c1, c2, c3, c4, c5, c6, c7, c8, c9, c10, c11, c12], _ => exact ⟨c0, c1, c2, c3, c4, c5, c6, c7, c8, c9, c10, c11, c12, rfl⟩
theorem open_bytes {fuel : Nat} {v : Value} {x : DataW H × List MemPlace} (h : DataW.trod enc Try.prog W 0 (fun _ => true) true fuel 35 [v] = some x) (hw : Sm x.1) : ∃ a xs c, v = .slice a (xs : List Int).length c ∧ RdB W a xs ∧ xs.length ≤ 1048576 ∧ (a = none → xs.length = 0 ∧ c = 0) ∧ ∀ i, i < xs.length → 0 ≤ xs.getD i 0 ∧ xs.getD i 0 ≤ 255 := by
  rcases slice_parts Try.underlying35 cU (by decide) h hw with rfl | ⟨ad, len, cap, n, D, Pl, rfl, hb, hel⟩
  · exact ⟨none, [], 0, rfl, .inl rfl, by simp, fun _ => ⟨rfl, rfl⟩, fun i hi => by simp at hi⟩
  · have each : ∀ i, ∃ y : Int, i < len → W.cell? (ad.add i) = some (.int .u8 y) ∧ 0 ≤ y ∧ y ≤ 255 := fun i => by
      by_cases hi : i < len
      · obtain ⟨_, cs', hl, hcell, htr⟩ := hel i hi
        obtain ⟨c0, rfl⟩ := list1 hl
        obtain ⟨y, rfl, hy⟩ := open_u htr
        exact ⟨y, fun _ => ⟨by have := hcell 0 (by decide); simpa using this, hy⟩⟩
      · exact ⟨0, fun h => absurd h hi⟩
    obtain ⟨f, hf⟩ := Classical.axiomOfChoice each
    have hl : ((List.range len).map f).length = len := by simp
    refine ⟨some ad, (List.range len).map f, cap, by rw [hl], ?_, by rw [hl]; exact hb, (fun h => by cases h), fun i hi => ?_⟩
    · unfold RdB Row
      rw [hl]
      by_cases h0 : len = 0
      · exact .inl h0
      · obtain ⟨b, off, rfl⟩ := ad_plain (hf 0 (by omega)).1
        refine .inr ⟨b, off, rfl, fun i hi => ?_⟩
        have := (hf i (by omega)).1
        rw [Addr.add_lit] at this
        rw [this]
        simp [List.getD, show i < len by omega]
    · rw [hl] at hi
      have := (hf i hi).2
      simpa [List.getD, hi] using this
structure DxIn (d : Dx) (W : World) : Prop where
  rd : d.Rd W
  z : d.ba = none → d.bs.length = 0 ∧ d.bc = 0
  n : d.bs.length ≤ 1048576
  u : ∀ i, i < d.bs.length → 0 ≤ d.bs.getD i 0 ∧ d.bs.getD i 0 ≤ 255
theorem open_data {n : Nat} {c0 c1 c2 c3 : Value} {x : DataW H × List MemPlace} (h : DataW.trod enc Try.prog W 0 (fun _ => true) true n 37 [c0, c1, c2, c3] = some x) (hw : Sm x.1) : ∃ f : Dx, f.cs = [c0, c1, c2, c3] ∧ DxIn f W := by
  obtain ⟨xs, n', hxl, hF, hS⟩ := struct_parts Try.underlying37 h hw
  obtain ⟨y0, y1, y2, y3, rfl⟩ := list4 hxl
  have h0 : DataW.trod enc Try.prog W 0 (fun _ => true) true n' 3 [c0] = some y0 := by simpa [cI, cBs] using hF 0 _ rfl
  have h1 : DataW.trod enc Try.prog W 0 (fun _ => true) true n' 3 [c1] = some y1 := by simpa [cI, cBs] using hF 1 _ rfl
  have h2 : DataW.trod enc Try.prog W 0 (fun _ => true) true n' 3 [c2] = some y2 := by simpa [cI, cBs] using hF 2 _ rfl
  have h3 : DataW.trod enc Try.prog W 0 (fun _ => true) true n' 35 [c3] = some y3 := by simpa [cI, cBs] using hF 3 _ rfl
  obtain ⟨a, rfl, ha⟩ := open_i h0
  obtain ⟨b, rfl, hb⟩ := open_i h1
  obtain ⟨c, rfl, _⟩ := open_i h2
  obtain ⟨ba, bs, bc, rfl, r1, r2, r3, r4⟩ := open_bytes h3 (hS 3 _ rfl)
  exact ⟨⟨(a, b), c, ba, bc, bs⟩, rfl, ⟨r1, ha, hb⟩, r3, r2, r4⟩
theorem open_datas {fuel : Nat} {v : Value} {x : DataW H × List MemPlace} (h : DataW.trod enc Try.prog W 0 (fun _ => true) true fuel 29 [v] = some x) (hw : Sm x.1) : ∃ a ds c, v = .slice a (ds : List Dx).length c ∧ RdDs W a ds ∧ ds.length ≤ 1048576 ∧ ∀ k, k < ds.length → DxIn (ds.getD k dx0) W := by
  rcases slice_parts Try.underlying29 cD (by decide) h hw with rfl | ⟨ad, len, cap, n, D, Pl, rfl, hb, hel⟩
  · exact ⟨none, [], 0, rfl, ⟨.inl rfl, fun i hi => by simp at hi⟩, by simp, fun k hk => by simp at hk⟩
  · have each : ∀ i, ∃ f : Dx, i < len → (∀ j, j < 4 → W.cell? (ad.add (i * 4 + j)) = f.cs[j]?) ∧ DxIn f W := fun i => by
      by_cases hi : i < len
      · obtain ⟨hs, cs', hl, hcell, htr⟩ := hel i hi
        obtain ⟨c0, c1, c2, c3, rfl⟩ := list4 hl
        obtain ⟨f, hf, hin⟩ := open_data htr hs
        exact ⟨f, fun _ => ⟨fun j hj => by rw [hf]; exact hcell j hj, hin⟩⟩
      · exact ⟨dx0, fun h => absurd h hi⟩
    obtain ⟨f, hf⟩ := Classical.axiomOfChoice each
    have hl : ((List.range len).map f).length = len := by simp
    have hg : ∀ i, i < len → ((List.range len).map f).getD i dx0 = f i := fun i hi => by simp [List.getD, hi]
    refine ⟨some ad, (List.range len).map f, cap, by rw [hl], ⟨?_, fun i hi => ?_⟩, by rw [hl]; exact hb, fun k hk => ?_⟩
    · unfold Row
      rw [hl]
      by_cases h0 : len = 0
      · exact .inl h0
      · obtain ⟨b, off, rfl⟩ := ad_plain (v := .int .i64 (f 0).s.1) (by have := (hf 0 (by omega)).1 0 (by decide); simp only [Nat.zero_mul, Nat.zero_add] at this; exact this)
        refine .inr ⟨b, off, rfl, fun i hi => ?_⟩
        have h3 := (hf (i / 4) (by omega)).1 (i % 4) (by omega)
        rw [show i / 4 * 4 + i % 4 = i by omega, Addr.add_lit] at h3
        unfold dxC
        rw [hg _ (by omega), h3, List.getD]
        rw [List.getElem?_eq_getElem (by rw [Dx.cs_len]; omega)]
        rfl
    · rw [hl] at hi
      rw [hg i hi]
      exact (hf i hi).2.rd
    · rw [hl] at hk
      rw [hg k hk]
      exact (hf k hk).2
end
end Go.Proofs.Ytihcaopcfhbofaa.Of
namespace Go.Proofs.Ytihcaopcfhbofaa.Fm
open Go.RowKit Go.Maps Mb
set_option linter.unusedVariables false
set_option maxRecDepth 100000
set_option linter.unusedSimpArgs false
section
variable {w w' W : World} {B : Nat}
theorem RdFs.take {ao : Option Addr} {fs : List Fl} {n : Nat} (h : RdFs w ao fs) (hn : n ≤ fs.length) : RdFs w ao (fs.take n) := by
  have hl : (fs.take n).length = n := by rw [List.length_take]; omega
  have hg : ∀ i, i < n → (fs.take n).getD i fl0 = fs.getD i fl0 := fun i hi => by simp [List.getD, List.getElem?_take, hi]
  refine ⟨?_, fun i hi => ?_⟩
  · unfold Row
    rw [hl]
    rcases h.row with h1 | ⟨b, off, h1, h2⟩
    · exact .inl (by omega)
    · refine .inr ⟨b, off, h1, fun i hi => ?_⟩
      rw [h2 i (by omega)]
      unfold flC
      rw [hg _ (by omega)]
  · rw [hl] at hi
    rw [hg i hi]
    exact h.el i (by omega)
structure Cin (k : Ca) (who : List Int) (ds : List Dx) (X : World) : Prop where
  r : RdFs X k.ao k.fs
  i : ∀ j, j < k.fs.length → (k.fs.getD j fl0).In X
  fl : k.fs.length ≤ 1048576
  cap : k.fs.length ≤ k.cp ∧ k.cp ≤ 9223372036854775807
  az : k.ao = none → k.fs.length = 0 ∧ k.cp = 0
  o : k.own.In X
  w : RdI X k.wa who
  wl : who.length = k.wn
  wn : k.wn ≤ 1048576
  wz : k.wa = none → k.wn = 0 ∧ k.wc = 0
  d : RdDs X k.ma ds
  dl : ds.length = k.mn
  dn : k.mn ≤ 1048576
  di : ∀ j, j < ds.length → Of.DxIn (ds.getD j dx0) X
theorem Cin.still {k : Ca} {who : List Int} {ds : List Dx} (h : Cin k who ds w) (hb : Below w.heap.size w w') : Cin k who ds w' :=
  ⟨h.r.still hb, fun j hj => (h.i j hj).still hb, h.fl, h.cap, h.az, h.o.still hb, h.w.still hb, h.wl, h.wn, h.wz, h.d.still hb, h.dl, h.dn, fun j hj => ⟨(h.di j hj).rd.still hb, (h.di j hj).z, (h.di j hj).n, (h.di j hj).u⟩⟩
structure PlS (V : World) (B n ga ca go co dn : Nat) (dv : Value) (w : World) (L : List Fl) (ms : List Dx) (wv : Value) : Prop where
  hB : B ≤ w.heap.size
  len : L.length = n + 2
  m : Rm B w L
  ra : w.ownsRow B 28 7 (.slice (some ⟨ga, 0, none⟩) n ca) n (flCells ((L.drop 0).take n))
  ro : w.ownsRow B 28 7 (.slice (some ⟨go, 0, none⟩) 1 co) 1 (flCells ((L.drop n).take 1))
  ne : ga ≠ go
  wv : wv = itv (L.getD (n + 1) fl0)
  g : Mg B w dn dv ms
  v : V.heap.size ≤ B
  b : Below V.heap.size V w
section
variable {V : World} {n ga ca go co dn : Nat} {dv wv : Value} {L L' : List Fl} {ms : List Dx}
theorem PlS.still (h : PlS V B n ga ca go co dn dv w L ms wv) (hb : Below w.heap.size w w') : PlS V B n ga ca go co dn dv w' L ms wv :=
  ⟨Nat.le_trans h.hB hb.size, h.len, h.m.still hb, own_still h.ra hb, own_still h.ro hb, h.ne, h.wv, h.g.still hb, h.v, bstep h.b hb⟩
theorem Mg.kp {gr : Nat} (h : Mg B w dn dv ms) (hk : Kp B gr w w') (hg : w.ownsRow B 28 7 (.slice (some ⟨gr, 0, none⟩) n ca) n (flCells L)) : Mg B w' dn dv ms := by
  obtain ⟨C, hC, _⟩ := own_heap hg
  have hne : ∀ {t k' n' : Nat} {v : Value} {l : List Value}, w.ownsRow B t k' v n' l → t ≠ 28 → v.ownBlock ≠ some gr := fun ho ht e => by
    obtain ⟨_, cur, h2⟩ := row_cells ho e
    rw [hC] at h2
    simp at h2
    exact ht h2.2.symm
  exact ⟨h.len, hk.k _ _ _ _ _ _ (by decide) (by decide) h.row (hne h.row (by decide)), ⟨fun i hi => hk.k _ _ _ _ _ _ (by decide) (by decide) (h.f.o i hi) (hne (h.f.o i hi) (by decide)), h.f.d⟩, h.g⟩
theorem PlS.laid1 (h : PlS V B n ga ca go co dn dv w L ms wv) (l : Ld B ga ca n 0 L w w' L') : PlS V B n ga ca go co dn dv w' L' ms wv := by
  have e1 : L'.getD n fl0 = L.getD n fl0 := l.out n (.inr (by omega))
  have e2 : L'.getD (n + 1) fl0 = L.getD (n + 1) fl0 := l.out (n + 1) (.inr (by omega))
  have er : (L'.drop n).take 1 = (L.drop n).take 1 := by
    apply List.ext_getElem?
    intro j
    by_cases hj : j < 1
    · have : j = 0 := by omega
      subst this
      have a1 : n < L'.length := by rw [l.len, h.len]; omega
      have a2 : n < L.length := by rw [h.len]; omega
      simp only [List.getD, List.getElem?_eq_getElem a1, List.getElem?_eq_getElem a2, Option.getD_some] at e1
      simp [List.getElem?_take, List.getElem?_drop, List.getElem?_eq_getElem a1, List.getElem?_eq_getElem a2, e1]
    · rw [List.getElem?_eq_none (by rw [List.length_take]; omega), List.getElem?_eq_none (by rw [List.length_take]; omega)]
  exact ⟨Nat.le_trans h.hB l.k.b.size, by rw [l.len, h.len], l.m, l.r, by rw [er]; exact l.k.k _ _ _ _ _ _ (by decide) (by decide) h.ro (fun e => h.ne (by have e' : some go = some ga := e; simp at e'; exact e'.symm)), h.ne, by rw [h.wv, e2], h.g.kp l.k h.ra, h.v, h.b.trans (l.k.b.mono h.v)⟩
theorem PlS.laid2 (h : PlS V B n ga ca go co dn dv w L ms wv) (l : Ld B go co 1 n L w w' L') : PlS V B n ga ca go co dn dv w' L' ms wv := by
  have e2 : L'.getD (n + 1) fl0 = L.getD (n + 1) fl0 := l.out (n + 1) (.inr (by omega))
  have er : (L'.drop 0).take n = (L.drop 0).take n := by
    rw [List.drop_zero, List.drop_zero]
    apply List.ext_getElem?
    intro j
    by_cases hj : j < n
    · have e1 := l.out j (.inl hj)
      have a1 : j < L'.length := by rw [l.len, h.len]; omega
      have a2 : j < L.length := by rw [h.len]; omega
      simp only [List.getD, List.getElem?_eq_getElem a1, List.getElem?_eq_getElem a2, Option.getD_some] at e1
      simp [List.getElem?_take, hj, List.getElem?_eq_getElem a1, List.getElem?_eq_getElem a2, e1]
    · rw [List.getElem?_eq_none (by rw [List.length_take]; omega), List.getElem?_eq_none (by rw [List.length_take]; omega)]
  exact ⟨Nat.le_trans h.hB l.k.b.size, by rw [l.len, h.len], l.m, by rw [er]; exact l.k.k _ _ _ _ _ _ (by decide) (by decide) h.ra (fun e => h.ne (by have e' : some ga = some go := e; simp at e'; exact e')), l.r, h.ne, by rw [h.wv, e2], h.g.kp l.k h.ro, h.v, h.b.trans (l.k.b.mono h.v)⟩
theorem PlS.who (h : PlS V B n ga ca go co dn dv w L ms wv) {a2 : Option Addr} {c2 : Nat} {who : List Int} (hw : who.length ≤ 1048576)
    (o2 : w'.ownsRow B 3 1 (.slice a2 who.length c2) who.length (ints who)) (k2 : Kept w w' (fun j => wv.ownBlock = some j)) (e2 : (Value.slice a2 who.length c2).ownBlock = wv.ownBlock ∨ (Value.slice a2 who.length c2).ownBlock = some w.heap.size) :
    ∃ L', PlS V B n ga ca go co dn dv w' L' ms (.slice a2 who.length c2) := by
  have hl : n + 1 < L.length := by rw [h.len]; omega
  have k2' : Kept w w' (fun j => (itv (L.getD (n + 1) fl0)).ownBlock = some j) := by rw [← h.wv]; exact k2
  have oH := h.m.h.o (n + 1) hl
  have hH := h.m.h.put hl o2 k2' (by rw [← h.wv]; exact e2)
  have hS := h.m.s.keptT oH k2' (by decide)
  have r1 := own_keptT h.ra oH k2' (by decide)
  have r2 := own_keptT h.ro oH k2' (by decide)
  have hx := h.m.g (n + 1) hl
  have eS : Fam B 70 2 w' L.length (updF (fun i => slv (L.getD i fl0)) (n + 1) (slv (⟨⟨(L.getD (n + 1) fl0).c.id, (L.getD (n + 1) fl0).c.base, (L.getD (n + 1) fl0).c.sl, who⟩, (L.getD (n + 1) fl0).sa, (L.getD (n + 1) fl0).sc, a2, c2⟩ : Fl))) (updF (fun i => (L.getD i fl0).c.sl.length) (n + 1) (L.getD (n + 1) fl0).c.sl.length) (updF (fun i => slCells (L.getD i fl0).c.sl) (n + 1) (slCells (L.getD (n + 1) fl0).c.sl)) := hS.congr (fun j hj => by
    unfold updF
    by_cases e : j = n + 1
    · subst e; simp only [if_pos]; exact ⟨rfl, trivial, trivial⟩
    · simp only [if_neg e]; exact ⟨trivial, trivial, trivial⟩)
  have hM := Rm.set (L := L) (i := n + 1) (x := ⟨⟨(L.getD (n + 1) fl0).c.id, (L.getD (n + 1) fl0).c.base, (L.getD (n + 1) fl0).c.sl, who⟩, (L.getD (n + 1) fl0).sa, (L.getD (n + 1) fl0).sc, a2, c2⟩) h.m.g ⟨hx.r, hx.b, hx.sn, hw⟩ eS hH
  refine ⟨_, Nat.le_trans h.hB k2.size, by rw [List.length_set, h.len], hM, ?_, ?_, h.ne, ?_, ⟨h.g.len, own_keptT h.g.row oH k2' (by decide), h.g.f.keptT oH k2' (by decide), h.g.g⟩, h.v, ?_⟩
  · have : ((L.set (n + 1) (⟨⟨(L.getD (n + 1) fl0).c.id, (L.getD (n + 1) fl0).c.base, (L.getD (n + 1) fl0).c.sl, who⟩, (L.getD (n + 1) fl0).sa, (L.getD (n + 1) fl0).sc, a2, c2⟩ : Fl)).drop 0).take n = (L.drop 0).take n := by
      rw [List.drop_zero, List.drop_zero, List.take_set_of_le (by omega)]
    rw [this]
    exact r1
  · have : ((L.set (n + 1) (⟨⟨(L.getD (n + 1) fl0).c.id, (L.getD (n + 1) fl0).c.base, (L.getD (n + 1) fl0).c.sl, who⟩, (L.getD (n + 1) fl0).sa, (L.getD (n + 1) fl0).sc, a2, c2⟩ : Fl)).drop n).take 1 = (L.drop n).take 1 := by
      rw [List.drop_set, if_neg (by omega), show n + 1 - n = 1 by omega, List.take_set_of_le (by omega)]
    rw [this]
    exact r2
  · rw [getD_setG _ _ _ _ hl, if_pos rfl]
    rfl
  · refine h.b.trans ((k2'.below h.hB (fun q hq e => by have := (row_cells oH e).1; omega)).mono h.v)
theorem PlS.msg (h : PlS V B n ga ca go co dn dv w L ms wv) {ms' : List Dx} (g : Mg B w' dn dv ms') (k : Kq B w w') : PlS V B n ga ca go co dn dv w' L ms' wv :=
  ⟨Nat.le_trans h.hB k.b.size, h.len, ⟨⟨fun i hi => k.k _ _ _ _ _ _ (by decide) (by decide) (h.m.s.o i hi), h.m.s.d⟩, ⟨fun i hi => k.k _ _ _ _ _ _ (by decide) (by decide) (h.m.h.o i hi), h.m.h.d⟩, h.m.g⟩, k.k _ _ _ _ _ _ (by decide) (by decide) h.ra, k.k _ _ _ _ _ _ (by decide) (by decide) h.ro, h.ne, h.wv, g, h.v, h.b.trans (k.b.mono h.v)⟩
theorem PlS.all (h : PlS V B n ga ca go co dn dv w L ms wv) : RdFs w (some ⟨ga, 0, none⟩) (L.take n) ∧ (L.take n).length = n ∧ ∀ i, i < n → ((L.take n).getD i fl0).In w := by
  have hl : (L.take n).length = n := by rw [List.length_take, h.len]; omega
  have hg : ∀ i, i < n → (L.take n).getD i fl0 = L.getD i fl0 := fun i hi => by simp [List.getD, List.getElem?_take, hi]
  have hin : ∀ i, i < n → ((L.take n).getD i fl0).In w := fun i hi => by rw [hg i hi]; exact h.m.inn (by rw [h.len]; omega)
  refine ⟨⟨by rw [hl]; exact own_row (by have := h.ra; rwa [List.drop_zero] at this) (fun i hi => flCells_at _ i (by rw [hl]; exact hi)), fun i hi => (hin i (by rw [← hl]; exact hi)).rd⟩, hl, hin⟩
theorem PlS.one (h : PlS V B n ga ca go co dn dv w L ms wv) : w.rangeAt go 0 (L.getD n fl0).cs ∧ (L.getD n fl0).In w := by
  refine ⟨?_, h.m.inn (by rw [h.len]; omega)⟩
  have := own_rangeF (i := 0) h.ro (row_len (by rw [h.len]; omega)) (by omega)
  rw [Nat.zero_mul, row_get (by omega)] at this
  exact this
theorem PlS.wh (h : PlS V B n ga ca go co dn dv w L ms wv) : ∃ a c who, wv = .slice a (who : List Int).length c ∧ RdI w a who ∧ who.length ≤ 1048576 ∧ w.ownsRow B 3 1 wv who.length (ints who) := by
  have hl : n + 1 < L.length := by rw [h.len]; omega
  exact ⟨_, _, (L.getD (n + 1) fl0).c.hv, h.wv, own_rdI (h.m.h.o (n + 1) hl) rfl, (h.m.g (n + 1) hl).hn, by rw [h.wv]; exact h.m.h.o (n + 1) hl⟩
theorem Rm.start {V1 V2 V3 : World} {xs : List Fl} {fs : List Fl} {ow f1 : Fl} {av bv wv : Value} {who : List Int} {wa : Option Addr} {wc : Nat} {B : Nat} (hB : B ≤ V.heap.size) (ha : Mf V V1 n av xs fs) (hV2 : Below V1.heap.size V1 V2) (hb : Mf V2 V3 1 bv [ow] [f1]) (hV3 : Below V3.heap.size V3 w) (ho : w'.ownsRow w.heap.size 3 1 (.slice wa who.length wc) who.length (ints who)) (hw : Below w.heap.size w w') (hfs : ∀ i, i < n → Bd64 (fs.getD i fl0)) (hf1 : Bd64 f1) (hwl : who.length ≤ 1048576) : Rm B w' (xs ++ [ow, ⟨⟨v0, 0, [], who⟩, none, 0, wa, wc⟩]) := by
  have b23 : Below V1.heap.size V1 V3 := bstep hV2 hb.b
  have b1w : Below V1.heap.size V1 w := bstep b23 hV3
  have lx : xs.length = n := ha.len
  have gL : ∀ i, i < n + 2 → (xs ++ [ow, ⟨⟨v0, 0, [], who⟩, none, 0, wa, wc⟩]).getD i fl0 = if i = n + 1 then ⟨⟨v0, 0, [], who⟩, none, 0, wa, wc⟩ else if i = n then ow else xs.getD i fl0 := fun i hi => by
    by_cases e1 : i = n + 1
    · subst e1
      rw [if_pos rfl]
      simp [List.getD, List.getElem?_append, ← lx]
    · rw [if_neg e1]
      by_cases e2 : i = n
      · subst e2
        rw [if_pos rfl]
        simp [List.getD, List.getElem?_append, ← lx]
      · rw [if_neg e2]
        simp [List.getD, List.getElem?_append, show i < xs.length by omega]
  have s1 := ha.s.snoc (w' := w) (B2 := V2.heap.size) hV2.size (Nat.le_trans ha.b.size hV2.size) (ha.s.still b1w) (own_still (hb.s.o 0 (by omega)) hV3)
  have s2 := s1.snoc (w' := w') (B2 := w.heap.size) (Nat.le_refl _) (Nat.le_trans ha.b.size b1w.size) (s1.still hw) (show w'.ownsRow w.heap.size 70 2 (.slice none 0 0) 0 [] from ⟨rfl, .inl ⟨rfl, rfl⟩⟩)
  have h1 := ha.h.snoc (w' := w) (B2 := V2.heap.size) hV2.size (Nat.le_trans ha.b.size hV2.size) (ha.h.still b1w) (own_still (hb.h.o 0 (by omega)) hV3)
  have h2 := h1.snoc (w' := w') (B2 := w.heap.size) (Nat.le_refl _) (Nat.le_trans ha.b.size b1w.size) (h1.still hw) ho
  have hlen : (xs ++ [ow, (⟨⟨v0, 0, [], who⟩, none, 0, wa, wc⟩ : Fl)]).length = n + 2 := by simp [lx]
  have hce : ow.c = f1.c := hb.ce 0 (by omega)
  refine ⟨?_, ?_, fun i hi => ?_⟩
  · rw [hlen]
    refine (s2.lower hB).congr (fun i hi => ?_)
    rw [gL i hi]
    unfold updF
    by_cases e1 : i = n + 1
    · simp only [if_pos e1]; exact ⟨by first | rfl | trivial, by first | rfl | trivial, by first | rfl | trivial⟩
    · simp only [if_neg e1]
      by_cases e2 : i = n
      · simp only [if_pos e2]; exact ⟨by first | rfl | trivial, by first | rfl | trivial, by first | rfl | trivial⟩
      · simp only [if_neg e2]; exact ⟨trivial, trivial, trivial⟩
  · rw [hlen]
    refine (h2.lower hB).congr (fun i hi => ?_)
    rw [gL i hi]
    unfold updF
    by_cases e1 : i = n + 1
    · simp only [if_pos e1]; exact ⟨by first | rfl | trivial, by first | rfl | trivial, by first | rfl | trivial⟩
    · simp only [if_neg e1]
      by_cases e2 : i = n
      · simp only [if_pos e2]; exact ⟨by first | rfl | trivial, by first | rfl | trivial, by first | rfl | trivial⟩
      · simp only [if_neg e2]; exact ⟨trivial, trivial, trivial⟩
  · rw [hlen] at hi
    rw [gL i hi]
    by_cases e1 : i = n + 1
    · rw [if_pos e1]
      exact ⟨fun j hj => by simp at hj, (show i64B 0 from by unfold i64B; omega), by simp, hwl⟩
    · rw [if_neg e1]
      by_cases e2 : i = n
      · rw [if_pos e2]
        exact ⟨by rw [hce]; exact hf1.r, by rw [hce]; exact hf1.b, by rw [hce]; exact hf1.sn, by rw [hce]; exact hf1.hn⟩
      · rw [if_neg e2]
        have hc := ha.ce i (by omega)
        have := hfs i (by omega)
        exact ⟨by rw [hc]; exact this.r, by rw [hc]; exact this.b, by rw [hc]; exact this.sn, by rw [hc]; exact this.hn⟩
end
end
end Go.Proofs.Ytihcaopcfhbofaa.Fm
