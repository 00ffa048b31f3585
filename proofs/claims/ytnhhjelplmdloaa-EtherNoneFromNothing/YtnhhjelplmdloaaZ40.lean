import Derived.Test.YtnhhjelplmdloaaZ39
namespace Go.Proofs.Ytnhhjelplmdloaa.Et
open Go.RowKit Go.Maps
set_option linter.unusedVariables false
set_option linter.unusedSimpArgs false
set_option maxRecDepth 100000
section
variable {E E1 E' : En} {w w' w1 w2 w3 : World} {B K m : Nat} {bb : Nat} {sv dv bv cv : Value} {es : List Be}
theorem map_d {L L2 : List Fx} (h : L.map Fx.d = L2.map Fx.d) (k : Nat) : (L.getD k f0).d = (L2.getD k f0).d := by
  have e : ∀ L : List Fx, (L.getD k f0).d = (L.map Fx.d).getD k f0.d := fun L => by
    simp only [List.getD, List.getElem?_map]
    cases L[k]? <;> rfl
  rw [e, e, h]
theorem RdG.rows {G n c : Nat} {a : Option Addr} {L : List Fx} (h : RdG w G a n c L) (hn : 0 < n) : ∃ g, a = some ⟨g, 0, none⟩ ∧ ∀ k, k < n → w.rangeAt g (k * 5) (L.getD k f0).cs.toList := by
  rcases row_cells h.row h.len with h0 | ⟨g, rfl, hc⟩
  · omega
  · refine ⟨g, rfl, fun k hk j v hv => ?_⟩
    have hj : j < 5 := (List.getElem?_eq_some_iff.1 hv).1
    rw [hc k hk j hj, ← hv]
    simp
theorem En.Ok.rd (h : E.Ok w B m) {k : Nat} (hk : k < E.fs.length) : (E.fs.getD k f0).bs.length = (E.fs.getD k f0).n := (h.fls.byt _ (mem_getD hk)).rd.1
theorem did_all {X w3 : World} {G n c : Nat} {fa : Option Addr} {L : List Fx} (h : Jm X E B K bb sv dv bv cv es) (g : Go1 X w3 E E1 B K) (hK : K ≤ 2199023255551) (o : Opx) (v : Ev) (bs : List Int) (e1 : v.k = o.k - 20) (e2 : v.a = o.p) (e3 : v.b = o.q) (e4 : v.n = o.n) (hx : DoX v bs E E1) (hG : RdG w3 G fa n c L) (hbk : ∀ j, BkO bb sv dv bv cv es j → j < G) (hL : L.map Fx.d = E.fs.map Fx.d) (hn : n = E.fs.length) (hr : 20 < o.k ∧ o.k ≤ 60) (h63 : o.n ≤ 9223372036854775807) (hbb : ∀ Z, Below B X Z → Rd Z o.ba o.bn o.bc bs) (hbn : o.bn ≤ 140737488351232) : Calls Try.prog 34 #[.pointer (some ⟨bb, 0, none⟩), .slice fa n c, .agg o.cs] w3 fun e w4 => e = .returned (.bool true) ∧ RunQ X w4 E B K bb := by
  have hh := h.go1 g
  have hl3 := g.low h
  have hlen := h.len
  have hfew := h.few
  have hnd : ∀ k, (L.getD k f0).d = (E.fs.getD k f0).d := map_d hL
  have f1 : ∀ k, (L.getD k f0).id = (E.fs.getD k f0).id := fun k => congrArg Fd.id (hnd k)
  have f2 : ∀ k, (L.getD k f0).src = (E.fs.getD k f0).src := fun k => congrArg Fd.src (hnd k)
  have f3 : ∀ k, (L.getD k f0).dst = (E.fs.getD k f0).dst := fun k => congrArg Fd.dst (hnd k)
  have f4 : ∀ k, (L.getD k f0).bs = (E.fs.getD k f0).bs := fun k => congrArg Fd.bs (hnd k)
  rcases hx with ⟨k1, k2, k3, s⟩ | ⟨k1, k, ha, hk, s⟩ | ⟨k1, k, x, ha, hk, hvx, hxn, hl1, hf1⟩ | ⟨k1, s⟩
  · exact (did_else (sv := sv) (dv := dv) (bv := bv) (cv := cv) (es := es) o (by omega) (by omega) (by omega) hr).mono fun e w4 ⟨x1, x2⟩ => ⟨x1, E1, _, _, _, _, _, (hh.still x2).done (h.r.sbx s), g.nx.b, g.nx.nn, hl3.trans (x2.mono hh.hB)⟩
  · obtain ⟨gb, rfl, hrows⟩ := hG.rows (by omega)
    have hkn : k < n := by omega
    refine (did_dup hh.b hh.hB (by omega) o (by omega) (by rw [← e2, ha]) hkn hG.len (by omega) rfl (fun Z hZ j u hu => below_at hZ (hrows k hkn j u hu)) (fun Z hZ => ((hG.keep hZ (fun j hj e => by have := hbk j (.inl e); omega)).byt k hkn).rd) ?_).mono ?_
    · have b1 := (hG.byt k hkn).rd.1
      have b2 := hh.e
      have b3 := h.e.rd hk
      have b4 := h.i.szE _ (mem_getD hk)
      rw [f4, b3] at b1
      omega
    · rintro e w4 ⟨rfl, hp⟩
      rw [f2, f3, f4] at hp
      have hp0 := hp
      obtain ⟨sv', dv', bv', cv', a', c', hh2⟩ := hh.put hp
      obtain ⟨_, _, _, _, _, _, _, hkp, _⟩ := hp0
      exact ⟨rfl, E1, _, _, _, _, _, hh2.done (h.r.adx h.i hK s a' c'), g.nx.b, g.nx.nn, hl3.trans (low_of hh.b hh.hB hkp)⟩
  · obtain ⟨gb, rfl, hrows⟩ := hG.rows (by omega)
    have hkn : k < n := by omega
    obtain ⟨q, hq, hid, he1, he2, he3, he4⟩ := h.r.en _ (mem_getD hk)
    have hbx : x / 8 < (es.getD q e0).bs.length := by rw [he3, h.e.rd hk]; exact hxn
    refine (did_flip hh.b hq (by omega) o (by omega) (by rw [← e2, ha]) (by rw [← e4, hvx]) hkn (by omega) rfl (fun Z hZ j u hu => below_at hZ (hrows k hkn j u hu)) (by rw [f1, hid]) hbx (by omega)).mono ?_
    rintro e w4 ⟨rfl, hb4, hk4⟩
    have hh2 := hh.flip hq hb4 hk4
    exact ⟨rfl, E1, _, _, _, _, _, hh2.done (h.r.flip h.i hk hid hl1 hf1), g.nx.b, g.nx.nn, hl3.trans (hk4.below hh.hB (fun j hj e => by have := (World.ownsRow.lt (hh.b.f.o q hq) j e).1; omega))⟩
  · refine (did_inject hh.b hh.hB (by omega) o bs (fun Z hZ => hbb Z (hl3.trans hZ)) (by omega) (by omega)).mono ?_
    rintro e w4 ⟨rfl, hp⟩
    have hp0 := hp
    obtain ⟨sv', dv', bv', cv', a', c', hh2⟩ := hh.put hp
    obtain ⟨_, _, _, _, _, _, _, hkp, _⟩ := hp0
    rw [e2, e3] at s
    exact ⟨rfl, E1, _, _, _, _, _, hh2.done (h.r.adx h.i hK s a' c'), g.nx.b, g.nx.nn, hl3.trans (low_of hh.b hh.hB hkp)⟩
set_option maxHeartbeats 1000000 in
theorem run_do (h : Jm w E B K bb sv dv bv cv es) (hK : K ≤ 2199023255551) (o : Opx) (bs xs : List Int) (hbb : ∀ X, Below B w X → Rd X o.ba o.bn o.bc bs) (hss : ∀ X, Below B w X → RdI X o.sa o.sn o.sc xs) (hbn : o.bn ≤ 140737488351232) (hsn : o.sn ≤ 17592186043904) (h63 : o.n ≤ 9223372036854775807) (h1 : 20 < o.k) (h2 : o.k ≤ 60) : Calls Try.prog 11 #[.pointer (some ⟨bb, 0, none⟩), .pointer (some ⟨E.b, 0, none⟩), .agg o.cs] w fun e w' => e = .returned (.bool true) ∧ RunQ w w' E B K bb := by
  generalize hW : w.alloc (.cells o.cs 46) = W
  have hbW : Below w.heap.size w W := by rw [← hW]; exact balloc (Below.refl _ w)
  have hblk : W.heap[w.heap.size]? = some (.cells o.cs 46 (0, 0)) := by rw [← hW]; exact heap_alloc_new w _
  obtain ⟨d0, d1, d2, d3, d4, d5⟩ := op_cells hblk
  have Hb : Hid (Below w.heap.size w W) := hbW
  have hlow : Below B w W := hbW.mono h.hB
  have hJ := h.still hbW
  have Hlow : Hid (Below B w W) := hlow
  have HF : Hid (Calls Try.prog 15 #[.pointer (some ⟨E.b, 0, none⟩)] W fun e w1 => ∃ a L, e = .returned (.slice a E.fs.length E.fs.length) ∧ RdG w1 W.heap.size a E.fs.length E.fs.length L ∧ L.map Fx.d = E.fs.map Fx.d ∧ Below W.heap.size W w1) := flights2_any hJ.e hJ.few hJ.i.szE
  have HOb : Hid (∀ X : World, X.heap[w.heap.size]? = some (.cells o.cs 46 (0, 0)) → X.cell? ⟨w.heap.size, 0, none⟩ = some (.int .i64 o.k) ∧ X.cell? ⟨w.heap.size, 1, none⟩ = some (.int .i64 o.p) ∧ X.cell? ⟨w.heap.size, 2, none⟩ = some (.int .i64 o.q) ∧ X.cell? ⟨w.heap.size, 3, none⟩ = some (.int .i64 o.n) ∧ X.cell? ⟨w.heap.size, 4, none⟩ = some (.slice o.ba o.bn o.bc) ∧ X.cell? ⟨w.heap.size, 5, none⟩ = some (.slice o.sa o.sn o.sc)) := fun X hX => op_cells hX
  have HBk : Hid (W.heap[w.heap.size]? = some (.cells o.cs 46 (0, 0))) := hblk
  have hr0 := hbb w (Below.refl _ _)
  have hx0 := hss w (Below.refl _ _)
  have hbl := hr0.1
  have hxl := hx0.1
  have HEv : Hid (∀ X fa L, Below W.heap.size W X → RdG X W.heap.size fa E.fs.length E.fs.length L → L.map Fx.d = E.fs.map Fx.d → X.heap[w.heap.size]? = some (.cells o.cs 46 (0, 0)) → Calls Try.prog 33 #[.agg #[.int .i64 o.k, .int .i64 o.p, .int .i64 o.q, .int .i64 o.n, .slice o.ba o.bn o.bc, .slice o.sa o.sn o.sc]] X fun e w2 => ∃ gb cb gs cs, e = .returned (.agg #[.int .i64 (o.k - 20), .int .i64 o.p, .int .i64 o.q, .int .i64 o.n, .slice (some ⟨gb, 0, none⟩) o.bn cb, .int .i64 0, .int .i64 0, .int .i64 0, .int .i64 0, .string ByteArray.empty, .string ByteArray.empty, .string ByteArray.empty, .slice (some ⟨gs, 0, none⟩) o.sn cs]) ∧ Calls Try.prog 32 #[.pointer (some ⟨E.b, 0, none⟩), .agg #[.int .i64 (o.k - 20), .int .i64 o.p, .int .i64 o.q, .int .i64 o.n, .slice (some ⟨gb, 0, none⟩) o.bn cb, .int .i64 0, .int .i64 0, .int .i64 0, .int .i64 0, .string ByteArray.empty, .string ByteArray.empty, .string ByteArray.empty, .slice (some ⟨gs, 0, none⟩) o.sn cs]] w2 fun e w3 => ∃ x, e = .returned (.int .i64 x) ∧ w3.heap[w.heap.size]? = some (.cells o.cs 46 (0, 0)) ∧ ((x ≠ 0 ∧ RunQ w w3 E B K bb) ∨ (x = 0 ∧ Calls Try.prog 34 #[.pointer (some ⟨bb, 0, none⟩), .slice fa E.fs.length E.fs.length, .agg #[.int .i64 o.k, .int .i64 o.p, .int .i64 o.q, .int .i64 o.n, .slice o.ba o.bn o.bc, .slice o.sa o.sn o.sc]] w3 fun e w4 => e = .returned (.bool true) ∧ RunQ w w4 E B K bb))) := by
    intro X fa L hX hG hL hblX
    have hlX : Below B w X := hlow.trans (hX.mono hJ.hB)
    have hJX := hJ.still hX
    refine (event_any o bs xs (hbb X hlX) (hss X hlX) hbn hsn h1 h2).mono ?_
    rintro e w2 ⟨gb, cb, gs, cs, rfl, hm, hmi, hb2⟩
    refine ⟨gb, cb, gs, cs, rfl, ?_⟩
    have hJ2 := hJX.still hb2
    have hl2 : Below B w w2 := hlX.trans (hb2.mono hJX.hB)
    have hno : ¬ E.own w.heap.size := fun e => by have := h.e.ltOwn e; omega
    have hgs : ¬ E.own gs := fun e => by
      have q1 := hJX.e.ltOwn e
      have q2 := (World.ownsRow.lt hmi gs rfl).1
      omega
    have hbl2 := (hb2.block _ (lt_heap hblX)).trans hblX
    refine (do_x hJ2.e hJ2.hB h.i hK (evC o gb cb gs cs) bs xs h63 (hm.rd hbl hr0.2.2.2) hxl gs rfl (fun i hi => hmi.cells hxl hi) hgs).mono ?_
    rintro e w3 ⟨x, rfl, r⟩
    rcases r with ⟨hy, hb3⟩ | ⟨hy, E1, g, hd⟩
    · exact ⟨x, rfl, (hb3.block _ (lt_heap hbl2)).trans hbl2, .inl ⟨hy, (runq_none hJ2 hb3).pre hl2⟩⟩
    · refine ⟨x, rfl, g.obj hJ2.e hbl2 hno, .inr ⟨hy, ?_⟩⟩
      have hG3 : RdG w3 W.heap.size fa E.fs.length E.fs.length L := by
        obtain ⟨⟨m1, st, _⟩, _, _⟩ := g
        exact (hG.still hb2).keep st.kept (fun j hj e => by have := hJ.e.ltOwn e; omega)
      exact (did_all hJ2 g hK o (evC o gb cb gs cs) bs rfl rfl rfl rfl hd hG3 (fun j hj => by have := BkO.lt hJ.b hj; omega) hL rfl ⟨h1, h2⟩ h63 (fun Z hZ => hbb Z (hl2.trans hZ)) hbn).mono fun e w4 ⟨x1, x2⟩ => ⟨x1, x2.pre hl2⟩
  unfold Opx.cs at hW ⊢
  clear hbW hblk hlow d0 d1 d2 d3 d4 d5
  clear h hJ hbb hss hr0 hx0
  go_enter Try.func11, Try.ntmps11
  go_wp2_with (fail)
  refine HF.out.mono ?_
  rintro e w1 ⟨fa, L, rfl, hG, hL, hb1⟩
  have hk1 : w1.heap[w.heap.size]? = some (.cells o.cs 46 (0, 0)) := (hb1.block _ (lt_heap HBk.out)).trans HBk.out
  obtain ⟨d0, d1, d2, d3, d4, d5⟩ := HOb.out w1 hk1
  have Hk1 : Hid (w1.heap[w.heap.size]? = some (.cells o.cs 46 (0, 0))) := hk1
  have Hb1 : Hid (Below W.heap.size W w1) := hb1
  clear hk1 hb1 HF
  have HP1 := HEv.out w1 fa L Hb1.out hG hL Hk1.out
  clear HEv hG hL
  unfold Opx.cs at HP1
  go_wp2_with (fail)
  all_goals first | (exfalso; omega) | skip
  refine HP1.mono ?_
  rintro e w2 ⟨gb, cb, gs, cs, rfl, hc⟩
  go_wp2_with (fail)
  refine hc.mono ?_
  rintro e w3 ⟨x, rfl, hk3, hr⟩
  obtain ⟨d0, d1, d2, d3, d4, d5⟩ := HOb.out w3 hk3
  clear hk3
  rcases hr with ⟨hy, hr⟩ | ⟨rfl, hr⟩
  · have HR : Hid (RunQ w w3 E B K bb) := hr
    clear hr
    go_wp2_with (fail)
    all_goals first | (exfalso; omega) | (go_ret; exact ⟨by simp [hy], HR.out⟩)
  · go_wp2_with (fail)
    refine hr.mono ?_
    rintro e w4 ⟨rfl, hr⟩
    go_wp2_with (fail)
    go_ret
    exact ⟨rfl, hr⟩
end
end Go.Proofs.Ytnhhjelplmdloaa.Et
