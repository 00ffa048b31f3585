import Derived.Test.YtfodkackfahldaaBsc
namespace Go.Proofs.Ytfodkackfahldaa.Lo
open Go.RowKit
set_option linter.unusedVariables false
set_option linter.unusedSimpArgs false

def flv (gs : Nat → Nat × Nat) (es : List Em) (j : Nat) : List Value := (List.range j).map (fun i => .slice (some ⟨(gs i).1, 0, none⟩) ((es.getD i em0).sn + 64) (gs i).2)
theorem flv_len (gs : Nat → Nat × Nat) (es : List Em) (j : Nat) : (flv gs es j).length = j := by simp [flv]
theorem flv_succ (gs : Nat → Nat × Nat) (es : List Em) (j g cc : Nat) : flv (fun i => if i = j then (g, cc) else gs i) es (j + 1) = flv gs es j ++ [.slice (some ⟨g, 0, none⟩) ((es.getD j em0).sn + 64) cc] := by
  simp only [flv, List.range_succ, List.map_append, List.map_cons, List.map_nil]
  congr 1
  · apply List.map_congr_left
    intro i hi
    rw [List.mem_range] at hi
    rw [if_neg (by omega)]
def Fls (w : World) (B : Nat) (gs : Nat → Nat × Nat) (es : List Em) (j : Nat) : Prop := ∀ i, i < j → OwI w B (.slice (some ⟨(gs i).1, 0, none⟩) ((es.getD i em0).sn + 64) (gs i).2) (pcL (es.getD i em0).xs 64)
theorem Fls.keep {w w' : World} {P : Nat → Prop} {B : Nat} {gs : Nat → Nat × Nat} {es : List Em} {j : Nat} (h : Fls w B gs es j) (k : Mb.Kept w w' P) (hP : ∀ q, P q → ∀ C t, w.heap[q]? = some (.cells C t (0, 0)) → t ≠ 3) : Fls w' B gs es j := fun i hi => k.owns (h i hi) (fun g hg hp => by
  obtain ⟨C, hC⟩ := Ln.own_ty (h i hi) hg
  exact hP g hp C _ hC rfl)
theorem Fls.on {w w' : World} {B : Nat} {gs : Nat → Nat × Nat} {es : List Em} {j : Nat} (h : Fls w B gs es j) (hb : Below w.heap.size w w') : Fls w' B gs es j := h.keep (Mb.Kept.ofBelow hb (fun _ => False)) (fun q hq => hq.elim)
theorem Fls.add {w : World} {B : Nat} {gs : Nat → Nat × Nat} {es : List Em} {j g cc : Nat} (h : Fls w B gs es j) (hg : OwI w B (.slice (some ⟨g, 0, none⟩) ((es.getD j em0).sn + 64) cc) (pcL (es.getD j em0).xs 64)) : Fls w B (fun i => if i = j then (g, cc) else gs i) es (j + 1) := by
  intro i hi
  by_cases e : i = j
  · subst e
    simp only [if_pos]
    exact hg
  · simp only [if_neg e]
    exact h i (by omega)
theorem rowS {w : World} {B n c : Nat} {a : Option Addr} {l : List Value} (h : w.ownsRow B 22 1 (.slice a n c) n l) {j : Nat} {v : Value} (hv : l[j]? = some v) : ∃ fb, a = some ⟨fb, 0, none⟩ ∧ w.cell? ⟨fb, j, none⟩ = some v := by
  have hj := (List.getElem?_eq_some_iff.1 hv).1
  have hl := h.1
  rcases h.2 with ⟨e, e0⟩ | ⟨g, cap, cur, e, _, hh, _, _, _, ht⟩
  · omega
  · simp only [Value.slice.injEq] at e
    refine ⟨g, e.1, ?_⟩
    rw [blk_cell hh]
    rw [← ht, List.getElem?_take, if_pos (by omega)] at hv
    simpa using hv
theorem ow_cap {w : World} {B t s n n' c : Nat} {a : Option Addr} {l : List Value} (h : w.ownsRow B t s (.slice a n c) n' l) : n ≤ c := by
  rcases h.2 with ⟨e, e0⟩ | ⟨g, cap, cur, e, _, _, hc, _⟩
  · simp only [Value.slice.injEq] at e; omega
  · simp only [Value.slice.injEq] at e; omega
theorem results_tmp4 {fn : Func} {t u v x : Tmp} (h : fn.results = #[.tmp t, .tmp u, .tmp v, .tmp x]) (tmps : Array Value) (P : Program) (w : World) :
    (results fn tmps).run P w = .ok (.tuple #[tmps.getD t undef, tmps.getD u undef, tmps.getD v undef, tmps.getD x undef]) w := by
  simp [results, h]
set_option maxRecDepth 100000 in
set_option maxHeartbeats 8000000 in
theorem lprem_any (no wi ba st ca ro fl : Int) (va : Option Addr) (vn vc : Nat) (vs : List Int) (r : Bool) (E : Int) (ea : Option Addr) (en ec : Nat) (es : List Em) (so : Option Addr) (sn sc : Nat) (ss : List Int) (w : World) (h : Cf w no wi ba st ca ro fl va vn vc vs r E) (hvn : vn * 8 ≤ 140737488351232) (hev : EvF w ea en es) (hss : Ri w so sn sc ss) (hsn : sn * 8 ≤ 140737488351232) : Calls Try.prog 19 #[.agg #[.int .i64 no, .int .i64 wi, .int .i64 ba, .int .i64 st, .int .i64 ca, .int .i64 ro, .int .i64 fl, .slice va vn vc, .slice ea en ec, .slice so sn sc]] w fun e w' => e = .returned (.tuple #[.int .i64 (pm E en no ba fl es ss).1, .int .i64 (pm E en no ba fl es ss).2.1, .int .i64 (pm E en no ba fl es ss).2.2, .bool true]) ∧ Below w.heap.size w w' := by
  have HB : Hid (Below w.heap.size w (w.alloc (.cells #[.int .i64 no, .int .i64 wi, .int .i64 ba, .int .i64 st, .int .i64 ca, .int .i64 ro, .int .i64 fl, .slice va vn vc, .slice ea en ec, .slice so sn sc] 29))) := bsp _ _ _
  have hk := heap_new w #[.int .i64 no, .int .i64 wi, .int .i64 ba, .int .i64 st, .int .i64 ca, .int .i64 ro, .int .i64 fl, .slice va vn vc, .slice ea en ec, .slice so sn sc] 29
  have hWs : w.heap.size < (w.alloc (.cells #[.int .i64 no, .int .i64 wi, .int .i64 ba, .int .i64 st, .int .i64 ca, .int .i64 ro, .int .i64 fl, .slice va vn vc, .slice ea en ec, .slice so sn sc] 29)).heap.size := by simp
  generalize hW : w.alloc (.cells #[.int .i64 no, .int .i64 wi, .int .i64 ba, .int .i64 st, .int .i64 ca, .int .i64 ro, .int .i64 fl, .slice va vn vc, .slice ea en ec, .slice so sn sc] 29) = W at *
  have c0 : W.cell? ⟨w.heap.size, 0, none⟩ = some (.int .i64 no) := blk_cell hk 0
  have c1 : W.cell? ⟨w.heap.size, 1, none⟩ = some (.int .i64 wi) := blk_cell hk 1
  have c2 : W.cell? ⟨w.heap.size, 2, none⟩ = some (.int .i64 ba) := blk_cell hk 2
  have c3 : W.cell? ⟨w.heap.size, 3, none⟩ = some (.int .i64 st) := blk_cell hk 3
  have c4 : W.cell? ⟨w.heap.size, 4, none⟩ = some (.int .i64 ca) := blk_cell hk 4
  have c5 : W.cell? ⟨w.heap.size, 5, none⟩ = some (.int .i64 ro) := blk_cell hk 5
  have c6 : W.cell? ⟨w.heap.size, 6, none⟩ = some (.int .i64 fl) := blk_cell hk 6
  have c7 : W.cell? ⟨w.heap.size, 7, none⟩ = some (.slice va vn vc) := blk_cell hk 7
  have c8 : W.cell? ⟨w.heap.size, 8, none⟩ = some (.slice ea en ec) := blk_cell hk 8
  have c9 : W.cell? ⟨w.heap.size, 9, none⟩ = some (.slice so sn sc) := blk_cell hk 9
  have HCf : Hid (Cf W no wi ba st ca ro fl va vn vc vs r E) := h.below HB.out
  have HEv : Hid (EvF W ea en es) := hev.on HB.out
  have HSs : Hid (Ri W so sn sc ss) := hss.below HB.out
  have HCp : Hid (Calls Try.prog 8 #[.agg #[.int .i64 no, .int .i64 wi, .int .i64 ba, .int .i64 st, .int .i64 ca, .int .i64 ro, .int .i64 fl, .slice va vn vc, .slice ea en ec]] W fun r w' => ∃ (va' : Option Addr) (vc' : Nat) (ea' : Option Addr) (ec' : Nat) (es' : List Em), r = .returned (.agg #[.int .i64 no, .int .i64 wi, .int .i64 ba, .int .i64 st, .int .i64 ca, .int .i64 ro, .int .i64 fl, .slice va' vn vc', .slice ea' en ec']) ∧ OwI w' W.heap.size (.slice va' vn vc') vs ∧ OwE w' W.heap.size (.slice ea' en ec') es' ∧ Rws w' W.heap.size es' ∧ Sms en es es' ∧ Below W.heap.size W w') := copied_any no wi ba st ca ro fl va vn vc vs ea en ec es W HCf.out.rd hvn HEv.out
  obtain ⟨⟨tq, dq, xq⟩, hq⟩ : ∃ q : Int × Int × Int, pm E en no ba fl es ss = q := ⟨_, rfl⟩
  rw [hq]
  have HQ : Hid (pm E en no ba fl es ss = (tq, dq, xq)) := hq
  have HC7 : Hid (W.cell? ⟨w.heap.size, 7, none⟩ = some (.slice va vn vc)) := c7
  have HC8 : Hid (W.cell? ⟨w.heap.size, 8, none⟩ = some (.slice ea en ec)) := c8
  have HC9 : Hid (W.cell? ⟨w.heap.size, 9, none⟩ = some (.slice so sn sc)) := c9
  have HCA : Hid (∀ (i : Nat) v w', Below W.heap.size W w' → W.cell? ⟨w.heap.size, i, none⟩ = some v → w'.cell? ⟨w.heap.size, i, none⟩ = some v) := (show ∀ (i : Nat) v w', _ from fun i v w' hb hc => belowB_at hb hWs hc)
  have HW0 : Hid (W.cell? ⟨w.heap.size, 0, none⟩ = some (.int .i64 no) ∧ W.cell? ⟨w.heap.size, 1, none⟩ = some (.int .i64 wi) ∧ W.cell? ⟨w.heap.size, 2, none⟩ = some (.int .i64 ba) ∧ W.cell? ⟨w.heap.size, 3, none⟩ = some (.int .i64 st) ∧ W.cell? ⟨w.heap.size, 4, none⟩ = some (.int .i64 ca) ∧ W.cell? ⟨w.heap.size, 5, none⟩ = some (.int .i64 ro) ∧ W.cell? ⟨w.heap.size, 6, none⟩ = some (.int .i64 fl)) := (show _ ∧ _ from ⟨c0, c1, c2, c3, c4, c5, c6⟩)
  have hessz : en * 160 ≤ 140737488351232 := HEv.out.sz
  clear hk h hev hss hq
  go_enter Try.func19, Try.ntmps19
  go_wp2_with fail
  refine HCp.out.mono ?_
  rintro e w2 ⟨va1, vc1, ea1, ec1, es1, rfl, o1, o2, o3, o4, hb2⟩
  clear HCp c0 c1 c2 c3 c4 c5 c6 c7 c8 c9
  go_wp2_with (first | (refine wl_allocZ rfl 27 rfl zScr ?_) | fail)
  intro W2 k2 b2 s2
  go_wp2_with (first | (refine Ln.at_store 27 _ _ rfl ?_; refine wl_storeZ rfl 27 _ _ rfl (L := [.int .i64 no, .int .i64 wi, .int .i64 ba, .int .i64 st, .int .i64 ca, .int .i64 ro, .int .i64 fl, .slice va1 vn vc1, .slice ea1 en ec1]) rfl rfl k2 iScr rfl (one9 _ _ _ _ _ _ _ _ _ _ _ _ _ ) ?_) | fail)
  intro W3 k3 kk3
  have hz2 : W.heap.size ≤ w2.heap.size := hb2.size
  have hk2 : Below w2.heap.size w2 W3 := b2.trans (kn kk3 (Nat.le_refl _) b2.size)
  have HP3 : Hid (PS W W3 w2.heap.size no wi ba st ca ro fl va1 vn vc1 vs ea1 en ec1 es es1) := (show PS _ _ _ _ _ _ _ _ _ _ _ _ _ _ _ _ _ _ _  from
    ⟨k3, Mb.own_still o1 hk2, Mb.own_still o2 hk2, o3.keep (Mb.Kept.ofBelow hk2 (fun _ => False)) (fun j hj => hj.elim), o4, fun i hi => (by
      have h1 := (o3.sd _ (getD_mem (by rw [o4.1]; exact hi))).len
      have h2 := (o4.2 i hi).xs
      have h3 := (HEv.out.r.sd i hi)
      rw [← h1, h2, h3.1.1]
      exact h3.2), hb2.trans (hk2.mono hz2), hz2⟩)
  clear hk2 hz2 o1 o2 o3 o4 hb2 k2 b2 s2 k3 kk3
  generalize w2.heap.size = tb at *
  go_wp2_with fail
  go_loopw [7, 8] (fun v7 x wr => ∃ (j : Nat) (a7 : Option Addr) (c7 : Nat) (l : List Em) (gs : Nat → Nat × Nat), j ≤ en ∧ x = .int .i64 j ∧ v7 = .slice a7 j c7 ∧ Hid (PS W wr tb no wi ba st ca ro fl va1 vn vc1 vs ea1 en ec1 es l) ∧ Hid (wr.ownsRow W.heap.size 22 1 (.slice a7 j c7) j (flv gs es j)) ∧ Hid (Fls wr W.heap.size gs es j)) (fun _ x _ => en - (intOf x).toNat)
  case atStart => exact ⟨0, none, 0, es1, fun _ => (0, 0), Nat.zero_le _, rfl, rfl, HP3, (show World.ownsRow _ _ _ _ _ _ _  from ow_nil _ _ _ _), (show Fls _ _ _ _ _  from fun i hi => by omega)⟩
  case round =>
    obtain ⟨j, a7, c7, l, gs, hj, rfl, rfl, hP, hS, hF⟩ := hrel
    have t8 : wr.cell? ⟨tb, 8, none⟩ = some (.slice ea1 en ec1) := blk_cell hP.out.t 8
    by_cases hjn : j < en
    · have j1 : (0 : Int) ≤ (j : Int) := Int.natCast_nonneg _
      have j3 : (j : Int) < (en : Int) := by omega
      have hlen : l.length = en := hP.out.o.row.1
      have hea : ∃ eb, ea1 = some ⟨eb, 0, none⟩ := by
        rcases hP.out.o.2 with ⟨e, e0⟩ | ⟨g, cap, cur, e, _⟩
        · omega
        · simp only [Value.slice.injEq] at e; exact ⟨g, e.1⟩
      obtain ⟨eb, rfl⟩ := hea
      have hrow : wr.rangeAt eb (0 + j * 13) (l.getD j em0).cs := by
        rcases hP.out.o.row.2 with h0 | ⟨b', o', e', hr⟩
        · omega
        · cases e'; exact hr j hjn
      have e12 : wr.cell? ⟨eb, j * 13 + 12, none⟩ = some (.slice (l.getD j em0).sa (l.getD j em0).sn (l.getD j em0).sc) := by
        have := hrow 12 _ rfl
        rw [Nat.zero_add] at this
        exact this
      have hsj := hP.out.m.2 j hjn
      have hmem := getD_mem (es := l) (i := j) (by omega)
      have hri := (hP.out.s.sd _ hmem).ri
      have hsn1 : (l.getD j em0).sn = (es.getD j em0).sn := by rw [← hri.1, hsj.xs, (HEv.out.r.sd j hjn).1.1]
      have hbnd : (es.getD j em0).sn * 8 ≤ 140737488351232 := HEv.out.sl j hjn
      have HPc : Hid (Calls Try.prog 35 #[.slice (l.getD j em0).sa (l.getD j em0).sn (l.getD j em0).sc] wr fun r w' => ∃ (g cc : Nat), r = .returned (.slice (some ⟨g, 0, none⟩) ((l.getD j em0).sn + 64) cc) ∧ OwI w' wr.heap.size (.slice (some ⟨g, 0, none⟩) ((l.getD j em0).sn + 64) cc) (pcL (l.getD j em0).xs 64) ∧ Below wr.heap.size wr w') := piece_any _ _ _ _ wr hri (by rw [hsn1]; exact hbnd)
      clear hrow
      obtain ⟨sa0, hsa0⟩ : ∃ x, (l.getD j em0).sa = x := ⟨_, rfl⟩
      obtain ⟨sc0, hsc0⟩ : ∃ x, (l.getD j em0).sc = x := ⟨_, rfl⟩
      obtain ⟨m, hm⟩ : ∃ x, (l.getD j em0).sn = x := ⟨_, rfl⟩
      rw [hsa0, hsc0, hm] at e12 HPc
      have HEm : Hid ((l.getD j em0).sn = m ∧ (es.getD j em0).sn = m ∧ (l.getD j em0).xs = (es.getD j em0).xs ∧ m * 8 ≤ 140737488351232) := (show _ ∧ _ from ⟨hm, by rw [← hsn1, hm], hsj.xs, by rw [← hm, hsn1]; exact hbnd⟩)
      clear hsa0 hsc0 hsj hmem hri hsn1 hbnd hm
      have hszr : W.heap.size ≤ wr.heap.size := hP.out.b.size
      go_wp2_with fail
      refine HPc.out.mono ?_
      rintro e w1 ⟨g, cc, rfl, og, hbg⟩
      have hP1 := hP.out.on hbg
      have hS1 := Mb.own_still hS.out hbg
      have hF1 := hF.out.on hbg
      have og1 : OwI w1 W.heap.size (.slice (some ⟨g, 0, none⟩) (m + 64) cc) (pcL (l.getD j em0).xs 64) := Mb.own_lower og hszr
      have HP1 : Hid (PS W w1 tb no wi ba st ca ro fl va1 vn vc1 vs (some ⟨eb, 0, none⟩) en ec1 es l) := hP1
      have HS1 : Hid (w1.ownsRow W.heap.size 22 1 (.slice a7 j c7) j (flv gs es j)) := hS1
      have HF1 : Hid (Fls w1 W.heap.size gs es j) := hF1
      have HOG : Hid (OwI w1 W.heap.size (.slice (some ⟨g, 0, none⟩) (m + 64) cc) (pcL (l.getD j em0).xs 64)) := og1
      have hs1 : W.heap.size ≤ w1.heap.size := hP1.b.size
      have e12a := below_at hbg e12
      clear hP1 hS1 hF1 og1 og hbg hP hS hF HPc t8 e12
      go_wp2_with (first | (at_builtin; refine app_S rfl _ _ rfl rfl HS1.out (some ⟨g, 0, none⟩) (m + 64) cc rfl rfl (by omega) hs1 ?_) | fail)
      intro v7 Z2 oS kkS
      obtain ⟨a7n, c7n, hv⟩ := ow_shape oS.out
      subst hv
      have hPt : ∀ q, (Value.slice a7 j c7).ownBlock = some q → ∃ C, w1.heap[q]? = some (.cells C 22 (0, 0)) := fun q hq => Ln.own_ty HS1.out hq
      have hP2 := HP1.out.keep kkS.out hPt (fun q hq => (World.ownsRow.lt HS1.out q hq).1)
      have hF2 : Fls Z2 W.heap.size gs es j := HF1.out.keep kkS.out (fun q hq C t hC => by obtain ⟨C', hC'⟩ := hPt q hq; rw [hC] at hC'; simp at hC'; rw [hC'.2]; decide)
      have og2 : OwI Z2 W.heap.size (.slice (some ⟨g, 0, none⟩) (m + 64) cc) (pcL (l.getD j em0).xs 64) := kkS.out.owns HOG.out (fun q hq hp => by obtain ⟨C', hC'⟩ := hPt q hp; exact absurd (ow_type HOG.out hq hC') (by decide))
      have hS2 : Z2.ownsRow W.heap.size 22 1 (.slice a7n (j + 1) c7n) (j + 1) (flv (fun i => if i = j then (g, cc) else gs i) es (j + 1)) := by
        rw [flv_succ, HEm.out.2.1]
        exact oS.out
      have hF2' : Fls Z2 W.heap.size (fun i => if i = j then (g, cc) else gs i) es (j + 1) := hF2.add (by rw [HEm.out.2.1, ← HEm.out.2.2.1]; exact og2)
      have ogc := og2.cut (show (l.getD j em0).xs.length = m by
        have := (hP2.s.sd _ (getD_mem (es := l) (i := j) (by omega))).len
        rw [this]; exact HEm.out.1)
      have t8 : Z2.cell? ⟨tb, 8, none⟩ = some (.slice (some ⟨eb, 0, none⟩) en ec1) := blk_cell hP2.t 8
      have b8 : Z2.cell? ⟨w.heap.size, 8, none⟩ = some (.slice ea en ec) := HCA.out 8 _ Z2 hP2.b HC8.out
      rcases HEv.out.r.row with h0 | ⟨ob, oo, rfl, hrow⟩
      · omega
      have hobW : ob < W.heap.size := World.block_lt_of_cell? W _ (hrow j hjn 0 _ rfl)
      have o12 : Z2.cell? ⟨ob, oo + j * 13 + 12, none⟩ = some (.slice (es.getD j em0).sa (es.getD j em0).sn (es.getD j em0).sc) := belowB_at hP2.b hobW (hrow j hjn 12 _ rfl)
      rw [HEm.out.2.1] at o12
      obtain ⟨osa, hosa⟩ : ∃ x, (es.getD j em0).sa = x := ⟨_, rfl⟩
      obtain ⟨osc, hosc⟩ : ∃ x, (es.getD j em0).sc = x := ⟨_, rfl⟩
      rw [hosa, hosc] at o12
      clear hosa hosc hrow
      obtain ⟨Ce, hCe⟩ := Ln.own_ty hP2.o (g := eb) rfl
      have hebl : W.heap.size ≤ eb := (World.ownsRow.lt hP2.o eb rfl).1
      have e12 : Z2.cell? ⟨eb, j * 13 + 12, none⟩ = some (.slice sa0 m sc0) := by
        have hblk := Mb.Kept.obj kkS.out (Ln.own_ty HP1.out.o (g := eb) rfl).choose_spec (fun hq => by
          obtain ⟨C', hC'⟩ := hPt eb hq
          exact absurd (ow_type HP1.out.o (g := eb) rfl hC') (by decide))
        have := blk_cell (Ln.own_ty HP1.out.o (g := eb) rfl).choose_spec (j * 13 + 12)
        rw [blk_cell hblk, ← this]
        exact e12a
      have hne1 : tb ≠ eb := fun e => by
        have := hP2.t
        rw [e, hCe] at this
        simp at this
      have hne2 : w.heap.size ≠ eb := by omega
      have hne3 : ob ≠ eb := by omega
      have efz : Z2.drew.frozen? ⟨eb, j * 13 + 12, none⟩ = false := frozen_of_row Z2.drew eb _ Ce 36 hCe
      have HP2 : Hid (PS W Z2 tb no wi ba st ca ro fl va1 vn vc1 vs (some ⟨eb, 0, none⟩) en ec1 es l) := hP2
      have HS2 : Hid (Z2.ownsRow W.heap.size 22 1 (.slice a7n (j + 1) c7n) (j + 1) (flv (fun i => if i = j then (g, cc) else gs i) es (j + 1))) := hS2
      have HF2 : Hid (Fls Z2 W.heap.size (fun i => if i = j then (g, cc) else gs i) es (j + 1)) := hF2'
      have HOC : Hid (OwI Z2 W.heap.size (.slice (some ⟨g, 0, none⟩) m cc) (l.getD j em0).xs) := ogc
      have HCe : Hid (Z2.heap[eb]? = some (.cells Ce 36 (0, 0))) := hCe
      have hmb : m * 8 ≤ 140737488351232 := HEm.out.2.2.2
      have hcap : m ≤ cc := (by have := ow_cap og2; omega)
      clear hP2 hF2 og2 hS2 hF2' ogc hPt oS kkS HP1 HS1 HF1 HOG e12a hCe
      go_wp2_with fail
      refine wp_region_held_drew (S := (fun w' => w'.cell? ⟨tb, 8, none⟩ = some (.slice (some ⟨eb, 0, none⟩) en ec1) ∧ w'.cell? ⟨w.heap.size, 8, none⟩ = some (.slice (some ⟨ob, oo, none⟩) en ec) ∧ w'.cell? ⟨ob, oo + j * 13 + 12, none⟩ = some (.slice osa m osc))) (by kernel_rfl) ⟨(below_at (drew_bel _) t8), (below_at (drew_bel _) b8), (below_at (drew_bel _) o12)⟩ (fun hHeld => ?_)
      simp only [Act.put, List.size_toArray, List.length_cons, List.length_nil, Nat.zero_add]
      refine takeD (i := 0) (d := 41) (v := .pointer (some ⟨tb, 8, none⟩)) rfl (by kernel_rfl) (by kernel_rfl) (by kernel_rfl) (by kernel_rfl) (fun _ _ _ h => h) (Or.inl ⟨by rfl, fun w' hS => by go_simp⟩) hHeld ?_
      simp only [Act.put, List.setIfInBounds_toArray, List.set_cons_zero, List.set_cons_succ]
      refine takeD (i := 1) (d := 42) (v := .slice (some ⟨eb, 0, none⟩) en ec1) rfl (by kernel_rfl) (by kernel_rfl) (by kernel_rfl) (by kernel_rfl) (fun _ _ _ h => h) (Or.inl ⟨by rfl, fun w' hS => by (obtain ⟨s0, s1, s2⟩ := hS; go_simp)⟩) hHeld ?_
      simp only [Act.put, List.setIfInBounds_toArray, List.set_cons_zero, List.set_cons_succ]
      refine takeD (i := 2) (d := 43) (v := .int .i64 (j : Int)) rfl (by kernel_rfl) (by kernel_rfl) (by kernel_rfl) (by kernel_rfl) (fun _ _ _ h => h) (Or.inl ⟨by rfl, fun w' hS => by go_simp⟩) hHeld ?_
      simp only [Act.put, List.setIfInBounds_toArray, List.set_cons_zero, List.set_cons_succ]
      refine takeD (i := 3) (d := 44) (v := .slice (some ⟨g, 0, none⟩) (m + 64) cc) rfl (by kernel_rfl) (by kernel_rfl) (by kernel_rfl) (by kernel_rfl) (fun _ _ _ h => h) (Or.inl ⟨by rfl, fun w' hS => by go_simp⟩) hHeld ?_
      simp only [Act.put, List.setIfInBounds_toArray, List.set_cons_zero, List.set_cons_succ]
      refine takeD (i := 4) (d := 45) (v := .pointer (some ⟨w.heap.size, 0, none⟩)) rfl (by kernel_rfl) (by kernel_rfl) (by kernel_rfl) (by kernel_rfl) (fun _ _ _ h => h) (Or.inl ⟨by rfl, fun w' hS => by go_simp⟩) hHeld ?_
      simp only [Act.put, List.setIfInBounds_toArray, List.set_cons_zero, List.set_cons_succ]
      refine takeD (i := 5) (d := 46) (v := .pointer (some ⟨w.heap.size, 8, none⟩)) rfl (by kernel_rfl) (by kernel_rfl) (by kernel_rfl) (by kernel_rfl) (fun _ _ _ h => h) (Or.inl ⟨by rfl, fun w' hS => by go_simp⟩) hHeld ?_
      simp only [Act.put, List.setIfInBounds_toArray, List.set_cons_zero, List.set_cons_succ]
      refine takeD (i := 6) (d := 47) (v := .slice (some ⟨ob, oo, none⟩) en ec) rfl (by kernel_rfl) (by kernel_rfl) (by kernel_rfl) (by kernel_rfl) (fun _ _ _ h => h) (Or.inl ⟨by rfl, fun w' hS => by (obtain ⟨s0, s1, s2⟩ := hS; go_simp)⟩) hHeld ?_
      simp only [Act.put, List.setIfInBounds_toArray, List.set_cons_zero, List.set_cons_succ]
      refine takeD (i := 7) (d := 48) (v := .int .i64 (j : Int)) rfl (by kernel_rfl) (by kernel_rfl) (by kernel_rfl) (by kernel_rfl) (fun _ _ _ h => h) (Or.inl ⟨by rfl, fun w' hS => by go_simp⟩) hHeld ?_
      simp only [Act.put, List.setIfInBounds_toArray, List.set_cons_zero, List.set_cons_succ]
      refine takeD (i := 8) (d := 49) (v := .pointer (some ⟨ob, oo + j * 13, none⟩)) rfl (by kernel_rfl) (by kernel_rfl) (by kernel_rfl) (by kernel_rfl) (fun _ _ _ h => h) (Or.inl ⟨by rfl, fun w' hS => by go_simp⟩) hHeld ?_
      simp only [Act.put, List.setIfInBounds_toArray, List.set_cons_zero, List.set_cons_succ]
      refine takeD (i := 9) (d := 50) (v := .pointer (some ⟨ob, oo + j * 13 + 12, none⟩)) rfl (by kernel_rfl) (by kernel_rfl) (by kernel_rfl) (by kernel_rfl) (fun _ _ _ h => h) (Or.inl ⟨by rfl, fun w' hS => by go_simp⟩) hHeld ?_
      simp only [Act.put, List.setIfInBounds_toArray, List.set_cons_zero, List.set_cons_succ]
      refine takeD (i := 10) (d := 51) (v := .slice osa m osc) rfl (by kernel_rfl) (by kernel_rfl) (by kernel_rfl) (by kernel_rfl) (fun _ _ _ h => h) (Or.inl ⟨by rfl, fun w' hS => by (obtain ⟨s0, s1, s2⟩ := hS; go_simp)⟩) hHeld ?_
      simp only [Act.put, List.setIfInBounds_toArray, List.set_cons_zero, List.set_cons_succ]
      refine takeD (i := 11) (d := 52) (v := .int .i64 (m : Int)) rfl (by kernel_rfl) (by kernel_rfl) (by kernel_rfl) (by kernel_rfl) (fun _ _ _ h => h) (Or.inl ⟨by rfl, fun w' hS => by go_simp⟩) hHeld ?_
      simp only [Act.put, List.setIfInBounds_toArray, List.set_cons_zero, List.set_cons_succ]
      refine takeD (i := 12) (d := 53) (v := .slice (some ⟨g, 0, none⟩) m cc) rfl (by kernel_rfl) (by kernel_rfl) (by kernel_rfl) (by kernel_rfl) (fun _ _ _ h => h) (Or.inl ⟨by rfl, fun w' hS => by (go_simp <;> omega)⟩) hHeld ?_
      simp only [Act.put, List.setIfInBounds_toArray, List.set_cons_zero, List.set_cons_succ]
      refine takeD (i := 13) (d := 54) (v := .pointer (some ⟨eb, j * 13, none⟩)) rfl (by kernel_rfl) (by kernel_rfl) (by kernel_rfl) (by kernel_rfl) (fun _ _ _ h => h) (Or.inl ⟨by rfl, fun w' hS => by go_simp⟩) hHeld ?_
      simp only [Act.put, List.setIfInBounds_toArray, List.set_cons_zero, List.set_cons_succ]
      refine takeD (i := 14) (d := 55) (v := .pointer (some ⟨eb, j * 13 + 12, none⟩)) rfl (by kernel_rfl) (by kernel_rfl) (by kernel_rfl) (by kernel_rfl) (fun _ _ _ h => h) (Or.inl ⟨by rfl, fun w' hS => by go_simp⟩) hHeld ?_
      simp only [Act.put, List.setIfInBounds_toArray, List.set_cons_zero, List.set_cons_succ]
      have hbD1 : Below Z2.heap.size Z2 Z2.drew := drew_bel _
      have q0 := below_at hbD1 t8
      have q1 := below_at hbD1 b8
      have q2 := below_at hbD1 o12
      generalize Z2.drew = D1 at *
      refine wpAnyH_ready (rs := [15]) (by kernel_rfl) (by simp) ?_
      refine AllReadyH.cons rfl (fun K hK => ?_) AllReadyH.nil
      have z1 := below_at hbD1 e12
      have z2 := efz
      go_simp
      refine hK.out _ _ ⟨(cell_ne hne1 q0), (cell_ne hne2 q1), (cell_ne hne3 q2)⟩ (fun hHeld => ?_)
      clear hK K
      refine wpAnyH_done (by kernel_rfl) ?_ _
      clear hHeld
      have hP3 := HP2.out.on hbD1
      have kk3 : Mb.Kept D1 (D1.setCell ⟨eb, j * 13 + 12, none⟩ (.slice (some ⟨g, 0, none⟩) m cc)) (fun q => q = eb) := Mb.kset D1 eb _ _ rfl
      have hCe1 := blk_on hbD1 HCe.out
      have hP4 := hP3.side (i := j) (g := g) (cc := cc) (Y := D1.setCell ⟨eb, j * 13 + 12, none⟩ (.slice (some ⟨g, 0, none⟩) m cc)) hjn (by rw [HEm.out.1]; exact Mb.own_still HOC.out hbD1) (by rw [HEm.out.1])
      obtain ⟨l4, hl4⟩ : ∃ l4, l.set j { l.getD j em0 with sa := some ⟨g, 0, none⟩, sc := cc } = l4 := ⟨_, rfl⟩
      rw [hl4] at hP4
      have HP4 : Hid (PS W (D1.setCell ⟨eb, j * 13 + 12, none⟩ (.slice (some ⟨g, 0, none⟩) m cc)) tb no wi ba st ca ro fl va1 vn vc1 vs (some ⟨eb, 0, none⟩) en ec1 es l4) := hP4
      have HS4 : Hid ((D1.setCell ⟨eb, j * 13 + 12, none⟩ (.slice (some ⟨g, 0, none⟩) m cc)).ownsRow W.heap.size 22 1 (.slice a7n (j + 1) c7n) (j + 1) (flv (fun i => if i = j then (g, cc) else gs i) es (j + 1))) := (show World.ownsRow _ _ _ _ _ _ _ from ow_ne (Mb.own_still HS2.out hbD1) hCe1 (by decide) kk3)
      have HF4 : Hid (Fls (D1.setCell ⟨eb, j * 13 + 12, none⟩ (.slice (some ⟨g, 0, none⟩) m cc)) W.heap.size (fun i => if i = j then (g, cc) else gs i) es (j + 1)) := (show Fls _ _ _ _ _ from (HF2.out.on hbD1).keep kk3 (fun q hq C t hC => by have e' : q = eb := hq; subst e'; rw [hCe1] at hC; simp at hC; rw [← hC.2]; decide))
      clear hP3 hP4 kk3 hCe1 hl4 hbD1 q0 q1 q2 t8 b8 o12 e12 efz HP2 HS2 HF2 HOC HCe HEm
      go_wp2_with fail
      go_roundw
      case rel => exact ⟨j + 1, a7n, c7n, l4, fun i => if i = j then (g, cc) else gs i, by omega, by go_num, rfl, HP4, HS4, HF4⟩
      case measure => simp [intOf]; omega
    · obtain rfl : en = j := by omega
      have hszr : W.heap.size ≤ wr.heap.size := hP.out.b.size
      have b7 : wr.cell? ⟨w.heap.size, 7, none⟩ = some (.slice va vn vc) := HCA.out 7 _ wr hP.out.b HC7.out
      have HPv : Hid (Calls Try.prog 35 #[.slice va vn vc] wr fun r w' => ∃ (g cc : Nat), r = .returned (.slice (some ⟨g, 0, none⟩) (vn + 64) cc) ∧ OwI w' wr.heap.size (.slice (some ⟨g, 0, none⟩) (vn + 64) cc) (pcL vs 64) ∧ Below wr.heap.size wr w') := piece_any va vn vc vs wr (HCf.out.rd.below hP.out.b) hvn
      go_wp2_with fail
      refine HPv.out.mono ?_
      rintro e w1 ⟨g1, cc1, rfl, og, hbg⟩
      have hP1 := hP.out.on hbg
      have og1 : OwI w1 W.heap.size (.slice (some ⟨g1, 0, none⟩) (vn + 64) cc1) (pcL vs 64) := Mb.own_lower og hszr
      have hvl : vs.length = vn := HCf.out.rd.1
      have kk1 : Mb.Kept w1 (w1.setCell ⟨tb, 7, none⟩ (.slice (some ⟨g1, 0, none⟩) vn cc1)) (fun q => q = tb) := Mb.kset w1 tb _ _ rfl
      have hP2 := hP1.vote (og1.cut hvl) (Y := w1.setCell ⟨tb, 7, none⟩ (.slice (some ⟨g1, 0, none⟩) vn cc1)) rfl
      have hS2 : (w1.setCell ⟨tb, 7, none⟩ (.slice (some ⟨g1, 0, none⟩) vn cc1)).ownsRow W.heap.size 22 1 (.slice a7 en c7) en (flv gs es en) := ow_ne (Mb.own_still hS.out hbg) hP1.t (by decide) kk1
      have hF2 : Fls (w1.setCell ⟨tb, 7, none⟩ (.slice (some ⟨g1, 0, none⟩) vn cc1)) W.heap.size gs es en := (hF.out.on hbg).keep kk1 (fun q hq C t hC => by have e' : q = tb := hq; subst e'; rw [hP1.t] at hC; simp at hC; rw [← hC.2]; decide)
      have og2 := ow_ne og1 hP1.t (by decide) kk1
      have b7a := below_at hbg b7
      have t7 : w1.cell? ⟨tb, 7, none⟩ = some (.slice va1 vn vc1) := blk_cell hP1.t 7
      have z7 : w1.frozen? ⟨tb, 7, none⟩ = false := frozen_of_row w1 tb 7 _ _ hP1.t
      have hcap1 : vn ≤ cc1 := (by have := ow_cap og1; omega)
      have hc1a : (vn : Int) ≤ (cc1 : Int) := by omega
      obtain ⟨X2, hX2⟩ : ∃ X2, w1.setCell ⟨tb, 7, none⟩ (.slice (some ⟨g1, 0, none⟩) vn cc1) = X2 := ⟨_, rfl⟩
      rw [hX2] at hP2 hS2 hF2 og2
      have HP2 : Hid (PS W X2 tb no wi ba st ca ro fl (some ⟨g1, 0, none⟩) vn cc1 vs ea1 en ec1 es l) := hP2
      have HS2 : Hid (X2.ownsRow W.heap.size 22 1 (.slice a7 en c7) en (flv gs es en)) := hS2
      have HF2 : Hid (Fls X2 W.heap.size gs es en) := hF2
      have HG1 : Hid (OwI X2 W.heap.size (.slice (some ⟨g1, 0, none⟩) (vn + 64) cc1) (pcL vs 64)) := og2
      have b9 : X2.cell? ⟨w.heap.size, 9, none⟩ = some (.slice so sn sc) := HCA.out 9 _ X2 hP2.b HC9.out
      have HPs : Hid (Calls Try.prog 35 #[.slice so sn sc] X2 fun r w' => ∃ (g cc : Nat), r = .returned (.slice (some ⟨g, 0, none⟩) (sn + 64) cc) ∧ OwI w' X2.heap.size (.slice (some ⟨g, 0, none⟩) (sn + 64) cc) (pcL ss 64) ∧ Below X2.heap.size X2 w') := piece_any so sn sc ss X2 (HSs.out.below hP2.b) hsn
      have hs2 : W.heap.size ≤ X2.heap.size := hP2.b.size
      clear hP1 og1 kk1 hP2 hS2 hF2 og2 og hbg HPv hP hS hF b7
      go_wp2_with fail
      refine HPs.out.mono ?_
      rintro e Z3 ⟨g2, cc2, rfl, og3, hbg3⟩
      clear b7a t7 z7 b9 hX2
      have hP3 := HP2.out.on hbg3
      have hsl : ss.length = sn := HSs.out.1
      have HP3 : Hid (PS W Z3 tb no wi ba st ca ro fl (some ⟨g1, 0, none⟩) vn cc1 vs ea1 en ec1 es l) := hP3
      have HS3 : Hid (Z3.ownsRow W.heap.size 22 1 (.slice a7 en c7) en (flv gs es en)) := (show World.ownsRow _ _ _ _ _ _ _  from Mb.own_still HS2.out hbg3)
      have HF3 : Hid (Fls Z3 W.heap.size gs es en) := (show Fls _ _ _ _ _  from HF2.out.on hbg3)
      have HG3 : Hid (OwI Z3 W.heap.size (.slice (some ⟨g1, 0, none⟩) (vn + 64) cc1) (pcL vs 64)) := (show OwI _ _ _ _ from Mb.own_still HG1.out hbg3)
      have HG4 : Hid (OwI Z3 W.heap.size (.slice (some ⟨g2, 0, none⟩) (sn + 64) cc2) (pcL ss 64)) := (show OwI _ _ _ _ from Mb.own_lower og3 hs2)
      have hcap2 : sn ≤ cc2 := (by have := ow_cap og3; omega)
      have hc2a : (sn : Int) ≤ (cc2 : Int) := by omega
      have HPr : Hid (∀ D, Below Z3.heap.size Z3 D → Calls Try.prog 9 #[.agg #[.int .i64 no, .int .i64 wi, .int .i64 ba, .int .i64 st, .int .i64 ca, .int .i64 ro, .int .i64 fl, .slice (some ⟨g1, 0, none⟩) vn cc1, .slice ea1 en ec1], .slice (some ⟨g2, 0, none⟩) sn cc2] D fun e w' => e = .returned (.tuple #[.int .i64 tq, .int .i64 dq, .int .i64 xq]) ∧ Below D.heap.size D w') := (show ∀ D, _ from fun D hb => by
        have h1 := premise_any no wi ba st ca ro fl (some ⟨g1, 0, none⟩) vn cc1 vs r E ea1 en ec1 l (some ⟨g2, 0, none⟩) sn cc2 ss D ⟨(hP3.on hb).v.ri, HCf.out.le, HCf.out.vt, HCf.out.er⟩ (hP3.on hb).evr ((OwI.cut HG4.out hsl).ri.below hb) (by omega)
        rw [pm_congr hP3.m, HQ.out] at h1
        exact h1)
      have t0 : Z3.cell? ⟨tb, 0, none⟩ = some (.int .i64 no) := blk_cell hP3.t 0
      have t1 : Z3.cell? ⟨tb, 1, none⟩ = some (.int .i64 wi) := blk_cell hP3.t 1
      have t2 : Z3.cell? ⟨tb, 2, none⟩ = some (.int .i64 ba) := blk_cell hP3.t 2
      have t3 : Z3.cell? ⟨tb, 3, none⟩ = some (.int .i64 st) := blk_cell hP3.t 3
      have t4 : Z3.cell? ⟨tb, 4, none⟩ = some (.int .i64 ca) := blk_cell hP3.t 4
      have t5 : Z3.cell? ⟨tb, 5, none⟩ = some (.int .i64 ro) := blk_cell hP3.t 5
      have t6 : Z3.cell? ⟨tb, 6, none⟩ = some (.int .i64 fl) := blk_cell hP3.t 6
      have t7 : Z3.cell? ⟨tb, 7, none⟩ = some (.slice (some ⟨g1, 0, none⟩) vn cc1) := blk_cell hP3.t 7
      have t8 : Z3.cell? ⟨tb, 8, none⟩ = some (.slice ea1 en ec1) := blk_cell hP3.t 8
      have b9 : Z3.cell? ⟨w.heap.size, 9, none⟩ = some (.slice so sn sc) := HCA.out 9 _ Z3 hP3.b HC9.out
      clear og3 hbg3 hP3 HP2 HS2 HF2 HG1 HPs
      go_wp2_with fail
      refine wp_region_held_drew (S := (fun w' => w'.cell? ⟨tb, 0, none⟩ = some (.int .i64 no) ∧ w'.cell? ⟨tb, 1, none⟩ = some (.int .i64 wi) ∧ w'.cell? ⟨tb, 2, none⟩ = some (.int .i64 ba) ∧ w'.cell? ⟨tb, 3, none⟩ = some (.int .i64 st) ∧ w'.cell? ⟨tb, 4, none⟩ = some (.int .i64 ca) ∧ w'.cell? ⟨tb, 5, none⟩ = some (.int .i64 ro) ∧ w'.cell? ⟨tb, 6, none⟩ = some (.int .i64 fl) ∧ w'.cell? ⟨tb, 7, none⟩ = some (.slice (some ⟨g1, 0, none⟩) vn cc1) ∧ w'.cell? ⟨tb, 8, none⟩ = some (.slice ea1 en ec1) ∧ w'.cell? ⟨w.heap.size, 9, none⟩ = some (.slice so sn sc))) (by kernel_rfl) ⟨(below_at (drew_bel _) t0), (below_at (drew_bel _) t1), (below_at (drew_bel _) t2), (below_at (drew_bel _) t3), (below_at (drew_bel _) t4), (below_at (drew_bel _) t5), (below_at (drew_bel _) t6), (below_at (drew_bel _) t7), (below_at (drew_bel _) t8), (below_at (drew_bel _) b9)⟩ (fun hHeld => ?_)
      simp only [Act.put, List.size_toArray, List.length_cons, List.length_nil, Nat.zero_add]
      refine takeD (i := 0) (d := 74) (v := .agg #[.int .i64 no, .int .i64 wi, .int .i64 ba, .int .i64 st, .int .i64 ca, .int .i64 ro, .int .i64 fl, .slice (some ⟨g1, 0, none⟩) vn cc1, .slice ea1 en ec1]) rfl (by kernel_rfl) (by kernel_rfl) (by kernel_rfl) (by kernel_rfl) (fun _ _ _ h => h) (Or.inl ⟨by rfl, fun w' hS => by (obtain ⟨s0, s1, s2, s3, s4, s5, s6, s7, s8, s9⟩ := hS; go_simp)⟩) hHeld ?_
      simp only [Act.put, List.setIfInBounds_toArray, List.set_cons_zero, List.set_cons_succ]
      refine takeD (i := 1) (d := 75) (v := .slice (some ⟨g2, 0, none⟩) (sn + 64) cc2) rfl (by kernel_rfl) (by kernel_rfl) (by kernel_rfl) (by kernel_rfl) (fun _ _ _ h => h) (Or.inl ⟨by rfl, fun w' hS => by go_simp⟩) hHeld ?_
      simp only [Act.put, List.setIfInBounds_toArray, List.set_cons_zero, List.set_cons_succ]
      refine takeD (i := 2) (d := 76) (v := .pointer (some ⟨w.heap.size, 9, none⟩)) rfl (by kernel_rfl) (by kernel_rfl) (by kernel_rfl) (by kernel_rfl) (fun _ _ _ h => h) (Or.inl ⟨by rfl, fun w' hS => by go_simp⟩) hHeld ?_
      simp only [Act.put, List.setIfInBounds_toArray, List.set_cons_zero, List.set_cons_succ]
      refine takeD (i := 3) (d := 77) (v := .slice so sn sc) rfl (by kernel_rfl) (by kernel_rfl) (by kernel_rfl) (by kernel_rfl) (fun _ _ _ h => h) (Or.inl ⟨by rfl, fun w' hS => by (obtain ⟨s0, s1, s2, s3, s4, s5, s6, s7, s8, s9⟩ := hS; go_simp)⟩) hHeld ?_
      simp only [Act.put, List.setIfInBounds_toArray, List.set_cons_zero, List.set_cons_succ]
      refine takeD (i := 4) (d := 78) (v := .int .i64 (sn : Int)) rfl (by kernel_rfl) (by kernel_rfl) (by kernel_rfl) (by kernel_rfl) (fun _ _ _ h => h) (Or.inl ⟨by rfl, fun w' hS => by go_simp⟩) hHeld ?_
      simp only [Act.put, List.setIfInBounds_toArray, List.set_cons_zero, List.set_cons_succ]
      refine takeD (i := 5) (d := 79) (v := .slice (some ⟨g2, 0, none⟩) sn cc2) rfl (by kernel_rfl) (by kernel_rfl) (by kernel_rfl) (by kernel_rfl) (fun _ _ _ h => h) (Or.inl ⟨by rfl, fun w' hS => by (go_simp <;> omega)⟩) hHeld ?_
      simp only [Act.put, List.setIfInBounds_toArray, List.set_cons_zero, List.set_cons_succ]
      have hbD1 : Below Z3.heap.size Z3 Z3.drew := drew_bel _
      have q0 := below_at hbD1 t0
      have q1 := below_at hbD1 t1
      have q2 := below_at hbD1 t2
      have q3 := below_at hbD1 t3
      have q4 := below_at hbD1 t4
      have q5 := below_at hbD1 t5
      have q6 := below_at hbD1 t6
      have q7 := below_at hbD1 t7
      have q8 := below_at hbD1 t8
      have q9 := below_at hbD1 b9
      generalize Z3.drew = D1 at *
      refine wpAnyH_ready (rs := [6]) (by kernel_rfl) (by simp) ?_
      refine AllReadyH.cons rfl (fun K hK => ?_) AllReadyH.nil
      go_simp
      refine (HPr.out D1 hbD1).mono ?_
      rintro r6 w6 ⟨rfl, hb6⟩
      refine hK.out _ _ ⟨(below_at hb6 q0), (below_at hb6 q1), (below_at hb6 q2), (below_at hb6 q3), (below_at hb6 q4), (below_at hb6 q5), (below_at hb6 q6), (below_at hb6 q7), (below_at hb6 q8), (below_at hb6 q9)⟩ (fun hHeld => ?_)
      clear hK K
      refine takeD (i := 7) (d := 73) (v := .tuple #[.int .i64 tq, .int .i64 dq, .int .i64 xq]) rfl (by kernel_rfl) (by kernel_rfl) (by kernel_rfl) (by kernel_rfl) (fun _ _ _ h => h) (Or.inl ⟨by rfl, fun w' hS => by go_simp⟩) hHeld ?_
      simp only [Act.put, List.setIfInBounds_toArray, List.set_cons_zero, List.set_cons_succ]
      refine takeD (i := 8) (d := 81) (v := .int .i64 tq) rfl (by kernel_rfl) (by kernel_rfl) (by kernel_rfl) (by kernel_rfl) (fun _ _ _ h => h) (Or.inl ⟨by rfl, fun w' hS => by go_simp⟩) hHeld ?_
      simp only [Act.put, List.setIfInBounds_toArray, List.set_cons_zero, List.set_cons_succ]
      refine takeD (i := 9) (d := 82) (v := .int .i64 dq) rfl (by kernel_rfl) (by kernel_rfl) (by kernel_rfl) (by kernel_rfl) (fun _ _ _ h => h) (Or.inl ⟨by rfl, fun w' hS => by go_simp⟩) hHeld ?_
      simp only [Act.put, List.setIfInBounds_toArray, List.set_cons_zero, List.set_cons_succ]
      refine takeD (i := 10) (d := 83) (v := .int .i64 xq) rfl (by kernel_rfl) (by kernel_rfl) (by kernel_rfl) (by kernel_rfl) (fun _ _ _ h => h) (Or.inl ⟨by rfl, fun w' hS => by go_simp⟩) hHeld ?_
      simp only [Act.put, List.setIfInBounds_toArray, List.set_cons_zero, List.set_cons_succ]
      refine takeD (i := 11) (d := 12) (v := .int .i64 tq) rfl (by kernel_rfl) (by kernel_rfl) (by kernel_rfl) (by kernel_rfl) (fun _ _ _ h => h) (Or.inl ⟨by rfl, fun w' hS => by go_simp⟩) hHeld ?_
      simp only [Act.put, List.setIfInBounds_toArray, List.set_cons_zero, List.set_cons_succ]
      refine takeD (i := 12) (d := 13) (v := .int .i64 dq) rfl (by kernel_rfl) (by kernel_rfl) (by kernel_rfl) (by kernel_rfl) (fun _ _ _ h => h) (Or.inl ⟨by rfl, fun w' hS => by go_simp⟩) hHeld ?_
      simp only [Act.put, List.setIfInBounds_toArray, List.set_cons_zero, List.set_cons_succ]
      refine takeD (i := 13) (d := 14) (v := .int .i64 xq) rfl (by kernel_rfl) (by kernel_rfl) (by kernel_rfl) (by kernel_rfl) (fun _ _ _ h => h) (Or.inl ⟨by rfl, fun w' hS => by go_simp⟩) hHeld ?_
      simp only [Act.put, List.setIfInBounds_toArray, List.set_cons_zero, List.set_cons_succ]
      refine wpAnyH_done (by kernel_rfl) ?_ _
      clear hHeld
      have HB6 : Hid (Below Z3.heap.size Z3 w6) := (show Below _ _ _ from bstep hbD1 hb6)
      clear hbD1 hb6 t0 t1 t2 t3 t4 t5 t6 t7 t8 b9
      try clear q0 q1 q2 q3 q4 q5 q6 q7 q8 q9
      have hP6 := HP3.out.on HB6.out
      have HP6 : Hid (PS W w6 tb no wi ba st ca ro fl (some ⟨g1, 0, none⟩) vn cc1 vs ea1 en ec1 es l) := hP6
      have HS6 : Hid (w6.ownsRow W.heap.size 22 1 (.slice a7 en c7) en (flv gs es en)) := (show World.ownsRow _ _ _ _ _ _ _  from Mb.own_still HS3.out HB6.out)
      have HF6 : Hid (Fls w6 W.heap.size gs es en) := (show Fls _ _ _ _ _  from HF3.out.on HB6.out)
      have HG6 : Hid (OwI w6 W.heap.size (.slice (some ⟨g1, 0, none⟩) (vn + 64) cc1) (pcL vs 64)) := (show OwI _ _ _ _ from Mb.own_still HG3.out HB6.out)
      have HG7 : Hid (OwI w6 W.heap.size (.slice (some ⟨g2, 0, none⟩) (sn + 64) cc2) (pcL ss 64)) := (show OwI _ _ _ _ from Mb.own_still HG4.out HB6.out)
      have t0 : w6.cell? ⟨tb, 0, none⟩ = some (.int .i64 no) := blk_cell hP6.t 0
      have t1 : w6.cell? ⟨tb, 1, none⟩ = some (.int .i64 wi) := blk_cell hP6.t 1
      have t2 : w6.cell? ⟨tb, 2, none⟩ = some (.int .i64 ba) := blk_cell hP6.t 2
      have t3 : w6.cell? ⟨tb, 3, none⟩ = some (.int .i64 st) := blk_cell hP6.t 3
      have t4 : w6.cell? ⟨tb, 4, none⟩ = some (.int .i64 ca) := blk_cell hP6.t 4
      have t5 : w6.cell? ⟨tb, 5, none⟩ = some (.int .i64 ro) := blk_cell hP6.t 5
      have t6 : w6.cell? ⟨tb, 6, none⟩ = some (.int .i64 fl) := blk_cell hP6.t 6
      have t7 : w6.cell? ⟨tb, 7, none⟩ = some (.slice (some ⟨g1, 0, none⟩) vn cc1) := blk_cell hP6.t 7
      have t8 : w6.cell? ⟨tb, 8, none⟩ = some (.slice ea1 en ec1) := blk_cell hP6.t 8
      have b0 : w6.cell? ⟨w.heap.size, 0, none⟩ = some (.int .i64 no) := HCA.out 0 _ w6 hP6.b HW0.out.1
      have b1 : w6.cell? ⟨w.heap.size, 1, none⟩ = some (.int .i64 wi) := HCA.out 1 _ w6 hP6.b HW0.out.2.1
      have b2 : w6.cell? ⟨w.heap.size, 2, none⟩ = some (.int .i64 ba) := HCA.out 2 _ w6 hP6.b HW0.out.2.2.1
      have b3 : w6.cell? ⟨w.heap.size, 3, none⟩ = some (.int .i64 st) := HCA.out 3 _ w6 hP6.b HW0.out.2.2.2.1
      have b4 : w6.cell? ⟨w.heap.size, 4, none⟩ = some (.int .i64 ca) := HCA.out 4 _ w6 hP6.b HW0.out.2.2.2.2.1
      have b5 : w6.cell? ⟨w.heap.size, 5, none⟩ = some (.int .i64 ro) := HCA.out 5 _ w6 hP6.b HW0.out.2.2.2.2.2.1
      have b6 : w6.cell? ⟨w.heap.size, 6, none⟩ = some (.int .i64 fl) := HCA.out 6 _ w6 hP6.b HW0.out.2.2.2.2.2.2
      have b7 : w6.cell? ⟨w.heap.size, 7, none⟩ = some (.slice va vn vc) := HCA.out 7 _ w6 hP6.b HC7.out
      have b8 : w6.cell? ⟨w.heap.size, 8, none⟩ = some (.slice ea en ec) := HCA.out 8 _ w6 hP6.b HC8.out
      have b9 : w6.cell? ⟨w.heap.size, 9, none⟩ = some (.slice so sn sc) := HCA.out 9 _ w6 hP6.b HC9.out
      have HSa : Hid (Calls Try.prog 36 #[.agg #[.int .i64 no, .int .i64 wi, .int .i64 ba, .int .i64 st, .int .i64 ca, .int .i64 ro, .int .i64 fl, .slice (some ⟨g1, 0, none⟩) vn cc1, .slice ea1 en ec1], .agg #[.int .i64 no, .int .i64 wi, .int .i64 ba, .int .i64 st, .int .i64 ca, .int .i64 ro, .int .i64 fl, .slice va vn vc, .slice ea en ec]] w6 fun r w' => r = .returned (.bool true) ∧ Below w6.heap.size w6 w') := sameScript_any no wi ba st ca ro fl (some ⟨g1, 0, none⟩) va vn cc1 vc vs ea1 ea en ec1 ec l es w6 hP6.v.ri (HCf.out.rd.below hP6.b) (by omega) (by omega) hP6.evb ⟨HEv.out.r.on hP6.b, fun i hi => (HEv.out.bd i hi).1.still hP6.b⟩ (hP6.m.symm HEv.out.r.len)
      have HK1 : Hid (∀ D, Below w6.heap.size w6 D → Calls Try.prog 37 #[.slice (some ⟨g2, 0, none⟩) (sn + 64) cc2, .slice so sn sc] D fun r w' => r = .returned (.bool true) ∧ Below D.heap.size D w') := (show ∀ D, _ from fun D hb => kept_any _ cc2 so sn sc ss D (HG7.out.ri.below hb) (HSs.out.below (HP6.out.b.trans (hb.mono HP6.out.b.size))) hsn)
      have HK2 : Hid (∀ D, Below w6.heap.size w6 D → Calls Try.prog 37 #[.slice (some ⟨g1, 0, none⟩) (vn + 64) cc1, .slice va vn vc] D fun r w' => r = .returned (.bool true) ∧ Below D.heap.size D w') := (show ∀ D, _ from fun D hb => kept_any _ cc1 va vn vc vs D (HG6.out.ri.below hb) (HCf.out.rd.below (HP6.out.b.trans (hb.mono HP6.out.b.size))) hvn)
      clear hP6 HP3 HS3 HF3 HG3 HG4 HPr HB6
      go_wp2_with fail
      refine HSa.out.mono ?_
      rintro e w7 ⟨rfl, hb7⟩
      have b9 := below_at hb7 b9
      have b7 := below_at hb7 b7
      have hk1 := HK1.out w7 hb7
      have HK1a : Hid (Calls Try.prog 37 #[.slice (some ⟨g2, 0, none⟩) (sn + 64) cc2, .slice so sn sc] w7 fun r w' => r = .returned (.bool true) ∧ Below w7.heap.size w7 w') := hk1
      have HB7 : Hid (Below w6.heap.size w6 w7) := hb7
      clear hb7 HSa hk1 HK1 t0 t1 t2 t3 t4 t5 t6 t7 t8 b0 b1 b2 b3 b4 b5 b6 b8
      go_wp2_with fail
      refine HK1a.out.mono ?_
      rintro e w8 ⟨rfl, hb8⟩
      have b7 := below_at hb8 b7
      have HB8 : Hid (Below w6.heap.size w6 w8) := bst HB7.out hb8
      have HK2a : Hid (Calls Try.prog 37 #[.slice (some ⟨g1, 0, none⟩) (vn + 64) cc1, .slice va vn vc] w8 fun r w' => r = .returned (.bool true) ∧ Below w8.heap.size w8 w') := HK2.out w8 HB8.out
      clear hb8 HK1a HK2 b9 HB7
      go_wp2_with fail
      refine HK2a.out.mono ?_
      rintro e w9 ⟨rfl, hb9⟩
      have HB9 : Hid (Below w6.heap.size w6 w9) := bst HB8.out hb9
      clear hb9 HK2a HB8 b7
      go_wp2_with fail
      go_loopw [15, 18] (fun y x wr => ∃ (j : Nat), j ≤ en ∧ x = .int .i64 j ∧ y = .bool true ∧ Hid (Below w6.heap.size w6 wr)) (fun _ x _ => en - (intOf x).toNat)
      case atStart => exact ⟨0, Nat.zero_le _, rfl, rfl, HB9⟩
      case round =>
        obtain ⟨j, hj, rfl, rfl, hb⟩ := hrel
        by_cases hjn : j < en
        · have j1 : (0 : Int) ≤ (j : Int) := Int.natCast_nonneg _
          have j3 : (j : Int) < (en : Int) := by omega
          obtain ⟨fb, rfl, hfc⟩ := rowS HS6.out (j := j) (v := .slice (some ⟨(gs j).1, 0, none⟩) ((es.getD j em0).sn + 64) (gs j).2) (by simp [flv, hjn])
          have hbW : Below W.heap.size W wr := HP6.out.b.trans (hb.out.mono HP6.out.b.size)
          rcases HEv.out.r.row with h0 | ⟨ob, oo, rfl, hrow⟩
          · omega
          have f1 := below_at hb.out hfc
          have b8 : wr.cell? ⟨w.heap.size, 8, none⟩ = some (.slice (some ⟨ob, oo, none⟩) en ec) := HCA.out 8 _ wr hbW HC8.out
          have hobW : ob < W.heap.size := World.block_lt_of_cell? W _ (hrow j hjn 0 _ rfl)
          have o12 : wr.cell? ⟨ob, oo + j * 13 + 12, none⟩ = some (.slice (es.getD j em0).sa (es.getD j em0).sn (es.getD j em0).sc) := belowB_at hbW hobW (hrow j hjn 12 _ rfl)
          have HKp : Hid (∀ D, Below wr.heap.size wr D → Calls Try.prog 37 #[.slice (some ⟨(gs j).1, 0, none⟩) ((es.getD j em0).sn + 64) (gs j).2, .slice (es.getD j em0).sa (es.getD j em0).sn (es.getD j em0).sc] D fun r w' => r = .returned (.bool true) ∧ Below D.heap.size D w') := (show ∀ D, _ from fun D hbd => kept_any _ (gs j).2 _ _ _ _ D ((HF6.out j hjn).ri.below (bst hb.out hbd)) (((HEv.out.r.sd j hjn).1.below hbW).below hbd) (HEv.out.sl j hjn))
          clear hrow hfc hbW
          generalize (es.getD j em0).sa = osa at *
          generalize (es.getD j em0).sn = m at *
          generalize (es.getD j em0).sc = osc at *
          go_wp2_with fail
          refine wp_region_held_drew (S := (fun w' => w'.cell? ⟨fb, j, none⟩ = some (.slice (some ⟨(gs j).1, 0, none⟩) (m + 64) (gs j).2) ∧ w'.cell? ⟨w.heap.size, 8, none⟩ = some (.slice (some ⟨ob, oo, none⟩) en ec) ∧ w'.cell? ⟨ob, oo + j * 13 + 12, none⟩ = some (.slice osa m osc))) (by kernel_rfl) ⟨(below_at (drew_bel _) f1), (below_at (drew_bel _) b8), (below_at (drew_bel _) o12)⟩ (fun hHeld => ?_)
          simp only [Act.put, List.size_toArray, List.length_cons, List.length_nil, Nat.zero_add]
          refine takeD (i := 0) (d := 111) (v := .slice (some ⟨fb, 0, none⟩) en c7) rfl (by kernel_rfl) (by kernel_rfl) (by kernel_rfl) (by kernel_rfl) (fun _ _ _ h => h) (Or.inl ⟨by rfl, fun w' hS => by go_simp⟩) hHeld ?_
          simp only [Act.put, List.setIfInBounds_toArray, List.set_cons_zero, List.set_cons_succ]
          refine takeD (i := 1) (d := 112) (v := .int .i64 (j : Int)) rfl (by kernel_rfl) (by kernel_rfl) (by kernel_rfl) (by kernel_rfl) (fun _ _ _ h => h) (Or.inl ⟨by rfl, fun w' hS => by go_simp⟩) hHeld ?_
          simp only [Act.put, List.setIfInBounds_toArray, List.set_cons_zero, List.set_cons_succ]
          refine takeD (i := 2) (d := 113) (v := .pointer (some ⟨fb, j, none⟩)) rfl (by kernel_rfl) (by kernel_rfl) (by kernel_rfl) (by kernel_rfl) (fun _ _ _ h => h) (Or.inl ⟨by rfl, fun w' hS => by go_simp⟩) hHeld ?_
          simp only [Act.put, List.setIfInBounds_toArray, List.set_cons_zero, List.set_cons_succ]
          refine takeD (i := 3) (d := 114) (v := .slice (some ⟨(gs j).1, 0, none⟩) (m + 64) (gs j).2) rfl (by kernel_rfl) (by kernel_rfl) (by kernel_rfl) (by kernel_rfl) (fun _ _ _ h => h) (Or.inl ⟨by rfl, fun w' hS => by (obtain ⟨s0, s1, s2⟩ := hS; go_simp)⟩) hHeld ?_
          simp only [Act.put, List.setIfInBounds_toArray, List.set_cons_zero, List.set_cons_succ]
          refine takeD (i := 4) (d := 115) (v := .pointer (some ⟨w.heap.size, 0, none⟩)) rfl (by kernel_rfl) (by kernel_rfl) (by kernel_rfl) (by kernel_rfl) (fun _ _ _ h => h) (Or.inl ⟨by rfl, fun w' hS => by go_simp⟩) hHeld ?_
          simp only [Act.put, List.setIfInBounds_toArray, List.set_cons_zero, List.set_cons_succ]
          refine takeD (i := 5) (d := 116) (v := .pointer (some ⟨w.heap.size, 8, none⟩)) rfl (by kernel_rfl) (by kernel_rfl) (by kernel_rfl) (by kernel_rfl) (fun _ _ _ h => h) (Or.inl ⟨by rfl, fun w' hS => by go_simp⟩) hHeld ?_
          simp only [Act.put, List.setIfInBounds_toArray, List.set_cons_zero, List.set_cons_succ]
          refine takeD (i := 6) (d := 117) (v := .slice (some ⟨ob, oo, none⟩) en ec) rfl (by kernel_rfl) (by kernel_rfl) (by kernel_rfl) (by kernel_rfl) (fun _ _ _ h => h) (Or.inl ⟨by rfl, fun w' hS => by (obtain ⟨s0, s1, s2⟩ := hS; go_simp)⟩) hHeld ?_
          simp only [Act.put, List.setIfInBounds_toArray, List.set_cons_zero, List.set_cons_succ]
          refine takeD (i := 7) (d := 118) (v := .int .i64 (j : Int)) rfl (by kernel_rfl) (by kernel_rfl) (by kernel_rfl) (by kernel_rfl) (fun _ _ _ h => h) (Or.inl ⟨by rfl, fun w' hS => by go_simp⟩) hHeld ?_
          simp only [Act.put, List.setIfInBounds_toArray, List.set_cons_zero, List.set_cons_succ]
          refine takeD (i := 8) (d := 119) (v := .pointer (some ⟨ob, oo + j * 13, none⟩)) rfl (by kernel_rfl) (by kernel_rfl) (by kernel_rfl) (by kernel_rfl) (fun _ _ _ h => h) (Or.inl ⟨by rfl, fun w' hS => by go_simp⟩) hHeld ?_
          simp only [Act.put, List.setIfInBounds_toArray, List.set_cons_zero, List.set_cons_succ]
          refine takeD (i := 9) (d := 120) (v := .pointer (some ⟨ob, oo + j * 13 + 12, none⟩)) rfl (by kernel_rfl) (by kernel_rfl) (by kernel_rfl) (by kernel_rfl) (fun _ _ _ h => h) (Or.inl ⟨by rfl, fun w' hS => by go_simp⟩) hHeld ?_
          simp only [Act.put, List.setIfInBounds_toArray, List.set_cons_zero, List.set_cons_succ]
          refine takeD (i := 10) (d := 121) (v := .slice osa m osc) rfl (by kernel_rfl) (by kernel_rfl) (by kernel_rfl) (by kernel_rfl) (fun _ _ _ h => h) (Or.inl ⟨by rfl, fun w' hS => by (obtain ⟨s0, s1, s2⟩ := hS; go_simp)⟩) hHeld ?_
          simp only [Act.put, List.setIfInBounds_toArray, List.set_cons_zero, List.set_cons_succ]
          have hbD1 : Below wr.heap.size wr wr.drew := drew_bel _
          have q0 := below_at hbD1 f1
          have q1 := below_at hbD1 b8
          have q2 := below_at hbD1 o12
          generalize wr.drew = D1 at *
          refine wpAnyH_ready (rs := [11]) (by kernel_rfl) (by simp) ?_
          refine AllReadyH.cons rfl (fun K hK => ?_) AllReadyH.nil
          go_simp
          refine (HKp.out D1 hbD1).mono ?_
          rintro r6 w7 ⟨rfl, hb7⟩
          refine hK.out _ _ ⟨(below_at hb7 q0), (below_at hb7 q1), (below_at hb7 q2)⟩ (fun hHeld => ?_)
          clear hK K
          refine takeD (i := 12) (d := 19) (v := .bool true) rfl (by kernel_rfl) (by kernel_rfl) (by kernel_rfl) (by kernel_rfl) (fun _ _ _ h => h) (Or.inl ⟨by rfl, fun w' hS => by go_simp⟩) hHeld ?_
          simp only [Act.put, List.setIfInBounds_toArray, List.set_cons_zero, List.set_cons_succ]
          refine wpAnyH_done (by kernel_rfl) ?_ _
          clear hHeld
          have HB7 : Hid (Below w6.heap.size w6 w7) := (show Below _ _ _ from bst hb.out (bstep hbD1 hb7))
          clear hbD1 hb7 f1 b8 o12 HKp
          try clear q0 q1 q2
          go_wp2_with fail
          go_roundw
          case rel => exact ⟨j + 1, by omega, by go_num, rfl, HB7⟩
          case measure => simp [intOf]; omega
        · obtain rfl : en = j := by omega
          have HBX : Hid (Below w.heap.size w wr) := bst HB.out (HP6.out.b.trans (hb.out.mono HP6.out.b.size))
          go_wp2_with fail
          (try simp only [Exit.inBlock, Exit.then])
          refine bodyPost_ret (results_tmp4 rfl _ _ _) rfl ?_
          exact ⟨rfl, HBX.out⟩
end Go.Proofs.Ytfodkackfahldaa.Lo
