import Derived.Test.YtpkcgjnaegaecaaYj
namespace Go.Proofs.Ytpkcgjnaegaecaa.Fm
open Go.RowKit Go.Maps Mb
set_option linter.unusedVariables false
set_option maxRecDepth 100000
set_option linter.unusedSimpArgs false
section
variable {w w' W : World} {B : Nat}
theorem copy_app {ops : Array Oper} {rest : List Oper} {o : Oper} {a : Act} {Qp : Exit → Act → World → Prop} (hgd : o.guard = none) (s x : Operand) (t e : TypeId)
    (ho : o.op = .call { callee := .builtin .append, args := #[s, x], argTypes := #[t, t] })
    (i : TypeInfo) (z : Value) (size bytes : Nat) (ht : Try.prog.underlying t = some (.slice e)) (hi : Try.prog.info? e = some i) (hz : i.zero = some z)
    (hsize : i.size = size) (hby : i.bytes = bytes) (hzs : z.cells.size = size) (hsz : 0 < size)
    (hs : a.eval s = .slice (some ⟨W.heap.size, 0, none⟩) 0 0)
    (ao : Option Addr) (m c : Nat) (news : List Value) (hx : a.eval x = .slice ao m c) (hnone : ao = none → m = 0 ∧ c = 0) (hl : news.length = m * size) (hnews : ∀ ad, ao = some ad → ∀ j u, news[j]? = some u → W.cell? (ad.add j) = some u) (h1 : ∀ u ∈ news, u.oneCell' = true)
    (h63 : m ≤ maxLen) (hbytes : m * bytes ≤ 140737488355328)
    (h : ∀ (a1 : Option Addr) (c1 : Nat) (w2 : World), Below W.heap.size W w2 → w2.ownsRow W.heap.size e size (.slice a1 m c1) m news → wpList Try.prog ops Qp rest (a.put o.dst (.slice a1 m c1)) w2) :
    wpList Try.prog ops Qp (o :: rest) a (W.alloc (.cells #[] e)) := by
  have hown : (W.alloc (.cells #[] e)).ownsRow W.heap.size e size (.slice (some ⟨W.heap.size, 0, none⟩) 0 0) 0 [] := World.ownsRow_made W #[] 0 (by omega) (Nat.zero_le _) (by simp)
  have hbW : Below W.heap.size W (W.alloc (.cells #[] e)) := (Below.refl _ _).alloc (Nat.le_refl _) _
  cases ao with
  | some ad =>
    refine wpList_append_own _ hgd s x t ho W.heap.size e i z size bytes ht hi hz hsize hby hzs hsz _ 0 [] hs hown ad m c news hx hl (fun j u hu => ?_) h1 (by omega) (by simpa using hbytes) (by simp) fun v' w' h2 h3 _ => ?_
    · have hc := hnews ad rfl j u hu
      exact (hbW.cell (World.block_lt_of_cell? W _ hc)).trans hc
    · simp only [Nat.zero_add, List.nil_append] at h2
      have hb2 : Below W.heap.size W w' := hbW.grown h3 (by simp) (fun k hk => by simp [Value.ownBlock] at hk; omega)
      obtain ⟨a1, c1, rfl⟩ : ∃ a1 c1, v' = Value.slice a1 m c1 := by
        rcases h2.2 with ⟨h3, h4⟩ | ⟨g, cap, cur, hv, _⟩
        · exact ⟨none, 0, by rw [h4]; exact h3⟩
        · exact ⟨_, _, hv⟩
      exact h a1 c1 w' hb2 h2
  | none =>
    obtain ⟨rfl, rfl⟩ := hnone rfl
    obtain rfl : news = [] := List.eq_nil_of_length_eq_zero (by omega)
    exact wpList_append_own_none hgd s x t ho _ e i size ht hi _ 0 [] hs hown hx (h _ _ _ hbW hown)
theorem own_rdI {B : Nat} {a : Option Addr} {n c : Nat} {xs : List Int} (h : w.ownsRow B 3 1 (.slice a n c) n (ints xs)) (hn : xs.length = n) : RdI w a xs := by
  unfold RdI Row
  by_cases h0 : n = 0
  · exact .inl (by omega)
  · rcases h.2 with ⟨h1, h2⟩ | ⟨g, cap, cur, hv, hB, hg, hnc, hcm, hcs, htk⟩
    · omega
    · simp at hv
      refine .inr ⟨g, 0, hv.1, fun i hi => ?_⟩
      rw [Nat.zero_add, blk_cell hg i]
      have e1 : (cur.toList.take (n * 1))[i]? = (ints xs)[i]? := by rw [htk]
      rw [List.getElem?_take_of_lt (by omega)] at e1
      rw [← Array.getElem?_toList, e1]
      exact ints_at xs i (by omega)
theorem slCells_one (ss : List (Int × Int)) : ∀ u ∈ slCells ss, u.oneCell' = true := by
  intro u hu
  simp only [slCells, List.mem_flatMap] at hu
  obtain ⟨s, _, hs⟩ := hu
  exact slotV_one s u hs
theorem rdS_news {ao : Option Addr} {ss : List (Int × Int)} (h : RdS w ao ss) : ∀ ad, ao = some ad → ∀ j u, (slCells ss)[j]? = some u → w.cell? (ad.add j) = some u := fun ad he j u hu => by
  have hj : j < ss.length * 2 := by have := (List.getElem?_eq_some_iff.1 hu).1; rwa [slCells_len] at this
  rcases h with h | ⟨b, off, h1, h2⟩
  · omega
  · rw [h1] at he
    cases he
    rw [Addr.add_mid, h2 j hj]
    rw [slCells_at ss j hj] at hu
    exact hu
theorem rdI_news {ao : Option Addr} {xs : List Int} (h : RdI w ao xs) : ∀ ad, ao = some ad → ∀ j u, (ints xs)[j]? = some u → w.cell? (ad.add j) = some u := fun ad he j u hu => by
  have hj : j < xs.length := by have := (List.getElem?_eq_some_iff.1 hu).1; rwa [ints_len] at this
  rcases h with h | ⟨b, off, h1, h2⟩
  · omega
  · rw [h1] at he
    cases he
    rw [Addr.add_mid, h2 j (by omega)]
    rw [ints_at xs j hj] at hu
    exact hu
theorem rdS_pre {ao : Option Addr} {ss : List (Int × Int)} {s : Int × Int} (h : RdS w ao (ss ++ [s])) : RdS w ao ss := by
  rcases h with h | ⟨b, off, h1, h2⟩
  · simp at h
  · refine .inr ⟨b, off, h1, fun i hi => ?_⟩
    rw [h2 i (by simp; omega)]
    unfold slotC
    have : (ss ++ [s]).getD (i / 2) z2 = ss.getD (i / 2) z2 := by simp [List.getD, List.getElem?_append, show i / 2 < ss.length by omega]
    rw [this]
theorem rdI_pre {ao : Option Addr} {xs : List Int} {x : Int} (h : RdI w ao (xs ++ [x])) : RdI w ao xs := by
  rcases h with h | ⟨b, off, h1, h2⟩
  · simp at h
  · refine .inr ⟨b, off, h1, fun i hi => ?_⟩
    rw [h2 i (by simp; omega)]
    show some (Value.int .i64 ((xs ++ [x]).getD i 0)) = some (Value.int .i64 (xs.getD i 0))
    have : (xs ++ [x]).getD i 0 = xs.getD i 0 := by simp [List.getD, List.getElem?_append, show i < xs.length by omega]
    rw [this]
structure Fl.In (f : Fl) (w : World) : Prop where
  rd : f.Rd w
  sz : f.sa = none → f.c.sl.length = 0 ∧ f.sc = 0
  hz : f.ha = none → f.c.hv.length = 0 ∧ f.hc = 0
  sn : f.c.sl.length ≤ 1048576
  hn : f.c.hv.length ≤ 1048576
theorem Fl.In.still {f : Fl} (h : f.In w) (hb : Below w.heap.size w w') : f.In w' := ⟨h.rd.still hb, h.sz, h.hz, h.sn, h.hn⟩
structure TwOk (w : World) (B : Nat) (x : Fl) (c : Co) : Prop where
  ce : x.c = c
  s : w.ownsRow B 40 2 (.slice x.sa (c.sl.length + 1) x.sc) (c.sl.length + 1) (slCells (c.sl ++ [(71, 71)]))
  h : w.ownsRow B 3 1 (.slice x.ha (c.hv.length + 1) x.hc) (c.hv.length + 1) (ints (c.hv ++ [72]))
theorem TwOk.rdS {x : Fl} {c : Co} (h : TwOk w B x c) : RdS w x.sa (c.sl ++ [(71, 71)]) := own_rdS h.s (by simp)
theorem TwOk.rdI {x : Fl} {c : Co} (h : TwOk w B x c) : RdI w x.ha (c.hv ++ [72]) := own_rdI h.h (by simp)
theorem TwOk.rd {x f : Fl} (h : TwOk w B x f.c) (hf : f.Rd w') : x.Rd w := by
  have hc := h.ce
  refine ⟨?_, ?_, ?_, ?_, ?_, ?_⟩
  · rw [hc]; exact rdS_pre h.rdS
  · rw [hc]; exact rdI_pre h.rdI
  · rw [hc]; exact hf.r
  · rw [hc]; exact hf.b
  · rw [hc]; exact hf.sn
  · rw [hc]; exact hf.hn
theorem TwOk.keep {x : Fl} {c : Co} {P : Nat → Prop} (h : TwOk w B x c) (k : Kept w w' P) (h1 : ∀ g C, w.heap[g]? = some (.cells C 40 (0, 0)) → ¬ P g) (h2 : ∀ g C, w.heap[g]? = some (.cells C 3 (0, 0)) → ¬ P g) : TwOk w' B x c :=
  ⟨h.ce, k.owns h.s (fun g hg => by obtain ⟨_, C, hC⟩ := row_cells h.s hg; exact h1 g C hC), k.owns h.h (fun g hg => by obtain ⟨_, C, hC⟩ := row_cells h.h hg; exact h2 g C hC)⟩
theorem TwOk.still {x : Fl} {c : Co} (h : TwOk w B x c) (hb : Below w.heap.size w w') : TwOk w' B x c := ⟨h.ce, own_still h.s hb, own_still h.h hb⟩
def Fl.tw (x : Fl) : List Value := x.cs ++ [.slice x.sa (x.c.sl.length + 1) x.sc, .slice x.ha (x.c.hv.length + 1) x.hc]
theorem tw_len (x : Fl) : x.tw.length = 9 := rfl
theorem tw_one (x : Fl) : ∀ u ∈ x.tw, u.oneCell' = true := by
  intro u hu
  unfold Fl.tw at hu
  rcases List.mem_append.1 hu with hu | hu
  · exact flcs_one x u hu
  · simp at hu
    rcases hu with rfl | rfl <;> rfl
theorem info_twin : (Try.prog.info? 94).map (·.size) = some 9 := by kernel_rfl
theorem int_info : ∃ i : TypeInfo, Try.prog.info? 3 = some i ∧ i.zero = some (.int .i64 0) ∧ i.size = 1 ∧ i.bytes = 8 := by
  have h : (Try.prog.info? 3).map (fun i => (i.zero, i.size, i.bytes)) = some (some (.int .i64 0), 1, 8) := by kernel_rfl
  cases hq : Try.prog.info? 3 with
  | none => rw [hq] at h; cases h
  | some i => rw [hq] at h; simp at h; exact ⟨i, rfl, h.1, h.2.1, h.2.2⟩
theorem res_twin {fn : Func} {p : Tmp} (h : fn.results = #[.cell p 94]) (tmps : Array Value) (w : World) (g : Nat) (L : List Value) (hL : L.length = 9)
    (hp : tmps.getD p undef = .pointer (some ⟨g, 0, none⟩)) (hg : w.rangeAt g 0 L) :
    (results fn tmps).run Try.prog w = .ok (.agg L.toArray) w := by
  have e : (results fn tmps).run Try.prog w = ((asAddr (tmps.getD p undef)).run Try.prog w).andThen fun a w₁ => (loadVar 94 a).run Try.prog w₁ := by
    simp only [results, h]
    simp [Sem.run_bind, Result.andThen]
  rw [e, hp]
  simp [asAddr, run_loadVar_mid w g 0 94 L _ hg Try.underlying94 rfl (by rw [hL]; exact info_twin)]
theorem op_store {o : Oper} {a : Act} {K : Act → World → Prop} {Q : Exit → Act → World → Prop} (ty : TypeId) (x y : Operand) {b : Nat} {L : List Value} (ht : w.there b 0 L.length) (hi : (Try.prog.info? ty).map (·.size) = some L.length) (h1 : ∀ u ∈ L, u.oneCell' = true) (ho : o.op = .store ty x y) (hx : a.eval x = .pointer (some ⟨b, 0, none⟩)) (hy : a.eval y = .agg L.toArray) (h : K (a.put o.dst undef) (w.setCells b 0 L)) : Oper.wp Try.prog o a w K Q :=
  wp_store_mid ty x y ho b 0 _ hx hy (by simpa using ht) (by simpa using hi) (all_oneCell_toArray h1) (by simpa using h)
set_option maxHeartbeats 8000000 in
theorem twin_any {f : Fl} (hf : f.In w) : Calls Try.prog 45 #[.agg f.cs.toArray] w fun e w' => ∃ x : Fl, e = .returned (.agg x.tw.toArray) ∧ TwOk w' w.heap.size x f.c ∧ Below w.heap.size w w' := by
  generalize hW1 : w.alloc (.cells f.cs.toArray 35) = W1
  generalize hW2 : W1.alloc (.cells #[.int .i64 0, .int .i64 0, .int .i64 0, .int .i64 0, .int .i64 0, .slice none 0 0, .slice none 0 0, .slice none 0 0, .slice none 0 0] 94) = W2
  have b1 : Below w.heap.size w W1 := hW1 ▸ balloc (Below.refl _ _)
  have b2 : Below W1.heap.size W1 W2 := hW2 ▸ balloc (Below.refl _ _)
  have k1 : W1.heap[w.heap.size]? = some (.cells f.cs.toArray 35 (0, 0)) := by rw [← hW1]; exact heap_alloc_new w _
  have k2 : W2.heap[W1.heap.size]? = some (.cells #[.int .i64 0, .int .i64 0, .int .i64 0, .int .i64 0, .int .i64 0, .slice none 0 0, .slice none 0 0, .slice none 0 0, .slice none 0 0] 94 (0, 0)) := by rw [← hW2]; exact heap_alloc_new W1 _
  have HF : Hid (f.In W2) := (hf.still b1).still b2
  have HB : Hid (Below w.heap.size w W2) := bstep b1 b2
  have HK1 : Hid (W2.heap[w.heap.size]? = some (.cells f.cs.toArray 35 (0, 0))) := (b2.block _ (lt_heap k1)).trans k1
  have HK2 : Hid (W2.heap[W1.heap.size]? = some (.cells #[.int .i64 0, .int .i64 0, .int .i64 0, .int .i64 0, .int .i64 0, .slice none 0 0, .slice none 0 0, .slice none 0 0, .slice none 0 0] 94 (0, 0))) := k2
  have Hge : Hid (w.heap.size ≤ W1.heap.size) := b1.size
  have HBz : Hid (w.heap.size ≤ W2.heap.size) := Nat.le_trans b1.size b2.size
  obtain ⟨si, shi, shz0, shz1, shz2⟩ := slot_info
  obtain ⟨ii, ihi, ihz0, ihz1, ihz2⟩ := int_info
  have hsn := hf.sn
  have hhn := hf.hn
  clear hf b1 b2 k1 k2
  have q5 : (W2.alloc (.cells #[] 40)).cell? ⟨w.heap.size, 5, none⟩ = some (.slice f.sa f.c.sl.length f.sc) := below_at (balloc (Below.refl _ _)) (blk_cell HK1.out 5)
  have Hq6 : Hid (∀ V : World, Below W2.heap.size W2 V → V.cell? ⟨w.heap.size, 6, none⟩ = some (.slice f.ha f.c.hv.length f.hc) ∧ V.cell? ⟨w.heap.size, 5, none⟩ = some (.slice f.sa f.c.sl.length f.sc) ∧ V.cell? ⟨w.heap.size, 4, none⟩ = some (.int .i64 f.c.base) ∧ V.rangeAt w.heap.size 0 f.c.id.cs) := fun V hV => ⟨below_at hV (blk_cell HK1.out 6), below_at hV (blk_cell HK1.out 5), below_at hV (blk_cell HK1.out 4), fun j v hv => below_at hV (id_range HK1.out j v hv)⟩
  generalize hpc : f.cs.toArray = pc at hW1 HK1
  generalize hsl : f.c.sl.length = sn at *
  generalize hhl : f.c.hv.length = hn at *
  have Hsn : Hid (f.c.sl.length = sn) := hsl
  have Hhn : Hid (f.c.hv.length = hn) := hhl
  have HFs : Hid ((f.sa = none → sn = 0 ∧ f.sc = 0) ∧ (f.ha = none → hn = 0 ∧ f.hc = 0)) := ⟨hsl ▸ HF.out.sz, hhl ▸ HF.out.hz⟩
  clear hsl hhl
  go_enter Try.func45, Try.ntmps45

  go_wp2_with (first
    | (at_builtin; refine copy_app rfl _ _ 29 40 rfl si (.agg #[.int .i64 0, .int .i64 0]) 2 16 Try.underlying29 shi shz0 shz1 shz2 rfl (by omega) rfl f.sa sn f.sc (slCells f.c.sl) rfl HFs.out.1 (by rw [slCells_len, Hsn.out]) (rdS_news HF.out.rd.s) (slCells_one _) (by unfold maxLen; omega) (by omega) ?_; intro a1 c1 V1 hbv hov)
    | (at_builtin; refine wpList_append_lies _ rfl _ _ 29 rfl W2.heap.size 40 si (.agg #[.int .i64 0, .int .i64 0]) 2 16 Try.underlying29 shi shz0 shz1 shz2 rfl (by omega) (.slice a1 sn c1) sn (slCells f.c.sl) rfl (World.ownsRow.alloc hov _) _ 1 1 _ rfl rfl (World.news_of_block (heap_alloc_new _ _)) (by simp [Value.oneCell']) (by omega) (by unfold maxLen; omega) (by omega) (by have := hbv.size; simp; omega) _ rfl ?_; intro g3 cap3 w3 hown3 hgrow3 hat3 hlt3; have hb3 : Below W2.heap.size W2 w3 := (balloc hbv).grown hgrow3 (by have := hbv.size; simp; omega) (fun k hk => (row_cells hov hk).1); have q6a := (Hq6.out _ (balloc (o := .cells #[] 3) hb3)).1; have Ho3 : Hid (w3.ownsRow W2.heap.size 40 2 (.slice (some ⟨g3, 0, none⟩) (sn + 1) cap3) (sn + 1) (slCells f.c.sl ++ [.int .i64 71, .int .i64 71])) := hown3; have Hb3 : Hid (Below W2.heap.size W2 w3) := hb3; have Hi3 : Hid (RdI w3 f.ha f.c.hv) := HF.out.rd.h.still hb3; clear hown3 hgrow3 hat3 hlt3 hb3 hbv hov)
    | (at_builtin; refine copy_app rfl _ _ 28 3 rfl ii (.int .i64 0) 1 8 Try.underlying28 ihi ihz0 ihz1 ihz2 rfl (by omega) rfl f.ha hn f.hc (ints f.c.hv) rfl HFs.out.2 (by rw [ints_len, Hhn.out, Nat.mul_one]) (rdI_news Hi3.out) (ints_one _) (by unfold maxLen; omega) (by omega) ?_; intro a2 c2 V2 hbv2 hov2)
    | (at_builtin; refine wpList_append_lies _ rfl _ _ 28 rfl w3.heap.size 3 ii (.int .i64 0) 1 8 Try.underlying28 ihi ihz0 ihz1 ihz2 rfl (by omega) (.slice a2 hn c2) hn (ints f.c.hv) rfl (World.ownsRow.alloc hov2 _) _ 1 1 _ rfl rfl (World.news_of_block (heap_alloc_new _ _)) (by simp [Value.oneCell']) (by omega) (by unfold maxLen; omega) (by omega) (by have := hbv2.size; simp; omega) _ rfl ?_; intro g4 cap4 w4 hown4 hgrow4 hat4 hlt4)
    | fail)
  have hb4 : Below w3.heap.size w3 w4 := (balloc hbv2).grown hgrow4 (by have := hbv2.size; simp; omega) (fun k hk => (row_cells hov2 hk).1)
  have HO4 : Hid (w4.ownsRow w.heap.size 3 1 (.slice (some ⟨g4, 0, none⟩) (hn + 1) cap4) (hn + 1) (ints (f.c.hv ++ [72]))) := own_lower (by simpa [ints] using hown4) (Nat.le_trans HB.out.size Hb3.out.size)
  have HO3 : Hid (w4.ownsRow w.heap.size 40 2 (.slice (some ⟨g3, 0, none⟩) (sn + 1) cap3) (sn + 1) (slCells (f.c.sl ++ [(71, 71)]))) := own_still (own_lower (by rw [slCells_app]; exact Ho3.out) HB.out.size) hb4
  have Hb4 : Hid (Below W2.heap.size W2 w4) := bstep Hb3.out hb4
  clear hb4 hown4 hgrow4 hat4 hlt4 hbv2 hov2 Ho3 Hb3 Hi3 q5 q6a
  have hk2 : w4.drew.heap[W1.heap.size]? = some (.cells #[.int .i64 0, .int .i64 0, .int .i64 0, .int .i64 0, .int .i64 0, .slice none 0 0, .slice none 0 0, .slice none 0 0, .slice none 0 0] 94 (0, 0)) := (Hb4.out.block _ (lt_heap HK2.out)).trans HK2.out
  have hk1 : w4.drew.heap[w.heap.size]? = some (.cells f.cs.toArray 35 (0, 0)) := by rw [hpc]; exact (Hb4.out.block _ (lt_heap HK1.out)).trans HK1.out
  have hcap3 : sn + 1 ≤ cap3 := by
    rcases HO3.out.2 with ⟨h1, _⟩ | ⟨g, cap, cur, hv, hB, hg, hnc, _⟩
    · cases h1
    · simp at hv; omega
  have hcap4 : hn + 1 ≤ cap4 := by
    rcases HO4.out.2 with ⟨h1, _⟩ | ⟨g, cap, cur, hv, hB, hg, hnc, _⟩
    · cases h1
    · simp at hv; omega
  have Hck : Hid (∀ V : World, V.heap[w.heap.size]? = some (.cells f.cs.toArray 35 (0, 0)) → V.cell? ⟨w.heap.size, 4, none⟩ = some (.int .i64 f.c.base) ∧ V.cell? ⟨w.heap.size, 5, none⟩ = some (.slice f.sa sn f.sc) ∧ V.cell? ⟨w.heap.size, 6, none⟩ = some (.slice f.ha hn f.hc) ∧ V.rangeAt w.heap.size 0 [.int .i64 f.c.id.e, .int .i64 f.c.id.l, .int .i64 f.c.id.i, .int .i64 f.c.id.c]) := fun V hV => ⟨blk_cell hV 4, by have := blk_cell hV 5; rw [this]; show some (Value.slice f.sa f.c.sl.length f.sc) = _; rw [Hsn.out], by have := blk_cell hV 6; rw [this]; show some (Value.slice f.ha f.c.hv.length f.hc) = _; rw [Hhn.out], id_range hV⟩
  have hne : w.heap.size ≠ W1.heap.size := blk_ne hk1 hk2 (by decide)
  have HD : Hid (w4.drew.there W1.heap.size 0 9) := blk_there hk2 rfl
  have hwx : ∀ L : List Value, L.length = 9 → (w4.drew.setCells W1.heap.size 0 L).heap[w.heap.size]? = some (.cells f.cs.toArray 35 (0, 0)) ∧ (w4.drew.setCells W1.heap.size 0 L).heap[W1.heap.size]? = some (.cells L.toArray 94 (0, 0)) ∧ Kept w4.drew (w4.drew.setCells W1.heap.size 0 L) (fun k => k = W1.heap.size) := fun L hL => ⟨(ksets (P := fun k => k = W1.heap.size) rfl _ _ _).obj hk1 hne, sets_whole hk2 (by rw [hL]; rfl), ksets (P := fun k => k = W1.heap.size) rfl _ _ _⟩
  have Hwx : Hid (∀ L : List Value, L.length = 9 → (w4.drew.setCells W1.heap.size 0 L).heap[w.heap.size]? = some (.cells f.cs.toArray 35 (0, 0)) ∧ (w4.drew.setCells W1.heap.size 0 L).heap[W1.heap.size]? = some (.cells L.toArray 94 (0, 0)) ∧ Kept w4.drew (w4.drew.setCells W1.heap.size 0 L) (fun k => k = W1.heap.size)) := hwx
  have Hrb2 : Hid (w4.drew.heap[W1.heap.size]? = some (.cells #[.int .i64 0, .int .i64 0, .int .i64 0, .int .i64 0, .int .i64 0, .slice none 0 0, .slice none 0 0, .slice none 0 0, .slice none 0 0] 94 (0, 0))) := hk2
  clear hwx hk2
  generalize hX : (⟨f.c, some ⟨g3, 0, none⟩, cap3, some ⟨g4, 0, none⟩, cap4⟩ : Fl) = X
  have HXt : Hid (X.tw = [.int .i64 f.c.id.e, .int .i64 f.c.id.l, .int .i64 f.c.id.i, .int .i64 f.c.id.c, .int .i64 f.c.base, .slice (some ⟨g3, 0, none⟩) sn cap3, .slice (some ⟨g4, 0, none⟩) hn cap4, .slice (some ⟨g3, 0, none⟩) (sn + 1) cap3, .slice (some ⟨g4, 0, none⟩) (hn + 1) cap4]) := (show X.tw = _ from by rw [← hX]; show [_, _, _, _, _, Value.slice (some ⟨g3, 0, none⟩) f.c.sl.length cap3, Value.slice (some ⟨g4, 0, none⟩) f.c.hv.length cap4, Value.slice (some ⟨g3, 0, none⟩) (f.c.sl.length + 1) cap3, Value.slice (some ⟨g4, 0, none⟩) (f.c.hv.length + 1) cap4] = _; rw [Hsn.out, Hhn.out])
  have HXo : Hid (TwOk w4 w.heap.size X f.c) := (show TwOk w4 w.heap.size X f.c from by
    refine ⟨by rw [← hX], ?_, ?_⟩
    · rw [← hX, Hsn.out]; exact HO3.out
    · rw [← hX, Hhn.out]; exact HO4.out)
  generalize hkb : w.heap.size = kb at *
  have Hkb : Hid (w.heap.size = kb) := hkb
  generalize hrb : W1.heap.size = rb at *
  clear hkb hrb hW1 hW2 hX HO3 HO4 hne
  have H2z : Hid (W2.heap.size ≤ w4.heap.size) := Hb4.out.size
  go_wp2_with (fail)
  refine wp_region_held_drew (S := (fun w' => w'.heap[kb]? = some (.cells f.cs.toArray 35 (0, 0)))) (by kernel_rfl) hk1 (fun hHeld => ?_)
  simp only [Act.put, List.size_toArray, List.length_cons, List.length_nil, Nat.zero_add]
  refine wpAnyH_take (i := 0) (v := .pointer (some ⟨kb, 0, none⟩)) rfl (by kernel_rfl) (by kernel_rfl) (by kernel_rfl) (fun _ _ _ h => h) (Or.inl ⟨by rfl, fun w' hS => by go_simp⟩) hHeld ?_
  simp only [Act.put, List.getElem_toArray, List.getElem_cons_zero, List.getElem_cons_succ, List.setIfInBounds_toArray, List.set_cons_zero, List.set_cons_succ]
  refine wpAnyH_take (i := 1) (v := .agg ([.int .i64 f.c.id.e, .int .i64 f.c.id.l, .int .i64 f.c.id.i, .int .i64 f.c.id.c]).toArray) rfl (by kernel_rfl) (by kernel_rfl) (by kernel_rfl) (fun _ _ _ h => h) (yieldsIf_load_mid (by rfl) 33 (.tmp 18) rfl kb (0) (by rfl) ([.int .i64 f.c.id.e, .int .i64 f.c.id.l, .int .i64 f.c.id.i, .int .i64 f.c.id.c]) _ (fun w' hS => (Hck.out w' hS).2.2.2) Try.underlying33 rfl info_id) hHeld ?_
  simp only [Act.put, List.getElem_toArray, List.getElem_cons_zero, List.getElem_cons_succ, List.setIfInBounds_toArray, List.set_cons_zero, List.set_cons_succ]
  refine wpAnyH_take (i := 2) (v := .pointer (some ⟨kb, 4, none⟩)) rfl (by kernel_rfl) (by kernel_rfl) (by kernel_rfl) (fun _ _ _ h => h) (Or.inl ⟨by rfl, fun w' hS => by go_simp⟩) hHeld ?_
  simp only [Act.put, List.getElem_toArray, List.getElem_cons_zero, List.getElem_cons_succ, List.setIfInBounds_toArray, List.set_cons_zero, List.set_cons_succ]
  refine wpAnyH_take (i := 3) (v := .int .i64 f.c.base) rfl (by kernel_rfl) (by kernel_rfl) (by kernel_rfl) (fun _ _ _ h => h) (Or.inl ⟨by rfl, fun w' hS => by (obtain ⟨q4, q5, q6, qi⟩ := Hck.out w' hS; go_simp)⟩) hHeld ?_
  simp only [Act.put, List.getElem_toArray, List.getElem_cons_zero, List.getElem_cons_succ, List.setIfInBounds_toArray, List.set_cons_zero, List.set_cons_succ]
  refine wpAnyH_take (i := 4) (v := .slice (some ⟨g3, 0, none⟩) (sn + 1) cap3) rfl (by kernel_rfl) (by kernel_rfl) (by kernel_rfl) (fun _ _ _ h => h) (Or.inl ⟨by rfl, fun w' hS => by go_simp⟩) hHeld ?_
  simp only [Act.put, List.getElem_toArray, List.getElem_cons_zero, List.getElem_cons_succ, List.setIfInBounds_toArray, List.set_cons_zero, List.set_cons_succ]
  refine wpAnyH_take (i := 5) (v := .pointer (some ⟨kb, 5, none⟩)) rfl (by kernel_rfl) (by kernel_rfl) (by kernel_rfl) (fun _ _ _ h => h) (Or.inl ⟨by rfl, fun w' hS => by go_simp⟩) hHeld ?_
  simp only [Act.put, List.getElem_toArray, List.getElem_cons_zero, List.getElem_cons_succ, List.setIfInBounds_toArray, List.set_cons_zero, List.set_cons_succ]
  refine wpAnyH_take (i := 6) (v := .slice f.sa sn f.sc) rfl (by kernel_rfl) (by kernel_rfl) (by kernel_rfl) (fun _ _ _ h => h) (Or.inl ⟨by rfl, fun w' hS => by (obtain ⟨q4, q5, q6, qi⟩ := Hck.out w' hS; go_simp)⟩) hHeld ?_
  simp only [Act.put, List.getElem_toArray, List.getElem_cons_zero, List.getElem_cons_succ, List.setIfInBounds_toArray, List.set_cons_zero, List.set_cons_succ]
  refine wpAnyH_take (i := 7) (v := .int .i64 (sn : Int)) rfl (by kernel_rfl) (by kernel_rfl) (by kernel_rfl) (fun _ _ _ h => h) (Or.inl ⟨by rfl, fun w' hS => by go_simp⟩) hHeld ?_
  simp only [Act.put, List.getElem_toArray, List.getElem_cons_zero, List.getElem_cons_succ, List.setIfInBounds_toArray, List.set_cons_zero, List.set_cons_succ]
  refine wpAnyH_take (i := 8) (v := .slice (some ⟨g3, 0, none⟩) sn cap3) rfl (by kernel_rfl) (by kernel_rfl) (by kernel_rfl) (fun _ _ _ h => h) (Or.inl ⟨by rfl, fun w' hS => by first | (go_simp; done) | (go_simp; omega) | (go_simp; split <;> first | omega | (simp; omega)) | (go_simp; simp; omega)⟩) hHeld ?_
  simp only [Act.put, List.getElem_toArray, List.getElem_cons_zero, List.getElem_cons_succ, List.setIfInBounds_toArray, List.set_cons_zero, List.set_cons_succ]
  refine wpAnyH_take (i := 9) (v := .slice (some ⟨g4, 0, none⟩) (hn + 1) cap4) rfl (by kernel_rfl) (by kernel_rfl) (by kernel_rfl) (fun _ _ _ h => h) (Or.inl ⟨by rfl, fun w' hS => by go_simp⟩) hHeld ?_
  simp only [Act.put, List.getElem_toArray, List.getElem_cons_zero, List.getElem_cons_succ, List.setIfInBounds_toArray, List.set_cons_zero, List.set_cons_succ]
  refine wpAnyH_take (i := 10) (v := .pointer (some ⟨kb, 6, none⟩)) rfl (by kernel_rfl) (by kernel_rfl) (by kernel_rfl) (fun _ _ _ h => h) (Or.inl ⟨by rfl, fun w' hS => by go_simp⟩) hHeld ?_
  simp only [Act.put, List.getElem_toArray, List.getElem_cons_zero, List.getElem_cons_succ, List.setIfInBounds_toArray, List.set_cons_zero, List.set_cons_succ]
  refine wpAnyH_take (i := 11) (v := .slice f.ha hn f.hc) rfl (by kernel_rfl) (by kernel_rfl) (by kernel_rfl) (fun _ _ _ h => h) (Or.inl ⟨by rfl, fun w' hS => by (obtain ⟨q4, q5, q6, qi⟩ := Hck.out w' hS; go_simp)⟩) hHeld ?_
  simp only [Act.put, List.getElem_toArray, List.getElem_cons_zero, List.getElem_cons_succ, List.setIfInBounds_toArray, List.set_cons_zero, List.set_cons_succ]
  refine wpAnyH_take (i := 12) (v := .int .i64 (hn : Int)) rfl (by kernel_rfl) (by kernel_rfl) (by kernel_rfl) (fun _ _ _ h => h) (Or.inl ⟨by rfl, fun w' hS => by go_simp⟩) hHeld ?_
  simp only [Act.put, List.getElem_toArray, List.getElem_cons_zero, List.getElem_cons_succ, List.setIfInBounds_toArray, List.set_cons_zero, List.set_cons_succ]
  refine wpAnyH_take (i := 13) (v := .slice (some ⟨g4, 0, none⟩) hn cap4) rfl (by kernel_rfl) (by kernel_rfl) (by kernel_rfl) (fun _ _ _ h => h) (Or.inl ⟨by rfl, fun w' hS => by first | (go_simp; done) | (go_simp; omega) | (go_simp; split <;> first | omega | (simp; omega)) | (go_simp; simp; omega)⟩) hHeld ?_
  simp only [Act.put, List.getElem_toArray, List.getElem_cons_zero, List.getElem_cons_succ, List.setIfInBounds_toArray, List.set_cons_zero, List.set_cons_succ]
  refine wpAnyH_take (i := 14) (v := .agg #[.int .i64 f.c.id.e, .int .i64 f.c.id.l, .int .i64 f.c.id.i, .int .i64 f.c.id.c, .int .i64 f.c.base, .slice (some ⟨g3, 0, none⟩) sn cap3, .slice (some ⟨g4, 0, none⟩) hn cap4]) rfl (by kernel_rfl) (by kernel_rfl) (by kernel_rfl) (fun _ _ _ h => h) (Or.inl ⟨by rfl, fun w' hS => by go_simp⟩) hHeld ?_
  simp only [Act.put, List.getElem_toArray, List.getElem_cons_zero, List.getElem_cons_succ, List.setIfInBounds_toArray, List.set_cons_zero, List.set_cons_succ]
  refine wpAnyH_take (i := 15) (v := .slice (some ⟨g3, 0, none⟩) (sn + 1) cap3) rfl (by kernel_rfl) (by kernel_rfl) (by kernel_rfl) (fun _ _ _ h => h) (Or.inl ⟨by rfl, fun w' hS => by go_simp⟩) hHeld ?_
  simp only [Act.put, List.getElem_toArray, List.getElem_cons_zero, List.getElem_cons_succ, List.setIfInBounds_toArray, List.set_cons_zero, List.set_cons_succ]
  refine wpAnyH_take (i := 16) (v := .slice (some ⟨g4, 0, none⟩) (hn + 1) cap4) rfl (by kernel_rfl) (by kernel_rfl) (by kernel_rfl) (fun _ _ _ h => h) (Or.inl ⟨by rfl, fun w' hS => by go_simp⟩) hHeld ?_
  simp only [Act.put, List.getElem_toArray, List.getElem_cons_zero, List.getElem_cons_succ, List.setIfInBounds_toArray, List.set_cons_zero, List.set_cons_succ]
  refine wpAnyH_take (i := 17) (v := .agg #[.int .i64 f.c.id.e, .int .i64 f.c.id.l, .int .i64 f.c.id.i, .int .i64 f.c.id.c, .int .i64 f.c.base, .slice (some ⟨g3, 0, none⟩) sn cap3, .slice (some ⟨g4, 0, none⟩) hn cap4, .slice (some ⟨g3, 0, none⟩) (sn + 1) cap3, .slice (some ⟨g4, 0, none⟩) (hn + 1) cap4]) rfl (by kernel_rfl) (by kernel_rfl) (by kernel_rfl) (fun _ _ _ h => h) (Or.inl ⟨by rfl, fun w' hS => by go_simp⟩) hHeld ?_
  simp only [Act.put, List.getElem_toArray, List.getElem_cons_zero, List.getElem_cons_succ, List.setIfInBounds_toArray, List.set_cons_zero, List.set_cons_succ]
  obtain ⟨hx1, hx2, hx3⟩ := Hwx.out [.int .i64 f.c.id.e, .int .i64 f.c.id.l, .int .i64 f.c.id.i, .int .i64 f.c.id.c, .int .i64 f.c.base, .slice (some ⟨g3, 0, none⟩) sn cap3, .slice (some ⟨g4, 0, none⟩) hn cap4, .slice (some ⟨g3, 0, none⟩) (sn + 1) cap3, .slice (some ⟨g4, 0, none⟩) (hn + 1) cap4] rfl
  have Hr2 : Hid (w4.drew.heap[rb]? = some (.cells #[.int .i64 0, .int .i64 0, .int .i64 0, .int .i64 0, .int .i64 0, .slice none 0 0, .slice none 0 0, .slice none 0 0, .slice none 0 0] 94 (0, 0))) := Hrb2.out
  refine wpAnyH_ready (rs := [18]) (by kernel_rfl) (by simp) ?_
  refine AllReadyH.cons rfl (fun K hK => ?_) AllReadyH.nil
  rw [if_pos (by kernel_rfl)]
  refine op_store 94 (.tmp 2) (.tmp 35) (L := [.int .i64 f.c.id.e, .int .i64 f.c.id.l, .int .i64 f.c.id.i, .int .i64 f.c.id.c, .int .i64 f.c.base, .slice (some ⟨g3, 0, none⟩) sn cap3, .slice (some ⟨g4, 0, none⟩) hn cap4, .slice (some ⟨g3, 0, none⟩) (sn + 1) cap3, .slice (some ⟨g4, 0, none⟩) (hn + 1) cap4]) HD.out info_twin (by intro u hu; simp at hu; rcases hu with rfl | rfl | rfl | rfl | rfl | rfl | rfl | rfl | rfl <;> rfl) rfl rfl rfl ?_
  refine hK.out _ _ hx1 (fun hHeld => ?_)
  clear hK K
  try (simp only [Act.put, List.getElem_toArray, List.getElem_cons_zero, List.getElem_cons_succ, List.setIfInBounds_toArray, List.set_cons_zero, List.set_cons_succ])
  refine wpAnyH_done (by kernel_rfl) ?_ _
  clear hHeld
  go_wp2
  (try simp only [Exit.inBlock, Exit.then]); refine bodyPost_ret (res_twin rfl _ _ rb [.int .i64 f.c.id.e, .int .i64 f.c.id.l, .int .i64 f.c.id.i, .int .i64 f.c.id.c, .int .i64 f.c.base, .slice (some ⟨g3, 0, none⟩) sn cap3, .slice (some ⟨g4, 0, none⟩) hn cap4, .slice (some ⟨g3, 0, none⟩) (sn + 1) cap3, .slice (some ⟨g4, 0, none⟩) (hn + 1) cap4] rfl rfl (blk_range hx2)) rfl ?_
  refine ⟨X, by rw [HXt.out], ?_, ?_⟩
  · rw [Hkb.out]
    refine TwOk.keep (w := w4.drew) (HXo.out.still (Below.refl _ _).drew) hx3 (fun g C hg e => ?_) (fun g C hg e => ?_)
    · rw [e, Hr2.out] at hg; simp at hg
    · rw [e, Hr2.out] at hg; simp at hg
  · rw [Hkb.out]
    have h4 : Below kb w w4 := HB.out.trans (Hb4.out.mono HBz.out)
    exact h4.drew.trans (hx3.below (show kb ≤ w4.heap.size from by rw [← Hkb.out]; exact h4.size) (fun k hk e => by have := Hge.out; omega))
end
end Go.Proofs.Ytpkcgjnaegaecaa.Fm
