import Derived.Test.YtobaooebjgoaiaaV17
import Derived.Test.YtobaooebjgoaiaaV08
import Derived.WalkKit
import Derived.ProofKit
import Derived.OpenShut
import Derived.ShutString
import Derived.ChangeOld
import Derived.Below
import Derived.Deep.Slices
import Derived.SizedLaws
namespace Go.Proofs.Ytobaooebjgoaiaa.Fm
open Go.RowKit Go.Maps Mb
set_option linter.unusedVariables false
set_option maxRecDepth 100000
set_option linter.unusedSimpArgs false
section
variable {w w' W : World} {B : Nat}
theorem copy_app {ops : Array Oper} {rest : List Oper} {o : Oper} {a : Act} {Qp : Exit → Act → World → Prop} (hgd : o.guard = none) (s x : Operand) (t e : TypeId)
  (ho : o.op = .call { callee := .builtin .append, args := #[s, x], argTypes := #[t, t] })
  (i : TypeInfo) (z : Value) (size bytes : Nat) (ht : Try.prog.underlying t = some (.slice e)) (hi : Try.prog.info? e = some i) (hz : i.zero = some z)
  (hsize : i.size = size) (hby : i.bytes = bytes) (hzs : z.cells.size = size) (hsz : 0 < size)
  (hs : a.eval s = .slice (some ⟨W.heap.size, 0, none⟩) 0 0)
  (ao : Option Addr) (m c : Nat) (news : List Value) (hx : a.eval x = .slice ao m c) (hnone : ao = none → m = 0 ∧ c = 0) (hl : news.length = m * size) (hnews : ∀ ad, ao = some ad → ∀ j u, news[j]? = some u → W.cell? (ad.add j) = some u) (h1 : ∀ u ∈ news, u.oneCell' = true)
  (h63 : m ≤ maxLen) (hbytes : m * bytes ≤ 140737488355328)
  (h : ∀ (a1 : Option Addr) (c1 : Nat) (w2 : World), Below W.heap.size W w2 → w2.ownsRow W.heap.size e size (.slice a1 m c1) m news → wpList Try.prog ops Qp rest (a.put o.dst (.slice a1 m c1)) w2) :
  wpList Try.prog ops Qp (o :: rest) a (W.alloc (.cells #[] e)) := by
 have hown : (W.alloc (.cells #[] e)).ownsRow W.heap.size e size (.slice (some ⟨W.heap.size, 0, none⟩) 0 0) 0 [] := World.ownsRow_made W #[] 0 (by omega) (Nat.zero_le _) (by simp)
 have hbW : Below W.heap.size W (W.alloc (.cells #[] e)) := (Below.refl _ _).alloc (Nat.le_refl _) _
 cases ao with
 | some ad =>
  refine wpList_append_own _ hgd s x t ho W.heap.size e i z size bytes ht hi hz hsize hby hzs hsz _ 0 [] hs hown ad m c news hx hl (fun j u hu => ?_) h1 (by omega) (by simpa using hbytes) (by simp) fun v' w' h2 h3 _ => ?_
  ·have hc := hnews ad rfl j u hu
   exact (hbW.cell (World.block_lt_of_cell? W _ hc)).trans hc
  ·simp only [Nat.zero_add, List.nil_append] at h2
   have hb2 : Below W.heap.size W w' := hbW.grown h3 (by simp) (fun k hk => by simp [Value.ownBlock] at hk; omega)
   obtain ⟨a1, c1, rfl⟩ : ∃ a1 c1, v' = Value.slice a1 m c1 := by
    rcases h2.2 with ⟨h3, h4⟩ | ⟨g, cap, cur, hv, _⟩
    ·exact ⟨none, 0, by rw [h4]; exact h3⟩
    ·exact ⟨_, _, hv⟩
   exact h a1 c1 w' hb2 h2
 | none =>
  obtain ⟨rfl, rfl⟩ := hnone rfl
  obtain rfl : news = [] := List.eq_nil_of_length_eq_zero (by omega)
  exact wpList_append_own_none hgd s x t ho _ e i size ht hi _ 0 [] hs hown hx (h _ _ _ hbW hown)
theorem own_rdI {B : Nat} {a : Option Addr} {n c : Nat} {xs : List Int} (h : w.ownsRow B 3 1 (.slice a n c) n (ints xs)) (hn : xs.length = n) : RdI w a xs := by
 unfold RdI Row
 by_cases h0 : n = 0
 ·exact .inl (by omega)
 ·rcases h.2 with ⟨h1, h2⟩ | ⟨g, cap, cur, hv, hB, hg, hnc, hcm, hcs, htk⟩
  ·omega
  ·simp at hv
   refine .inr ⟨g, 0, hv.1, fun i hi => ?_⟩
   rw [Nat.zero_add, blk_cell hg i]
   have e1 : (cur.toList.take (n * 1))[i]? = (ints xs)[i]? := by rw [htk]
   rw [List.getElem?_take_of_lt (by omega)] at e1
   rw [← Array.getElem?_toList, e1]
   exact Mb.ints_at xs i (by omega)
theorem slCells_one (ss : List (Int × Int)) : ∀ u ∈ slCells ss, u.oneCell' = true := by
 intro u hu
 simp only [slCells, List.mem_flatMap] at hu
 obtain ⟨s, _, hs⟩ := hu
 exact slotV_one s u hs
theorem rdS_news {ao : Option Addr} {ss : List (Int × Int)} (h : RdS w ao ss) : ∀ ad, ao = some ad → ∀ j u, (slCells ss)[j]? = some u → w.cell? (ad.add j) = some u := fun ad he j u hu => by
 have hj : j < ss.length * 2 := by have := (List.getElem?_eq_some_iff.1 hu).1; rwa [slCells_len] at this
 rcases h with h | ⟨b, off, h1, h2⟩
 ·omega
 ·rw [h1] at he
  cases he
  rw [Addr.add_mid, h2 j hj]
  rw [slCells_at ss j hj] at hu
  exact hu
theorem rdI_news {ao : Option Addr} {xs : List Int} (h : RdI w ao xs) : ∀ ad, ao = some ad → ∀ j u, (ints xs)[j]? = some u → w.cell? (ad.add j) = some u := fun ad he j u hu => by
 have hj : j < xs.length := by have := (List.getElem?_eq_some_iff.1 hu).1; rwa [ints_len] at this
 rcases h with h | ⟨b, off, h1, h2⟩
 ·omega
 ·rw [h1] at he
  cases he
  rw [Addr.add_mid, h2 j (by omega)]
  rw [Mb.ints_at xs j hj] at hu
  exact hu
theorem rdS_pre {ao : Option Addr} {ss : List (Int × Int)} {s : Int × Int} (h : RdS w ao (ss ++ [s])) : RdS w ao ss := by
 rcases h with h | ⟨b, off, h1, h2⟩
 ·simp at h
 ·refine .inr ⟨b, off, h1, fun i hi => ?_⟩
  rw [h2 i (by simp; omega)]
  unfold slotC
  have : (ss ++ [s]).getD (i / 2) z2 = ss.getD (i / 2) z2 := by simp [List.getD, List.getElem?_append, show i / 2 < ss.length by omega]
  rw [this]
theorem rdI_pre {ao : Option Addr} {xs : List Int} {x : Int} (h : RdI w ao (xs ++ [x])) : RdI w ao xs := by
 rcases h with h | ⟨b, off, h1, h2⟩
 ·simp at h
 ·refine .inr ⟨b, off, h1, fun i hi => ?_⟩
  rw [h2 i (by simp; omega)]
  show some (Value.int .i64 ((xs ++ [x]).getD i 0)) = some (Value.int .i64 (xs.getD i 0))
  have : (xs ++ [x]).getD i 0 = xs.getD i 0 := by simp [List.getD, List.getElem?_append, show i < xs.length by omega]
  rw [this]
structure Fl.In (f : Fl) (w : World) : Prop where
 rd : f.Rd w
 sz : f.sa = none → f.c.sl.length = 0 ∧ f.sc = 0
 hz : f.ha = none → f.c.hv.length = 0 ∧ f.hc = 0
 sn : f.c.sl.length ≤ 1048576
 hn : f.c.hv.length ≤ 1048576
theorem Fl.In.still {f : Fl} (h : f.In w) (hb : Below w.heap.size w w') : f.In w' := ⟨h.rd.still hb, h.sz, h.hz, h.sn, h.hn⟩
structure TwOk (w : World) (B : Nat) (x : Fl) (c : Co) : Prop where
 ce : x.c = c
 s : w.ownsRow B 76 2 (.slice x.sa (c.sl.length + 1) x.sc) (c.sl.length + 1) (slCells (c.sl ++ [(71, 71)]))
 h : w.ownsRow B 3 1 (.slice x.ha (c.hv.length + 1) x.hc) (c.hv.length + 1) (ints (c.hv ++ [72]))
theorem TwOk.rdS {x : Fl} {c : Co} (h : TwOk w B x c) : RdS w x.sa (c.sl ++ [(71, 71)]) := own_rdS h.s (by simp)
theorem TwOk.rdI {x : Fl} {c : Co} (h : TwOk w B x c) : RdI w x.ha (c.hv ++ [72]) := own_rdI h.h (by simp)
theorem TwOk.rd {x f : Fl} (h : TwOk w B x f.c) (hf : f.Rd w') : x.Rd w := by
 have hc := h.ce
 refine ⟨?_, ?_, ?_, ?_, ?_, ?_⟩
 ·rw [hc]; exact rdS_pre h.rdS
 ·rw [hc]; exact rdI_pre h.rdI
 ·rw [hc]; exact hf.r
 ·rw [hc]; exact hf.b
 ·rw [hc]; exact hf.sn
 ·rw [hc]; exact hf.hn
theorem TwOk.keep {x : Fl} {c : Co} {P : Nat → Prop} (h : TwOk w B x c) (k : Kept w w' P) (h1 : ∀ g C, w.heap[g]? = some (.cells C 76 (0, 0)) → ¬ P g) (h2 : ∀ g C, w.heap[g]? = some (.cells C 3 (0, 0)) → ¬ P g) : TwOk w' B x c :=
 ⟨h.ce, k.owns h.s (fun g hg => by obtain ⟨_, C, hC⟩ := row_cells h.s hg; exact h1 g C hC), k.owns h.h (fun g hg => by obtain ⟨_, C, hC⟩ := row_cells h.h hg; exact h2 g C hC)⟩
theorem TwOk.still {x : Fl} {c : Co} (h : TwOk w B x c) (hb : Below w.heap.size w w') : TwOk w' B x c := ⟨h.ce, own_still h.s hb, own_still h.h hb⟩
def Fl.tw (x : Fl) : List Value := x.cs ++ [.slice x.sa (x.c.sl.length + 1) x.sc, .slice x.ha (x.c.hv.length + 1) x.hc]
theorem tw_len (x : Fl) : x.tw.length = 9 := rfl
theorem tw_one (x : Fl) : ∀ u ∈ x.tw, u.oneCell' = true := by
 intro u hu
 unfold Fl.tw at hu
 rcases List.mem_append.1 hu with hu | hu
 ·exact flcs_one x u hu
 ·simp at hu
  rcases hu with rfl | rfl <;> rfl
theorem info_twin : (Try.prog.info? 53).map (·.size) = some 9 := by kernel_rfl
theorem int_info : ∃ i : TypeInfo, Try.prog.info? 3 = some i ∧ i.zero = some (.int .i64 0) ∧ i.size = 1 ∧ i.bytes = 8 := by
 have h : (Try.prog.info? 3).map (fun i => (i.zero, i.size, i.bytes)) = some (some (.int .i64 0), 1, 8) := by kernel_rfl
 cases hq : Try.prog.info? 3 with
 | none => rw [hq] at h; cases h
 | some i => rw [hq] at h; simp at h; exact ⟨i, rfl, h.1, h.2.1, h.2.2⟩
theorem res_twin {fn : Func} {p : Tmp} (h : fn.results = #[.cell p 53]) (tmps : Array Value) (w : World) (g : Nat) (L : List Value) (hL : L.length = 9)
  (hp : tmps.getD p undef = .pointer (some ⟨g, 0, none⟩)) (hg : w.rangeAt g 0 L) :
  (results fn tmps).run Try.prog w = .ok (.agg L.toArray) w := by
 have e : (results fn tmps).run Try.prog w = ((asAddr (tmps.getD p undef)).run Try.prog w).andThen fun a w₁ => (loadVar 53 a).run Try.prog w₁ := by
  simp only [results, h]
  simp [Sem.run_bind, Result.andThen]
 rw [e, hp]
 simp [asAddr, run_loadVar_mid w g 0 53 L _ hg Try.underlying53 rfl (by rw [hL]; exact info_twin)]
theorem op_store {o : Oper} {a : Act} {K : Act → World → Prop} {Q : Exit → Act → World → Prop} (ty : TypeId) (x y : Operand) {b : Nat} {L : List Value} (ht : w.there b 0 L.length) (hi : (Try.prog.info? ty).map (·.size) = some L.length) (h1 : ∀ u ∈ L, u.oneCell' = true) (ho : o.op = .store ty x y) (hx : a.eval x = .pointer (some ⟨b, 0, none⟩)) (hy : a.eval y = .agg L.toArray) (h : K (a.put o.dst undef) (w.setCells b 0 L)) : Oper.wp Try.prog o a w K Q :=
 wp_store_mid ty x y ho b 0 _ hx hy (by simpa using ht) (by simpa using hi) (all_oneCell_toArray h1) (by simpa using h)
set_option maxHeartbeats 8000000 in
theorem twin_any {f : Fl} (hf : f.In w) : Calls Try.prog 8 #[.agg f.cs.toArray] w fun e w' => ∃ x : Fl, e = .returned (.agg x.tw.toArray) ∧ TwOk w' w.heap.size x f.c ∧ Below w.heap.size w w' := by
 generalize hW1 : w.alloc (.cells f.cs.toArray 28) = W1
 generalize hW2 : W1.alloc (.cells #[.int .i64 0, .int .i64 0, .int .i64 0, .int .i64 0, .int .i64 0, .slice none 0 0, .slice none 0 0, .slice none 0 0, .slice none 0 0] 53) = W2
 have b1 : Below w.heap.size w W1 := hW1 ▸ balloc (Below.refl _ _)
 have b2 : Below W1.heap.size W1 W2 := hW2 ▸ balloc (Below.refl _ _)
 have k1 : W1.heap[w.heap.size]? = some (.cells f.cs.toArray 28 (0, 0)) := by rw [← hW1]; exact heap_alloc_new w _
 have k2 : W2.heap[W1.heap.size]? = some (.cells #[.int .i64 0, .int .i64 0, .int .i64 0, .int .i64 0, .int .i64 0, .slice none 0 0, .slice none 0 0, .slice none 0 0, .slice none 0 0] 53 (0, 0)) := by rw [← hW2]; exact heap_alloc_new W1 _
 have HF : Hid (f.In W2) := (hf.still b1).still b2
 have HB : Hid (Below w.heap.size w W2) := bstep b1 b2
 have HK1 : Hid (W2.heap[w.heap.size]? = some (.cells f.cs.toArray 28 (0, 0))) := (b2.block _ (lt_heap k1)).trans k1
 have HK2 : Hid (W2.heap[W1.heap.size]? = some (.cells #[.int .i64 0, .int .i64 0, .int .i64 0, .int .i64 0, .int .i64 0, .slice none 0 0, .slice none 0 0, .slice none 0 0, .slice none 0 0] 53 (0, 0))) := k2
 have Hge : Hid (w.heap.size ≤ W1.heap.size) := b1.size
 have HBz : Hid (w.heap.size ≤ W2.heap.size) := Nat.le_trans b1.size b2.size
 obtain ⟨si, shi, shz0, shz1, shz2⟩ := slot_info
 obtain ⟨ii, ihi, ihz0, ihz1, ihz2⟩ := int_info
 have hsn := hf.sn
 have hhn := hf.hn
 clear hf b1 b2 k1 k2
 have q5 : (W2.alloc (.cells #[] 76)).cell? ⟨w.heap.size, 5, none⟩ = some (.slice f.sa f.c.sl.length f.sc) := below_at (balloc (Below.refl _ _)) (blk_cell HK1.out 5)
 have Hq6 : Hid (∀ V : World, Below W2.heap.size W2 V → V.cell? ⟨w.heap.size, 6, none⟩ = some (.slice f.ha f.c.hv.length f.hc) ∧ V.cell? ⟨w.heap.size, 5, none⟩ = some (.slice f.sa f.c.sl.length f.sc) ∧ V.cell? ⟨w.heap.size, 4, none⟩ = some (.int .i64 f.c.base) ∧ V.rangeAt w.heap.size 0 f.c.id.cs) := fun V hV => ⟨below_at hV (blk_cell HK1.out 6), below_at hV (blk_cell HK1.out 5), below_at hV (blk_cell HK1.out 4), fun j v hv => below_at hV (id_range HK1.out j v hv)⟩
 generalize hpc : f.cs.toArray = pc at hW1 HK1
 generalize hsl : f.c.sl.length = sn at *
 generalize hhl : f.c.hv.length = hn at *
 have Hsn : Hid (f.c.sl.length = sn) := hsl
 have Hhn : Hid (f.c.hv.length = hn) := hhl
 have HFs : Hid ((f.sa = none → sn = 0 ∧ f.sc = 0) ∧ (f.ha = none → hn = 0 ∧ f.hc = 0)) := ⟨hsl ▸ HF.out.sz, hhl ▸ HF.out.hz⟩
 clear hsl hhl
 go_enter Try.func8, Try.ntmps8
 go_wp2_with (first
  | (at_builtin; refine copy_app rfl _ _ 25 76 rfl si (.agg #[.int .i64 0, .int .i64 0]) 2 16 Try.underlying25 shi shz0 shz1 shz2 rfl (by omega) rfl f.sa sn f.sc (slCells f.c.sl) rfl HFs.out.1 (by rw [slCells_len, Hsn.out]) (rdS_news HF.out.rd.s) (slCells_one _) (by unfold maxLen; omega) (by omega) ?_; intro a1 c1 V1 hbv hov)
  | (at_builtin; refine wpList_append_lies _ rfl _ _ 25 rfl W2.heap.size 76 si (.agg #[.int .i64 0, .int .i64 0]) 2 16 Try.underlying25 shi shz0 shz1 shz2 rfl (by omega) (.slice a1 sn c1) sn (slCells f.c.sl) rfl (World.ownsRow.alloc hov _) _ 1 1 _ rfl rfl (World.news_of_block (heap_alloc_new _ _)) (by simp [Value.oneCell']) (by omega) (by unfold maxLen; omega) (by omega) (by have := hbv.size; simp; omega) _ rfl ?_; intro g3 cap3 w3 hown3 hgrow3 hat3 hlt3; have hb3 : Below W2.heap.size W2 w3 := (balloc hbv).grown hgrow3 (by have := hbv.size; simp; omega) (fun k hk => (row_cells hov hk).1); have q6a := (Hq6.out _ (balloc (o := .cells #[] 3) hb3)).1; have Ho3 : Hid (w3.ownsRow W2.heap.size 76 2 (.slice (some ⟨g3, 0, none⟩) (sn + 1) cap3) (sn + 1) (slCells f.c.sl ++ [.int .i64 71, .int .i64 71])) := hown3; have Hb3 : Hid (Below W2.heap.size W2 w3) := hb3; have Hi3 : Hid (RdI w3 f.ha f.c.hv) := HF.out.rd.h.still hb3; clear hown3 hgrow3 hat3 hlt3 hb3 hbv hov)
  | (at_builtin; refine copy_app rfl _ _ 26 3 rfl ii (.int .i64 0) 1 8 Try.underlying26 ihi ihz0 ihz1 ihz2 rfl (by omega) rfl f.ha hn f.hc (ints f.c.hv) rfl HFs.out.2 (by rw [ints_len, Hhn.out, Nat.mul_one]) (rdI_news Hi3.out) (ints_one _) (by unfold maxLen; omega) (by omega) ?_; intro a2 c2 V2 hbv2 hov2)
  | (at_builtin; refine wpList_append_lies _ rfl _ _ 26 rfl w3.heap.size 3 ii (.int .i64 0) 1 8 Try.underlying26 ihi ihz0 ihz1 ihz2 rfl (by omega) (.slice a2 hn c2) hn (ints f.c.hv) rfl (World.ownsRow.alloc hov2 _) _ 1 1 _ rfl rfl (World.news_of_block (heap_alloc_new _ _)) (by simp [Value.oneCell']) (by omega) (by unfold maxLen; omega) (by omega) (by have := hbv2.size; simp; omega) _ rfl ?_; intro g4 cap4 w4 hown4 hgrow4 hat4 hlt4)
  | fail)
 have hb4 : Below w3.heap.size w3 w4 := (balloc hbv2).grown hgrow4 (by have := hbv2.size; simp; omega) (fun k hk => (row_cells hov2 hk).1)
 have HO4 : Hid (w4.ownsRow w.heap.size 3 1 (.slice (some ⟨g4, 0, none⟩) (hn + 1) cap4) (hn + 1) (ints (f.c.hv ++ [72]))) := own_lower (by simpa [ints] using hown4) (Nat.le_trans HB.out.size Hb3.out.size)
 have HO3 : Hid (w4.ownsRow w.heap.size 76 2 (.slice (some ⟨g3, 0, none⟩) (sn + 1) cap3) (sn + 1) (slCells (f.c.sl ++ [(71, 71)]))) := own_still (own_lower (by rw [slCells_app]; exact Ho3.out) HB.out.size) hb4
 have Hb4 : Hid (Below W2.heap.size W2 w4) := bstep Hb3.out hb4
 clear hb4 hown4 hgrow4 hat4 hlt4 hbv2 hov2 Ho3 Hb3 Hi3 q5 q6a
 have hk2 : w4.drew.heap[W1.heap.size]? = some (.cells #[.int .i64 0, .int .i64 0, .int .i64 0, .int .i64 0, .int .i64 0, .slice none 0 0, .slice none 0 0, .slice none 0 0, .slice none 0 0] 53 (0, 0)) := (Hb4.out.block _ (lt_heap HK2.out)).trans HK2.out
 have hk1 : w4.drew.heap[w.heap.size]? = some (.cells f.cs.toArray 28 (0, 0)) := by rw [hpc]; exact (Hb4.out.block _ (lt_heap HK1.out)).trans HK1.out
 have hcap3 : sn + 1 ≤ cap3 := by
  rcases HO3.out.2 with ⟨h1, _⟩ | ⟨g, cap, cur, hv, hB, hg, hnc, _⟩
  ·cases h1
  ·simp at hv; omega
 have hcap4 : hn + 1 ≤ cap4 := by
  rcases HO4.out.2 with ⟨h1, _⟩ | ⟨g, cap, cur, hv, hB, hg, hnc, _⟩
  ·cases h1
  ·simp at hv; omega
 have Hck : Hid (∀ V : World, V.heap[w.heap.size]? = some (.cells f.cs.toArray 28 (0, 0)) → V.cell? ⟨w.heap.size, 4, none⟩ = some (.int .i64 f.c.base) ∧ V.cell? ⟨w.heap.size, 5, none⟩ = some (.slice f.sa sn f.sc) ∧ V.cell? ⟨w.heap.size, 6, none⟩ = some (.slice f.ha hn f.hc) ∧ V.rangeAt w.heap.size 0 [.int .i64 f.c.id.e, .int .i64 f.c.id.l, .int .i64 f.c.id.i, .int .i64 f.c.id.c]) := fun V hV => ⟨blk_cell hV 4, by have := blk_cell hV 5; rw [this]; show some (Value.slice f.sa f.c.sl.length f.sc) = _; rw [Hsn.out], by have := blk_cell hV 6; rw [this]; show some (Value.slice f.ha f.c.hv.length f.hc) = _; rw [Hhn.out], id_range hV⟩
 have hne : w.heap.size ≠ W1.heap.size := blk_ne hk1 hk2 (by decide)
 have HD : Hid (w4.drew.there W1.heap.size 0 9) := blk_there hk2 rfl
 have hwx : ∀ L : List Value, L.length = 9 → (w4.drew.setCells W1.heap.size 0 L).heap[w.heap.size]? = some (.cells f.cs.toArray 28 (0, 0)) ∧ (w4.drew.setCells W1.heap.size 0 L).heap[W1.heap.size]? = some (.cells L.toArray 53 (0, 0)) ∧ Kept w4.drew (w4.drew.setCells W1.heap.size 0 L) (fun k => k = W1.heap.size) := fun L hL => ⟨(ksets (P := fun k => k = W1.heap.size) rfl _ _ _).obj hk1 hne, sets_whole hk2 (by rw [hL]; rfl), ksets (P := fun k => k = W1.heap.size) rfl _ _ _⟩
 have Hwx : Hid (∀ L : List Value, L.length = 9 → (w4.drew.setCells W1.heap.size 0 L).heap[w.heap.size]? = some (.cells f.cs.toArray 28 (0, 0)) ∧ (w4.drew.setCells W1.heap.size 0 L).heap[W1.heap.size]? = some (.cells L.toArray 53 (0, 0)) ∧ Kept w4.drew (w4.drew.setCells W1.heap.size 0 L) (fun k => k = W1.heap.size)) := hwx
 have Hrb2 : Hid (w4.drew.heap[W1.heap.size]? = some (.cells #[.int .i64 0, .int .i64 0, .int .i64 0, .int .i64 0, .int .i64 0, .slice none 0 0, .slice none 0 0, .slice none 0 0, .slice none 0 0] 53 (0, 0))) := hk2
 clear hwx hk2
 generalize hX : (⟨f.c, some ⟨g3, 0, none⟩, cap3, some ⟨g4, 0, none⟩, cap4⟩ : Fl) = X
 have HXt : Hid (X.tw = [.int .i64 f.c.id.e, .int .i64 f.c.id.l, .int .i64 f.c.id.i, .int .i64 f.c.id.c, .int .i64 f.c.base, .slice (some ⟨g3, 0, none⟩) sn cap3, .slice (some ⟨g4, 0, none⟩) hn cap4, .slice (some ⟨g3, 0, none⟩) (sn + 1) cap3, .slice (some ⟨g4, 0, none⟩) (hn + 1) cap4]) := (show X.tw = _ from by rw [← hX]; show [_, _, _, _, _, Value.slice (some ⟨g3, 0, none⟩) f.c.sl.length cap3, Value.slice (some ⟨g4, 0, none⟩) f.c.hv.length cap4, Value.slice (some ⟨g3, 0, none⟩) (f.c.sl.length + 1) cap3, Value.slice (some ⟨g4, 0, none⟩) (f.c.hv.length + 1) cap4] = _; rw [Hsn.out, Hhn.out])
 have HXo : Hid (TwOk w4 w.heap.size X f.c) := (show TwOk w4 w.heap.size X f.c from by
  refine ⟨by rw [← hX], ?_, ?_⟩
  ·rw [← hX, Hsn.out]; exact HO3.out
  ·rw [← hX, Hhn.out]; exact HO4.out)
 generalize hkb : w.heap.size = kb at *
 have Hkb : Hid (w.heap.size = kb) := hkb
 generalize hrb : W1.heap.size = rb at *
 clear hkb hrb hW1 hW2 hX HO3 HO4 hne
 have H2z : Hid (W2.heap.size ≤ w4.heap.size) := Hb4.out.size
 go_wp2_with (fail)
 refine wp_region_held_drew (S := (fun w' => w'.heap[kb]? = some (.cells f.cs.toArray 28 (0, 0)))) (by kernel_rfl) hk1 (fun hHeld => ?_)
 simp only [Act.put, List.size_toArray, List.length_cons, List.length_nil, Nat.zero_add]
 refine wG9 0 (.pointer (some ⟨kb, 0, none⟩)) rfl hHeld ?_
 simp only [Act.put,gA9,gZ9,gC9,sA9,sZ9,sC9]
 refine wpAnyH_take (i := 1) (v := .agg ([.int .i64 f.c.id.e, .int .i64 f.c.id.l, .int .i64 f.c.id.i, .int .i64 f.c.id.c]).toArray) rfl (by kernel_rfl) (by kernel_rfl) (by kernel_rfl) (fun _ _ _ h => h) (yieldsIf_load_mid (by rfl) 24 (.tmp 18) rfl kb (0) (by rfl) ([.int .i64 f.c.id.e, .int .i64 f.c.id.l, .int .i64 f.c.id.i, .int .i64 f.c.id.c]) _ (fun w' hS => (Hck.out w' hS).2.2.2) Try.underlying24 rfl info_id) hHeld ?_
 simp only [Act.put,gA9,gZ9,gC9,sA9,sZ9,sC9]
 refine wG9 2 (.pointer (some ⟨kb, 4, none⟩)) rfl hHeld ?_
 simp only [Act.put,gA9,gZ9,gC9,sA9,sZ9,sC9]
 refine wX9 3 (.int .i64 f.c.base) rfl (Or.inl ⟨by rfl, fun w' hS => by (obtain ⟨q4, q5, q6, qi⟩ := Hck.out w' hS; go_simp)⟩) hHeld ?_
 simp only [Act.put,gA9,gZ9,gC9,sA9,sZ9,sC9]
 refine wG9 4 (.slice (some ⟨g3, 0, none⟩) (sn + 1) cap3) rfl hHeld ?_
 simp only [Act.put,gA9,gZ9,gC9,sA9,sZ9,sC9]
 refine wG9 5 (.pointer (some ⟨kb, 5, none⟩)) rfl hHeld ?_
 simp only [Act.put,gA9,gZ9,gC9,sA9,sZ9,sC9]
 refine wX9 6 (.slice f.sa sn f.sc) rfl (Or.inl ⟨by rfl, fun w' hS => by (obtain ⟨q4, q5, q6, qi⟩ := Hck.out w' hS; go_simp)⟩) hHeld ?_
 simp only [Act.put,gA9,gZ9,gC9,sA9,sZ9,sC9]
 refine wG9 7 (.int .i64 (sn : Int)) rfl hHeld ?_
 simp only [Act.put,gA9,gZ9,gC9,sA9,sZ9,sC9]
 refine wX9 8 (.slice (some ⟨g3, 0, none⟩) sn cap3) rfl (Or.inl ⟨by rfl, fun w' hS => by first | (go_simp; done) | (go_simp; omega) | (go_simp; split <;> first | omega | (simp; omega)) | (go_simp; simp; omega)⟩) hHeld ?_
 simp only [Act.put,gA9,gZ9,gC9,sA9,sZ9,sC9]
 refine wG9 9 (.slice (some ⟨g4, 0, none⟩) (hn + 1) cap4) rfl hHeld ?_
 simp only [Act.put,gA9,gZ9,gC9,sA9,sZ9,sC9]
 refine wG9 10 (.pointer (some ⟨kb, 6, none⟩)) rfl hHeld ?_
 simp only [Act.put,gA9,gZ9,gC9,sA9,sZ9,sC9]
 refine wX9 11 (.slice f.ha hn f.hc) rfl (Or.inl ⟨by rfl, fun w' hS => by (obtain ⟨q4, q5, q6, qi⟩ := Hck.out w' hS; go_simp)⟩) hHeld ?_
 simp only [Act.put,gA9,gZ9,gC9,sA9,sZ9,sC9]
 refine wG9 12 (.int .i64 (hn : Int)) rfl hHeld ?_
 simp only [Act.put,gA9,gZ9,gC9,sA9,sZ9,sC9]
 refine wX9 13 (.slice (some ⟨g4, 0, none⟩) hn cap4) rfl (Or.inl ⟨by rfl, fun w' hS => by first | (go_simp; done) | (go_simp; omega) | (go_simp; split <;> first | omega | (simp; omega)) | (go_simp; simp; omega)⟩) hHeld ?_
 simp only [Act.put,gA9,gZ9,gC9,sA9,sZ9,sC9]
 refine wG9 14 (.agg #[.int .i64 f.c.id.e, .int .i64 f.c.id.l, .int .i64 f.c.id.i, .int .i64 f.c.id.c, .int .i64 f.c.base, .slice (some ⟨g3, 0, none⟩) sn cap3, .slice (some ⟨g4, 0, none⟩) hn cap4]) rfl hHeld ?_
 simp only [Act.put,gA9,gZ9,gC9,sA9,sZ9,sC9]
 refine wG9 15 (.slice (some ⟨g3, 0, none⟩) (sn + 1) cap3) rfl hHeld ?_
 simp only [Act.put,gA9,gZ9,gC9,sA9,sZ9,sC9]
 refine wG9 16 (.slice (some ⟨g4, 0, none⟩) (hn + 1) cap4) rfl hHeld ?_
 simp only [Act.put,gA9,gZ9,gC9,sA9,sZ9,sC9]
 refine wG9 17 (.agg #[.int .i64 f.c.id.e, .int .i64 f.c.id.l, .int .i64 f.c.id.i, .int .i64 f.c.id.c, .int .i64 f.c.base, .slice (some ⟨g3, 0, none⟩) sn cap3, .slice (some ⟨g4, 0, none⟩) hn cap4, .slice (some ⟨g3, 0, none⟩) (sn + 1) cap3, .slice (some ⟨g4, 0, none⟩) (hn + 1) cap4]) rfl hHeld ?_
 simp only [Act.put,gA9,gZ9,gC9,sA9,sZ9,sC9]
 obtain ⟨hx1, hx2, hx3⟩ := Hwx.out [.int .i64 f.c.id.e, .int .i64 f.c.id.l, .int .i64 f.c.id.i, .int .i64 f.c.id.c, .int .i64 f.c.base, .slice (some ⟨g3, 0, none⟩) sn cap3, .slice (some ⟨g4, 0, none⟩) hn cap4, .slice (some ⟨g3, 0, none⟩) (sn + 1) cap3, .slice (some ⟨g4, 0, none⟩) (hn + 1) cap4] rfl
 have Hr2 : Hid (w4.drew.heap[rb]? = some (.cells #[.int .i64 0, .int .i64 0, .int .i64 0, .int .i64 0, .int .i64 0, .slice none 0 0, .slice none 0 0, .slice none 0 0, .slice none 0 0] 53 (0, 0))) := Hrb2.out
 refine wpAnyH_ready (rs := [18]) (by kernel_rfl) (by simp) ?_
 refine AllReadyH.cons rfl (fun K hK => ?_) AllReadyH.nil
 rw [if_pos (by kernel_rfl)]
 refine op_store 53 (.tmp 2) (.tmp 35) (L := [.int .i64 f.c.id.e, .int .i64 f.c.id.l, .int .i64 f.c.id.i, .int .i64 f.c.id.c, .int .i64 f.c.base, .slice (some ⟨g3, 0, none⟩) sn cap3, .slice (some ⟨g4, 0, none⟩) hn cap4, .slice (some ⟨g3, 0, none⟩) (sn + 1) cap3, .slice (some ⟨g4, 0, none⟩) (hn + 1) cap4]) HD.out info_twin (by intro u hu; simp at hu; rcases hu with rfl | rfl | rfl | rfl | rfl | rfl | rfl | rfl | rfl <;> rfl) rfl rfl rfl ?_
 refine hK.out _ _ hx1 (fun hHeld => ?_)
 clear hK K
 try (simp only [Act.put,gA9,gZ9,gC9,sA9,sZ9,sC9])
 refine wpAnyH_done (by kernel_rfl) ?_ _
 clear hHeld
 go_wp2
 (try simp only [Exit.inBlock, Exit.then]); refine bodyPost_ret (res_twin rfl _ _ rb [.int .i64 f.c.id.e, .int .i64 f.c.id.l, .int .i64 f.c.id.i, .int .i64 f.c.id.c, .int .i64 f.c.base, .slice (some ⟨g3, 0, none⟩) sn cap3, .slice (some ⟨g4, 0, none⟩) hn cap4, .slice (some ⟨g3, 0, none⟩) (sn + 1) cap3, .slice (some ⟨g4, 0, none⟩) (hn + 1) cap4] rfl rfl (blk_range hx2)) rfl ?_
 refine ⟨X, by rw [HXt.out], ?_, ?_⟩
 ·rw [Hkb.out]
  refine TwOk.keep (w := w4.drew) (HXo.out.still (Below.refl _ _).drew) hx3 (fun g C hg e => ?_) (fun g C hg e => ?_)
  ·rw [e, Hr2.out] at hg; simp at hg
  ·rw [e, Hr2.out] at hg; simp at hg
 ·rw [Hkb.out]
  have h4 : Below kb w w4 := HB.out.trans (Hb4.out.mono HBz.out)
  exact h4.drew.trans (hx3.below (show kb ≤ w4.heap.size from by rw [← Hkb.out]; exact h4.size) (fun k hk e => by have := Hge.out; omega))
end
end Go.Proofs.Ytobaooebjgoaiaa.Fm
namespace Go.Proofs.Ytobaooebjgoaiaa.Hh
open Go.RowKit Go.Maps Mb
set_option linter.unusedVariables false
set_option linter.unusedSimpArgs false
set_option maxRecDepth 100000
open Go.Proofs.Ytobaooebjgoaiaa.Fm
section
variable {w w' w1 w2 w3 Z Y V : World} {B T s : Nat} {lb : Nat} {P : Nat → Prop}
def LTy (c : Nat) : Nat := if c = 0 then 3 else if c = 1 then 5 else 95
def LEt (c : Nat) : Nat := if c = 0 then 26 else if c = 1 then 92 else 29
def LSz (c : Nat) : Nat := if c = 2 then 4 else 1
def LOf (c : Nat) : Nat := if c = 2 then 1 else 0
def LPos (c : Nat) : Nat := if c = 0 then 0 else if c = 1 then 1 else 3
def tl (c j : Nat) : Value := if c = 1 then .int .u8 (200 + (j : Int) % 7) else .int .i64 (-700 - (j : Int))
structure Lt where
 r : Nat → Sl
 v : Nat → Nat → Sl
def Lt.cs (L : Lt) : Array Value := #[(L.r 0).v, (L.r 1).v, .slice none 0 0, (L.r 2).v]
structure Tl (w : World) (B c : Nat) (x : Sl) : Prop where
 out : ∃ n f, x.n = n + 64 ∧ n ≤ 100000000 ∧ w.ownsRow B (LTy c) (LSz c) x.v x.n (rv (x.n * LSz c) f) ∧ ∀ j, j < 64 → f ((n + j) * LSz c + LOf c) = tl c j
theorem lty_ne {c d : Nat} (hc : c < 3) (hd : d < 3) : LTy c ≠ LEt d ∧ LTy c ≠ 48 ∧ LEt c ≠ 48 ∧ (c ≠ d → LEt c ≠ LEt d) := by
 have h1 : c = 0 ∨ c = 1 ∨ c = 2 := by omega
 have h2 : d = 0 ∨ d = 1 ∨ d = 2 := by omega
 rcases h1 with rfl | rfl | rfl <;> rcases h2 with rfl | rfl | rfl <;> decide
structure Lt.Ok (L : Lt) (w : World) (B lb : Nat) : Prop where
 blk : w.heap[lb]? = some (.cells L.cs 48 (0, 0))
 ge : B ≤ lb
 row : ∀ c, c < 3 → w.ownsRow B (LEt c) 1 (L.r c).v (L.r c).n (rv (L.r c).n fun i => (L.v c i).v)
 fam : ∀ c, c < 3 → ∀ i, i < (L.r c).n → Tl w B c (L.v c i)
def Lt.own (L : Lt) (lb j : Nat) : Prop := j = lb ∨ ∃ c, c < 3 ∧ ((L.r c).v.ownBlock = some j ∨ ∃ i, i < (L.r c).n ∧ (L.v c i).v.ownBlock = some j)
section
variable {L : Lt}
theorem Tl.keep {c : Nat} {x : Sl} (h : Tl w B c x) (k : Kept w w' P) (hp : ∀ j, x.v.ownBlock = some j → ¬ P j) : Tl w' B c x := by
 obtain ⟨n, f, h1, h2, h3, h4⟩ := h.out
 exact ⟨n, f, h1, h2, k.owns h3 hp, h4⟩
theorem Lt.Ok.lt (h : L.Ok w B lb) {j : Nat} (hj : L.own lb j) : j < w.heap.size ∧ B ≤ j := by
 have aux : ∀ {t s n : Nat} {v : Value} {l : List Value}, w.ownsRow B t s v n l → v.ownBlock = some j → j < w.heap.size ∧ B ≤ j := fun ho hg => by
  obtain ⟨h1, c, h2⟩ := rowc ho hg; exact ⟨lt_heap h2, h1⟩
 rcases hj with rfl | ⟨c, hc, hj | ⟨i, hi, hj⟩⟩
 ·exact ⟨lt_heap h.blk, h.ge⟩
 ·exact aux (h.row c hc) hj
 ·obtain ⟨n, f, h1, h2, h3, h4⟩ := (h.fam c hc i hi).out
  exact aux h3 hj
theorem Lt.Ok.keep (h : L.Ok w B lb) (k : Kept w w' P) (hp : ∀ j, L.own lb j → ¬ P j) : L.Ok w' B lb :=
 ⟨k.obj h.blk (hp _ (.inl rfl)), h.ge, fun c hc => k.owns (h.row c hc) (fun j hj => hp j (.inr ⟨c, hc, .inl hj⟩)), fun c hc i hi => (h.fam c hc i hi).keep k (fun j hj => hp j (.inr ⟨c, hc, .inr ⟨i, hi, hj⟩⟩))⟩
theorem Lt.Ok.still (h : L.Ok w B lb) (hb : Below w.heap.size w w') : L.Ok w' B lb := h.keep (Kept.ofBelow hb (fun _ => False)) (fun _ _ => id)
theorem Lt.Ok.cell (h : L.Ok w B lb) {c : Nat} (hc : c < 3) : w.cell? ⟨lb, LPos c, none⟩ = some (.slice (L.r c).a (L.r c).n (L.r c).c) := by
 rw [blk_cell h.blk]
 have e : c = 0 ∨ c = 1 ∨ c = 2 := by omega
 rcases e with rfl | rfl | rfl <;> rfl
def Lt.add (L : Lt) (c : Nat) (y x : Sl) : Lt := ⟨upc L.r c y, upc L.v c (updS (L.v c) (L.r c).n x)⟩
theorem Lt.cs_add (L : Lt) {c : Nat} (hc : c < 3) (y x : Sl) : L.cs.setIfInBounds (LPos c) y.v = (L.add c y x).cs := by
 have e : c = 0 ∨ c = 1 ∨ c = 2 := by omega
 rcases e with rfl | rfl | rfl <;> rfl
theorem own_lb {t s n : Nat} {v : Value} {l : List Value} (h : w.ownsRow B t s v n l) {C : Array Value} (hk : w.heap[lb]? = some (.cells C 48 (0, 0))) (ht : t ≠ 48) : v.ownBlock ≠ some lb := fun e => by
 obtain ⟨cur, h2⟩ := row_ty h e
 rw [hk] at h2
 simp at h2
 exact ht h2.2.symm
theorem Lt.Ok.hbk {c n cc : Nat} {a : Option Addr} (h : L.Ok w B lb) (hc : c < 3) (hR : L.r c = ⟨a, n, cc⟩) (hk : Kept w w' (fun j => (Value.slice a n cc).ownBlock = some j)) : w'.heap[lb]? = some (.cells L.cs 48 (0, 0)) := by
 have h1 := h.row c hc
 rw [hR] at h1
 exact hk.obj h.blk (own_lb h1 h.blk (lty_ne hc hc).2.2.1)
theorem Lt.Ok.row' {c n cc : Nat} {a : Option Addr} (h : L.Ok w B lb) (hc : c < 3) (hR : L.r c = ⟨a, n, cc⟩) : w.ownsRow B (LEt c) 1 (.slice a n cc) n (rv n fun i => (L.v c i).v) := by
 have h1 := h.row c hc
 rw [hR] at h1
 exact h1
theorem Lt.Ok.add {c n cc c1 : Nat} {a a1 : Option Addr} {x : Sl} (h : L.Ok w B lb) (hc : c < 3) (hR : L.r c = ⟨a, n, cc⟩) (hx : Tl w B c x) (ho : w1.ownsRow B (LEt c) 1 (.slice a1 (n + 1) c1) (n + 1) (rv n (fun i => (L.v c i).v) ++ [x.v])) (hk : Kept w w1 (fun j => (Value.slice a n cc).ownBlock = some j)) (he : (Value.slice a1 (n + 1) c1).ownBlock = (Value.slice a n cc).ownBlock ∨ (Value.slice a1 (n + 1) c1).ownBlock = some w.heap.size) :
  (L.add c ⟨a1, n + 1, c1⟩ x).Ok (w1.setCell ⟨lb, LPos c, none⟩ (.slice a1 (n + 1) c1)) B lb ∧ Kept w (w1.setCell ⟨lb, LPos c, none⟩ (.slice a1 (n + 1) c1)) (L.own lb) ∧ ∀ j, (L.add c ⟨a1, n + 1, c1⟩ x).own lb j → L.own lb j ∨ w.heap.size ≤ j ∨ x.v.ownBlock = some j := by
 have hb1 := h.hbk hc hR hk
 have hr := h.row' hc hR
 have k2 : Kept w (w1.setCell ⟨lb, LPos c, none⟩ (.slice a1 (n + 1) c1)) (fun j => (Value.slice a n cc).ownBlock = some j ∨ j = lb) := (hk.mono fun _ _ h => .inl h).trans (kset w1 lb (LPos c) _ (.inr rfl))
 have ty : TyP w (fun j => (Value.slice a n cc).ownBlock = some j ∨ j = lb) (fun x => x = LEt c ∨ x = 48) := fun j hj => by
  rcases hj with hj | rfl
  ·obtain ⟨cur, h1⟩ := row_ty hr hj
   exact ⟨cur, _, .inl rfl, h1⟩
  ·exact ⟨L.cs, _, .inr rfl, h.blk⟩
 have kT : ∀ {d : Nat} {y : Sl}, d < 3 → Tl w B d y → Tl (w1.setCell ⟨lb, LPos c, none⟩ (.slice a1 (n + 1) c1)) B d y := fun hd hy => by
  obtain ⟨m, f, e1, e2, e3, e4⟩ := hy.out
  exact ⟨m, f, e1, e2, ty.keep e3 (by rintro (e | e); exact (lty_ne hd hc).1 e; exact (lty_ne hd hc).2.1 e) k2, e4⟩
 have en : (L.r c).n = n := by rw [hR]
 refine ⟨⟨blk_set hb1 (L.cs_add hc ⟨a1, n + 1, c1⟩ x), h.ge, fun d hd => ?_, fun d hd i hi => ?_⟩, k2.mono fun j _ hj => hj.elim (fun e => .inr ⟨c, hc, .inl (by rw [hR]; exact e)⟩) (fun e => .inl e), fun j hj => ?_⟩
 ·show World.ownsRow _ B (LEt d) 1 (upc L.r c ⟨a1, n + 1, c1⟩ d).v (upc L.r c ⟨a1, n + 1, c1⟩ d).n (rv (upc L.r c ⟨a1, n + 1, c1⟩ d).n fun i => (upc L.v c (updS (L.v c) (L.r c).n x) d i).v)
  by_cases e : d = c
  ·subst e
   rw [upc_at, upc_at, en]
   show World.ownsRow _ B (LEt d) 1 (Value.slice a1 (n + 1) c1) (n + 1) (rv (n + 1) fun i => (updS (L.v d) n x i).v)
   rw [rv_upd]
   exact own_set ho (own_lb ho hb1 (lty_ne hd hd).2.2.1)
  ·rw [upc_ne _ _ e, upc_ne _ _ e]
   exact ty.keep (h.row d hd) (by rintro (e2 | e2); exact (lty_ne hd hc).2.2.2 e e2; exact (lty_ne hd hd).2.2.1 e2) k2
 ·have hi : i < (upc L.r c ⟨a1, n + 1, c1⟩ d).n := hi
  show Tl _ B d (upc L.v c (updS (L.v c) (L.r c).n x) d i)
  by_cases e : d = c
  ·subst e
   rw [upc_at] at hi ⊢
   have hi : i < n + 1 := hi
   by_cases e2 : i = n
   ·subst e2
    rw [en, updS_same]
    exact kT hd hx
   ·rw [en, updS_ne _ _ e2]
    exact kT hd (h.fam d hd i (by omega))
  ·rw [upc_ne _ _ e] at hi ⊢
   exact kT hd (h.fam d hd i hi)
 ·rcases hj with hj | ⟨d, hd, hj | ⟨i, hi, hj⟩⟩
  ·exact .inl (.inl hj)
  ·have hj : (upc L.r c ⟨a1, n + 1, c1⟩ d).v.ownBlock = some j := hj
   by_cases e : d = c
   ·subst e
    rw [upc_at] at hj
    rcases he with h1 | h1
    ·exact .inl (.inr ⟨d, hd, .inl (by rw [hR]; exact h1 ▸ hj)⟩)
    ·have e2 : some w.heap.size = some j := h1 ▸ hj
     simp at e2
     exact .inr (.inl (by omega))
   ·rw [upc_ne _ _ e] at hj
    exact .inl (.inr ⟨d, hd, .inl hj⟩)
  ·have hi2 : i < (upc L.r c ⟨a1, n + 1, c1⟩ d).n := hi
   have hj2 : (upc L.v c (updS (L.v c) (L.r c).n x) d i).v.ownBlock = some j := hj
   clear hi hj
   by_cases e : d = c
   ·subst e
    rw [upc_at] at hj2 hi2
    have hi3 : i < n + 1 := hi2
    by_cases e2 : i = n
    ·subst e2
     rw [en, updS_same] at hj2
     exact .inr (.inr hj2)
    ·rw [en, updS_ne _ _ e2] at hj2
     exact .inl (.inr ⟨d, hd, .inr ⟨i, by omega, hj2⟩⟩)
   ·rw [upc_ne _ _ e] at hj2 hi2
    exact .inl (.inr ⟨d, hd, .inr ⟨i, hi2, hj2⟩⟩)
end
def tls (r : Nat) : List Value := rv r (tl 0)
theorem tls_snoc (r : Nat) : tls (r + 1) = tls r ++ [.int .i64 (-700 - (r : Int))] := rv_app r (tl 0)
theorem rv_get0 (xs : List Value) : xs = rv xs.length (fun i => xs.getD i undef) := by
 apply List.ext_getElem?
 intro i
 by_cases h : i < xs.length
 ·rw [rv_get _ h, List.getD, List.getElem?_eq_getElem h]
  rfl
 ·rw [List.getElem?_eq_none (by omega), List.getElem?_eq_none (by rw [rv_len]; omega)]
theorem tl_ints {a : Option Addr} {c : Nat} {who : List Int} (hw : who.length ≤ 100000000) (h : w.ownsRow B 3 1 (.slice a (who.length + 64) c) (who.length + 64) (ints who ++ tls 64)) : Tl w B 0 ⟨a, who.length + 64, c⟩ := by
 have e1 : (ints who ++ tls 64).length = who.length + 64 := by
  rw [List.length_append, ints_len, tls, rv_len]
 refine ⟨⟨who.length, fun i => (ints who ++ tls 64).getD i undef, rfl, hw, ?_, fun j hj => ?_⟩⟩
 ·have e2 := rv_get0 (ints who ++ tls 64)
  rw [e1] at e2
  show w.ownsRow B 3 1 (.slice a (who.length + 64) c) (who.length + 64) (rv ((who.length + 64) * 1) _)
  rw [Nat.mul_one, ← e2]
  exact h
 ·show (ints who ++ tls 64).getD ((who.length + j) * 1 + 0) undef = tl 0 j
  rw [Nat.mul_one, Nat.add_zero, List.getD, List.getElem?_append_right (by rw [ints_len]; omega), ints_len, Nat.add_sub_cancel_left, tls, rv_get _ hj]
  rfl
theorem rd_ints {a : Option Addr} {c : Nat} {who : List Int} (h : w.ownsRow B 3 1 (.slice a (who.length + 64) c) (who.length + 64) (ints who ++ tls 64)) : RdI w a who := by
 rcases h.2 with ⟨h1, h2⟩ | ⟨g, cap, cur, hv, _⟩
 ·omega
 ·simp only [Value.slice.injEq] at hv
  obtain ⟨rfl, -, rfl⟩ := hv
  refine .inr ⟨g, 0, rfl, fun i hi => ?_⟩
  have hi : i < who.length := by omega
  rw [Nat.zero_add, World.ownsRow.cellAt h i (by omega), List.getElem?_append_left (by rw [ints_len]; exact hi), Mb.ints_at who i hi]
end
end Go.Proofs.Ytobaooebjgoaiaa.Hh
namespace Go.Proofs.Ytobaooebjgoaiaa.Of
open Go.ChangeShapes Go.WideShapes Go.ChangeAt Go.RowKit Mb Fm
set_option linter.unusedVariables false
set_option linter.unusedSimpArgs false
set_option maxRecDepth 100000
section
variable {H : Type} {enc : TypeId × Value → H} {W : World}
theorem one_le (d : DataW H) : 1 ≤ Rows.uptoBulk d := by
 cases d with
 | lit l => cases l <;> simp [Rows.uptoBulk]
 | nil => simp [Rows.uptoBulk]
 | ptr d => simp [Rows.uptoBulk]
 | slice elems spare => simp [Rows.uptoBulk]
 | agg parts => simp [Rows.uptoBulk]
 | iface t d => simp [Rows.uptoBulk]
 | map entries => simp [Rows.uptoBulk]
 | held h => simp [Rows.uptoBulk]
theorem part_le {d : DataW H} {l : List (DataW H)} (h : d ∈ l) : Rows.uptoBulk d ≤ Rows.uptoBulkAll l := by
 induction l with
 | nil => cases h
 | cons x r ih =>
  simp only [Rows.uptoBulkAll]
  cases List.mem_cons.1 h with
  | inl e => subst e; omega
  | inr e => have := ih e; omega
theorem length_le (l : List (DataW H)) : l.length ≤ Rows.uptoBulkAll l := by
 induction l with
 | nil => simp [Rows.uptoBulkAll]
 | cons x r ih => have := one_le x; simp only [Rows.uptoBulkAll, List.length_cons]; omega
def Sm (d : DataW H) : Prop := Rows.uptoBulk d ≤ 1048576
theorem sm_agg {l : List (DataW H)} {d : DataW H} (h : Sm (.agg l : DataW H)) (hd : d ∈ l) : Sm d := by
 have := part_le hd
 unfold Sm at *
 simp only [Rows.uptoBulk] at h
 omega
theorem sm_slice {l r : List (DataW H)} (h : Sm (.slice l r : DataW H)) : l.length ≤ 1048576 ∧ ∀ d ∈ l, Sm d := by
 have h1 := length_le l
 unfold Sm at *
 simp only [Rows.uptoBulk] at h
 exact ⟨by omega, fun d hd => by have := part_le hd; omega⟩
theorem struct_parts {t : TypeId} {fs : Array Field} {fuel : Nat} {cs : List Value} {x : DataW H × List MemPlace} (ht : Try.prog.underlying t = some (.struct fs)) (h : DataW.trod enc Try.prog W 0 (fun _ => true) true fuel t cs = some x) (hw : Sm x.1) :
  ∃ (xs : List (DataW H × List MemPlace)) (n : Nat), xs.length = fs.size ∧ (∀ (i : Nat) (f : Field), fs[i]? = some f → DataW.trod enc Try.prog W 0 (fun _ => true) true n f.type ((cs.drop f.offset).take (Try.prog.cellsOf f.type)) = xs[i]?) ∧ ∀ (i : Nat) y, xs[i]? = some y → Sm y.1 := by
 obtain ⟨xs, n, _, hx, _, hl, hF⟩ := DataW.trod_struct ht h
 refine ⟨xs, n, hl, hF, fun i y hy => ?_⟩
 rw [hx] at hw
 exact sm_agg hw (List.mem_map.2 ⟨y, List.mem_of_getElem? hy, rfl⟩)
theorem slice_parts {t e : TypeId} {fuel k : Nat} {v : Value} {x : DataW H × List MemPlace} (ht : Try.prog.underlying t = some (.slice e)) (hc : Try.prog.cellsOf e = k) (hk : 0 < k) (h : DataW.trod enc Try.prog W 0 (fun _ => true) true fuel t [v] = some x) (hw : Sm x.1) :
  v = .slice none 0 0 ∨ ∃ (ad : Addr) (len cap n : Nat) (D : Nat → DataW H) (Pl : Nat → List MemPlace), v = .slice (some ad) len cap ∧ len ≤ 1048576 ∧ ∀ i, i < len → Sm (D i) ∧ ∃ cs', cs'.length = k ∧ (∀ j, j < k → W.cell? (ad.add (i * k + j)) = cs'[j]?) ∧ DataW.trod enc Try.prog W 0 (fun _ => true) true n e cs' = some (D i, Pl i) := by
 rcases Deep.open_slice ht h with ⟨hcs, _⟩ | ⟨a, len, cap, m, n, D, Pl, hcs, _, hl, _, hm, hx, hel⟩
 ·simp only [List.cons.injEq, and_true] at hcs
  exact .inl hcs
 ·simp only [List.cons.injEq, and_true] at hcs
  simp only [if_true] at hm
  have hx1 : x.1 = .slice ((List.range len).map D) ((List.range (m - len)).map fun j => D (len + j)) := by rw [hx]
  rw [hx1] at hw
  obtain ⟨h1, h2⟩ := sm_slice hw
  refine .inr ⟨a, len, cap, n, D, Pl, hcs, by simpa using h1, fun i hi => ⟨h2 _ (List.mem_map.2 ⟨i, List.mem_range.2 hi, rfl⟩), ?_⟩⟩
  obtain ⟨cs', h1, h2⟩ := hel i (by omega)
  rw [hc] at h1
  obtain ⟨_, hlen, hcell⟩ := World.cells?_some h1
  refine ⟨cs', hlen, fun j hj => ?_, h2⟩
  have := hcell j (by omega)
  rw [Addr.add_add] at this
  exact this
theorem open_i {fuel : Nat} {c : Value} {x : DataW H × List MemPlace} (h : DataW.trod enc Try.prog W 0 (fun _ => true) true fuel 3 [c] = some x) : ∃ v : Int, c = .int .i64 v ∧ i64B v := by
 obtain ⟨v, e, _, hw⟩ := DataW.trod_int Try.underlying3 h
 simp only [List.cons.injEq, and_true] at e
 refine ⟨v, e, ?_⟩
 have h2 : -9223372036854775808 ≤ v ∧ v ≤ 9223372036854775807 := by simpa [Lit.wf, IntKind.min, IntKind.max, IntKind.signed, IntKind.bits] using hw
 exact h2
theorem ad_plain {x : Addr} {v : Value} (h : W.cell? (x.add 0) = some v) : ∃ b off, x = ⟨b, off, none⟩ := by
 obtain ⟨b, off, spot⟩ := x
 have hspot : spot = none := by simpa [Addr.add] using World.cell?_spot h
 subst hspot
 exact ⟨b, off, rfl⟩
theorem cI : Try.prog.cellsOf 3 = 1 := by kernel_rfl
theorem cS : Try.prog.cellsOf 76 = 2 := by kernel_rfl
theorem cID : Try.prog.cellsOf 24 = 4 := by kernel_rfl
theorem cIs : Try.prog.cellsOf 26 = 1 := by kernel_rfl
theorem cSs : Try.prog.cellsOf 25 = 1 := by kernel_rfl
theorem cF : Try.prog.cellsOf 28 = 7 := by kernel_rfl
theorem cFs : Try.prog.cellsOf 22 = 1 := by kernel_rfl
theorem list2 {α : Type} {l : List α} (h : l.length = 2) : ∃ c0 c1, l = [c0, c1] := by
 match l, h with
 | [c0, c1], _ => exact ⟨c0, c1, rfl⟩
theorem list1 {α : Type} {l : List α} (h : l.length = 1) : ∃ c0, l = [c0] := by
 match l, h with
 | [c0], _ => exact ⟨c0, rfl⟩
theorem list4 {α : Type} {l : List α} (h : l.length = 4) : ∃ c0 c1 c2 c3, l = [c0, c1, c2, c3] := by
 match l, h with
 | [c0, c1, c2, c3], _ => exact ⟨c0, c1, c2, c3, rfl⟩
theorem list7 {α : Type} {l : List α} (h : l.length = 7) : ∃ c0 c1 c2 c3 c4 c5 c6, l = [c0, c1, c2, c3, c4, c5, c6] := by
 match l, h with
 | [c0, c1, c2, c3, c4, c5, c6], _ => exact ⟨c0, c1, c2, c3, c4, c5, c6, rfl⟩
theorem open_ints {fuel : Nat} {v : Value} {x : DataW H × List MemPlace} (h : DataW.trod enc Try.prog W 0 (fun _ => true) true fuel 26 [v] = some x) (hw : Sm x.1) : ∃ a xs c, v = .slice a (xs : List Int).length c ∧ RdI W a xs ∧ xs.length ≤ 1048576 ∧ (a = none → xs.length = 0 ∧ c = 0) := by
 rcases slice_parts Try.underlying26 cI (by decide) h hw with rfl | ⟨ad, len, cap, n, D, Pl, rfl, hb, hel⟩
 ·exact ⟨none, [], 0, rfl, .inl rfl, by simp, fun _ => ⟨rfl, rfl⟩⟩
 ·have each : ∀ i, ∃ y : Int, i < len → W.cell? (ad.add i) = some (.int .i64 y) := fun i => by
   by_cases hi : i < len
   ·obtain ⟨_, cs', hl, hcell, htr⟩ := hel i hi
    obtain ⟨c0, rfl⟩ := list1 hl
    obtain ⟨y, rfl, _⟩ := open_i htr
    exact ⟨y, fun _ => by have := hcell 0 (by decide); simpa using this⟩
   ·exact ⟨0, fun h => absurd h hi⟩
  obtain ⟨f, hf⟩ := Classical.axiomOfChoice each
  have hl : ((List.range len).map f).length = len := by simp
  refine ⟨some ad, (List.range len).map f, cap, by rw [hl], ?_, by rw [hl]; exact hb, fun h => by cases h⟩
  unfold RdI Row
  rw [hl]
  by_cases h0 : len = 0
  ·exact .inl h0
  ·obtain ⟨b, off, rfl⟩ := ad_plain (hf 0 (by omega))
   refine .inr ⟨b, off, rfl, fun i hi => ?_⟩
   have := hf i (by omega)
   rw [Addr.add_lit] at this
   rw [this]
   simp [List.getD, show i < len by omega]
theorem open_slots {fuel : Nat} {v : Value} {x : DataW H × List MemPlace} (h : DataW.trod enc Try.prog W 0 (fun _ => true) true fuel 25 [v] = some x) (hw : Sm x.1) : ∃ a ss c, v = .slice a (ss : List (Int × Int)).length c ∧ RdS W a ss ∧ ss.length ≤ 1048576 ∧ (a = none → ss.length = 0 ∧ c = 0) ∧ ∀ i, i < ss.length → i64B (ss.getD i z2).1 ∧ i64B (ss.getD i z2).2 := by
 rcases slice_parts Try.underlying25 cS (by decide) h hw with rfl | ⟨ad, len, cap, n, D, Pl, rfl, hb, hel⟩
 ·exact ⟨none, [], 0, rfl, .inl rfl, by simp, fun _ => ⟨rfl, rfl⟩, fun i hi => by simp at hi⟩
 ·have each : ∀ i, ∃ y : Int × Int, i < len → W.cell? (ad.add (i * 2)) = some (.int .i64 y.1) ∧ W.cell? (ad.add (i * 2 + 1)) = some (.int .i64 y.2) ∧ i64B y.1 ∧ i64B y.2 := fun i => by
   by_cases hi : i < len
   ·obtain ⟨hs, cs', hl, hcell, htr⟩ := hel i hi
    obtain ⟨c0, c1, rfl⟩ := list2 hl
    obtain ⟨xs, n', hxl, hF, _⟩ := struct_parts Try.underlying76 htr hs
    obtain ⟨y0, y1, rfl⟩ := list2 hxl
    have h0 : DataW.trod enc Try.prog W 0 (fun _ => true) true n' 3 [c0] = some y0 := by simpa [cI] using hF 0 _ rfl
    have h1 : DataW.trod enc Try.prog W 0 (fun _ => true) true n' 3 [c1] = some y1 := by simpa [cI] using hF 1 _ rfl
    obtain ⟨a0, rfl, r0⟩ := open_i h0
    obtain ⟨a1, rfl, r1⟩ := open_i h1
    exact ⟨(a0, a1), fun _ => ⟨by have := hcell 0 (by decide); simpa using this, by have := hcell 1 (by decide); simpa using this, r0, r1⟩⟩
   ·exact ⟨z2, fun h => absurd h hi⟩
  obtain ⟨f, hf⟩ := Classical.axiomOfChoice each
  have hl : ((List.range len).map f).length = len := by simp
  have hg : ∀ i, i < len → ((List.range len).map f).getD i z2 = f i := fun i hi => by simp [List.getD, hi]
  refine ⟨some ad, (List.range len).map f, cap, by rw [hl], ?_, by rw [hl]; exact hb, (fun h => by cases h), fun i hi => by rw [hl] at hi; rw [hg i hi]; exact (hf i hi).2.2⟩
  unfold RdS Row
  rw [hl]
  by_cases h0 : len = 0
  ·exact .inl h0
  ·obtain ⟨b, off, rfl⟩ := ad_plain (by simpa using (hf 0 (by omega)).1)
   refine .inr ⟨b, off, rfl, fun i hi => ?_⟩
   have h2 := hf (i / 2) (by omega)
   unfold slotC
   rw [hg _ (by omega)]
   rcases Nat.mod_two_eq_zero_or_one i with e | e
   ·have h3 := h2.1
    rw [show i / 2 * 2 = i by omega, Addr.add_lit] at h3
    rw [h3, e]
    rfl
   ·have h3 := h2.2.1
    rw [show i / 2 * 2 + 1 = i by omega, Addr.add_lit] at h3
    rw [h3, e]
    rfl
theorem open_flush {n : Nat} {c0 c1 c2 c3 c4 c5 c6 : Value} {x : DataW H × List MemPlace} (h : DataW.trod enc Try.prog W 0 (fun _ => true) true n 28 [c0, c1, c2, c3, c4, c5, c6] = some x) (hw : Sm x.1) : ∃ f : Fl, f.cs = [c0, c1, c2, c3, c4, c5, c6] ∧ f.In W := by
 obtain ⟨xs, n', hxl, hF, hS⟩ := struct_parts Try.underlying28 h hw
 obtain ⟨y0, y1, y2, y3, rfl⟩ := list4 hxl
 have h0 : DataW.trod enc Try.prog W 0 (fun _ => true) true n' 24 [c0, c1, c2, c3] = some y0 := by simpa [cI, cIs, cSs, cID] using hF 0 _ rfl
 have h1 : DataW.trod enc Try.prog W 0 (fun _ => true) true n' 3 [c4] = some y1 := by simpa [cI, cIs, cSs, cID] using hF 1 _ rfl
 have h2 : DataW.trod enc Try.prog W 0 (fun _ => true) true n' 25 [c5] = some y2 := by simpa [cI, cIs, cSs, cID] using hF 2 _ rfl
 have h3 : DataW.trod enc Try.prog W 0 (fun _ => true) true n' 26 [c6] = some y3 := by simpa [cI, cIs, cSs, cID] using hF 3 _ rfl
 obtain ⟨xs2, n2, hxl2, hF2, _⟩ := struct_parts Try.underlying24 h0 (hS 0 _ rfl)
 obtain ⟨z0, z1, z2', z3, rfl⟩ := list4 hxl2
 have k0 : DataW.trod enc Try.prog W 0 (fun _ => true) true n2 3 [c0] = some z0 := by simpa [cI] using hF2 0 _ rfl
 have k1 : DataW.trod enc Try.prog W 0 (fun _ => true) true n2 3 [c1] = some z1 := by simpa [cI] using hF2 1 _ rfl
 have k2 : DataW.trod enc Try.prog W 0 (fun _ => true) true n2 3 [c2] = some z2' := by simpa [cI] using hF2 2 _ rfl
 have k3 : DataW.trod enc Try.prog W 0 (fun _ => true) true n2 3 [c3] = some z3 := by simpa [cI] using hF2 3 _ rfl
 obtain ⟨e, rfl, _⟩ := open_i k0
 obtain ⟨l, rfl, _⟩ := open_i k1
 obtain ⟨i, rfl, _⟩ := open_i k2
 obtain ⟨c, rfl, _⟩ := open_i k3
 obtain ⟨bs, rfl, hbs⟩ := open_i h1
 obtain ⟨sa, ss, sc, rfl, rs, ls, zs, gs⟩ := open_slots h2 (hS 2 _ rfl)
 obtain ⟨ha, hs, hc, rfl, ri, li, zi⟩ := open_ints h3 (hS 3 _ rfl)
 exact ⟨⟨⟨⟨e, l, i, c⟩, bs, ss, hs⟩, sa, sc, ha, hc⟩, rfl, ⟨rs, ri, gs, hbs, by show ss.length ≤ _; omega, by show hs.length ≤ _; omega⟩, zs, zi, ls, li⟩
theorem open_flushes {fuel : Nat} {v : Value} {x : DataW H × List MemPlace} (h : DataW.trod enc Try.prog W 0 (fun _ => true) true fuel 22 [v] = some x) (hw : Sm x.1) : ∃ a fs c, v = .slice a (fs : List Fl).length c ∧ RdFs W a fs ∧ fs.length ≤ 1048576 ∧ ∀ k, k < fs.length → (fs.getD k fl0).In W := by
 rcases slice_parts Try.underlying22 cF (by decide) h hw with rfl | ⟨ad, len, cap, n, D, Pl, rfl, hb, hel⟩
 ·exact ⟨none, [], 0, rfl, ⟨.inl rfl, fun i hi => by simp at hi⟩, by simp, fun k hk => by simp at hk⟩
 ·have each : ∀ i, ∃ f : Fl, i < len → (∀ j, j < 7 → W.cell? (ad.add (i * 7 + j)) = f.cs[j]?) ∧ f.In W := fun i => by
   by_cases hi : i < len
   ·obtain ⟨hs, cs', hl, hcell, htr⟩ := hel i hi
    obtain ⟨c0, c1, c2, c3, c4, c5, c6, rfl⟩ := list7 hl
    obtain ⟨f, hf, hin⟩ := open_flush htr hs
    exact ⟨f, fun _ => ⟨fun j hj => by rw [hf]; exact hcell j hj, hin⟩⟩
   ·exact ⟨fl0, fun h => absurd h hi⟩
  obtain ⟨f, hf⟩ := Classical.axiomOfChoice each
  have hl : ((List.range len).map f).length = len := by simp
  have hg : ∀ i, i < len → ((List.range len).map f).getD i fl0 = f i := fun i hi => by simp [List.getD, hi]
  refine ⟨some ad, (List.range len).map f, cap, by rw [hl], ⟨?_, fun i hi => ?_⟩, by rw [hl]; exact hb, fun k hk => ?_⟩
  ·unfold Row
   rw [hl]
   by_cases h0 : len = 0
   ·exact .inl h0
   ·obtain ⟨b, off, rfl⟩ := ad_plain (v := .int .i64 (f 0).c.id.e) (by have := (hf 0 (by omega)).1 0 (by decide); simp only [Nat.zero_mul, Nat.zero_add] at this; exact this)
    refine .inr ⟨b, off, rfl, fun i hi => ?_⟩
    have h3 := (hf (i / 7) (by omega)).1 (i % 7) (by omega)
    rw [show i / 7 * 7 + i % 7 = i by omega, Addr.add_lit] at h3
    unfold flC
    rw [hg _ (by omega), h3, List.getD]
    rw [List.getElem?_eq_getElem (by rw [Fl.cs_len]; omega)]
    rfl
  ·rw [hl] at hi
   rw [hg i hi]
   exact (hf i hi).2.rd
  ·rw [hl] at hk
   rw [hg k hk]
   exact (hf k hk).2
end
end Go.Proofs.Ytobaooebjgoaiaa.Of
