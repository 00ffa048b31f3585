import Derived.Test.YtobaooebjgoaiaaV24
import Derived.Test.YtobaooebjgoaiaaV17
import Derived.Maps.AppendAt
import Derived.Laws.AppendOwnNone
import Derived.Deep.DeepCutAuto
import Derived.Great.Walk
namespace Go.Proofs.Ytobaooebjgoaiaa.Fm
open Go.RowKit Go.Maps Mb
set_option linter.unusedVariables false
set_option maxRecDepth 100000
set_option linter.unusedSimpArgs false
section
variable {w w' W : World} {B : Nat}
def twCells (xs : List Fl) : List Value := xs.flatMap Fl.tw
def flCells (xs : List Fl) : List Value := xs.flatMap Fl.cs
theorem twCells_app (xs : List Fl) (x : Fl) : twCells (xs ++ [x]) = twCells xs ++ x.tw := by simp [twCells]
theorem flCells_app (xs : List Fl) (x : Fl) : flCells (xs ++ [x]) = flCells xs ++ x.cs := by simp [flCells]
theorem twCells_at (xs : List Fl) (i : Nat) (hi : i < xs.length * 9) : (twCells xs)[i]? = some (twC xs i) := by
 induction xs generalizing i with
 | nil => simp at hi
 | cons x xs ih =>
  have hl : x.tw.length = 9 := rfl
  simp only [twCells, List.flatMap_cons]
  by_cases h : i < 9
  ·rw [List.getElem?_append_left (by rw [hl]; exact h)]
   unfold twC
   rw [show i / 9 = 0 by omega, show i % 9 = i by omega]
   simp [List.getD, List.getElem?_eq_getElem (show i < x.tw.length by rw [hl]; exact h)]
  ·rw [List.getElem?_append_right (by rw [hl]; omega), hl]
   have := ih (i - 9) (by simp at hi; omega)
   rw [show List.flatMap Fl.tw xs = twCells xs from rfl, this]
   unfold twC
   rw [show i / 9 = (i - 9) / 9 + 1 by omega, show i % 9 = (i - 9) % 9 by omega]
   simp
theorem flCells_at (xs : List Fl) (i : Nat) (hi : i < xs.length * 7) : (flCells xs)[i]? = some (flC xs i) := by
 induction xs generalizing i with
 | nil => simp at hi
 | cons x xs ih =>
  have hl : x.cs.length = 7 := rfl
  simp only [flCells, List.flatMap_cons]
  by_cases h : i < 7
  ·rw [List.getElem?_append_left (by rw [hl]; exact h)]
   unfold flC
   rw [show i / 7 = 0 by omega, show i % 7 = i by omega]
   simp [List.getD, List.getElem?_eq_getElem (show i < x.cs.length by rw [hl]; exact h)]
  ·rw [List.getElem?_append_right (by rw [hl]; omega), hl]
   have := ih (i - 7) (by simp at hi; omega)
   rw [show List.flatMap Fl.cs xs = flCells xs from rfl, this]
   unfold flC
   rw [show i / 7 = (i - 7) / 7 + 1 by omega, show i % 7 = (i - 7) % 7 by omega]
   simp
theorem own_row {B t k n c : Nat} {a : Option Addr} {l : List Value} {f : Nat → Value} (h : w.ownsRow B t k (.slice a n c) n l) (hf : ∀ i, i < n * k → l[i]? = some (f i)) : Row w a n k f := by
 by_cases h0 : n = 0
 ·exact .inl h0
 ·rcases h.2 with ⟨h1, h2⟩ | ⟨g, cap, cur, hv, hB, hg, hnc, hcm, hcs, htk⟩
  ·omega
  ·simp at hv
   refine .inr ⟨g, 0, hv.1, fun i hi => ?_⟩
   rw [Nat.zero_add, blk_cell hg i]
   have e1 : (cur.toList.take (n * k))[i]? = l[i]? := by rw [htk]
   rw [List.getElem?_take_of_lt hi] at e1
   rw [← Array.getElem?_toList, e1, hf i hi]
theorem twin_info : ∃ i : TypeInfo, Try.prog.info? 53 = some i ∧ i.zero = some (.agg #[.int .i64 0, .int .i64 0, .int .i64 0, .int .i64 0, .int .i64 0, .slice none 0 0, .slice none 0 0, .slice none 0 0, .slice none 0 0]) ∧ i.size = 9 ∧ i.bytes = 136 := by
 have h : (Try.prog.info? 53).map (fun i => (i.zero, i.size, i.bytes)) = some (some (.agg #[.int .i64 0, .int .i64 0, .int .i64 0, .int .i64 0, .int .i64 0, .slice none 0 0, .slice none 0 0, .slice none 0 0, .slice none 0 0]), 9, 136) := by kernel_rfl
 cases hq : Try.prog.info? 53 with
 | none => rw [hq] at h; cases h
 | some i => rw [hq] at h; simp at h; exact ⟨i, rfl, h.1, h.2.1, h.2.2⟩
theorem flush_info : ∃ i : TypeInfo, Try.prog.info? 28 = some i ∧ i.zero = some (.agg #[.int .i64 0, .int .i64 0, .int .i64 0, .int .i64 0, .int .i64 0, .slice none 0 0, .slice none 0 0]) ∧ i.size = 7 ∧ i.bytes = 88 := by
 have h : (Try.prog.info? 28).map (fun i => (i.zero, i.size, i.bytes)) = some (some (.agg #[.int .i64 0, .int .i64 0, .int .i64 0, .int .i64 0, .int .i64 0, .slice none 0 0, .slice none 0 0]), 7, 88) := by kernel_rfl
 cases hq : Try.prog.info? 28 with
 | none => rw [hq] at h; cases h
 | some i => rw [hq] at h; simp at h; exact ⟨i, rfl, h.1, h.2.1, h.2.2⟩
structure Twl (w0 w : World) (c : Nat) (tv iv : Value) (xs fs : List Fl) : Prop where
 len : xs.length = c
 t : w.ownsRow w0.heap.size 53 9 tv c (twCells xs)
 i : w.ownsRow w0.heap.size 28 7 iv c (flCells xs)
 ok : ∀ k, k < c → TwOk w w0.heap.size (xs.getD k fl0) (fs.getD k fl0).c
 b : Below w0.heap.size w0 w
section
variable {w0 : World} {c : Nat} {tv iv : Value} {xs fs : List Fl}
theorem Twl.still (h : Twl w0 w c tv iv xs fs) (hb : Below w.heap.size w w') : Twl w0 w' c tv iv xs fs := ⟨h.len, own_still h.t hb, own_still h.i hb, fun k hk => (h.ok k hk).still hb, bstep h.b hb⟩
theorem twok_grow {x : Fl} {d : Co} {t k n : Nat} {v : Value} {l : List Value} {B' : Nat} (h : TwOk w B x d) (ho : w.ownsRow B' t k v n l) (hg : w.grownBy w' v.ownBlock) (h1 : t ≠ 76) (h2 : t ≠ 3) : TwOk w' B x d := by
 refine h.keep (Kept.ofGrown hg) (fun g C hC e => ?_) (fun g C hC e => ?_)
 ·obtain ⟨_, cur, hc⟩ := row_cells ho e.symm
  rw [hC] at hc
  simp at hc
  exact h1 hc.2.symm
 ·obtain ⟨_, cur, hc⟩ := row_cells ho e.symm
  rw [hC] at hc
  simp at hc
  exact h2 hc.2.symm
theorem own_grow {t k n t' k' n' : Nat} {v v' : Value} {l l' : List Value} {B B' : Nat} (h : w.ownsRow B t k v n l) (ho : w.ownsRow B' t' k' v' n' l') (hg : w.grownBy w' v'.ownBlock) (hne : t ≠ t') : w'.ownsRow B t k v n l := by
 refine (Kept.ofGrown hg).owns h fun g hg2 e => ?_
 obtain ⟨_, c1, h1⟩ := row_cells h hg2
 obtain ⟨_, c2, h2⟩ := row_cells ho e.symm
 rw [h1] at h2
 simp at h2
 exact hne h2.2
theorem Twl.app1 (h : Twl w0 w c tv iv xs fs) {v7 : Nat} {x : Fl} {d : Co} (hv7 : w.heap[v7]? = some (.cells x.tw.toArray 53 (0, 0))) (hlt : ∀ k, tv.ownBlock = some k → k < v7) (hx : TwOk w w0.heap.size x d) {ob : Obj} {w3 : World} (hg : (w.alloc ob).grownBy w3 tv.ownBlock) :
  w3.ownsRow w0.heap.size 28 7 iv c (flCells xs) ∧ (∀ k, k < c → TwOk w3 w0.heap.size (xs.getD k fl0) (fs.getD k fl0).c) ∧ Below w0.heap.size w0 w3 ∧ w3.heap[v7]? = some (.cells x.tw.toArray 53 (0, 0)) ∧ TwOk w3 w0.heap.size x d := by
 have hb : Below w.heap.size w (w.alloc ob) := balloc (Below.refl _ _)
 have h1 := h.still hb
 refine ⟨own_grow h1.i h1.t hg (by decide), fun k hk => twok_grow (h1.ok k hk) h1.t hg (by decide) (by decide), h1.b.grown hg h1.b.size (fun k hk => (row_cells h1.t hk).1), ?_, twok_grow (hx.still hb) h1.t hg (by decide) (by decide)⟩
 exact (Kept.ofGrown hg).obj ((hb.block _ (lt_heap hv7)).trans hv7) (fun e => by have := hlt v7 e.symm; omega)
theorem Twl.app2 {w3 w4 : World} {ob : Obj} {tv2 iv2 : Value} {x : Fl} (hl : xs.length = c) (hi : w3.ownsRow w0.heap.size 28 7 iv c (flCells xs)) (hk : ∀ k, k < c → TwOk w3 w0.heap.size (xs.getD k fl0) (fs.getD k fl0).c) (hb : Below w0.heap.size w0 w3) (hx : TwOk w3 w0.heap.size x (fs.getD c fl0).c) (ht : w3.ownsRow w0.heap.size 53 9 tv2 (c + 1) (twCells xs ++ x.tw)) (hg : (w3.alloc ob).grownBy w4 iv.ownBlock) (hi2 : w4.ownsRow w0.heap.size 28 7 iv2 (c + 1) (flCells xs ++ x.cs)) : Twl w0 w4 (c + 1) tv2 iv2 (xs ++ [x]) fs := by
 have hbb : Below w3.heap.size w3 (w3.alloc ob) := balloc (Below.refl _ _)
 have hi' := own_still hi hbb
 refine ⟨by simp [hl], ?_, ?_, fun k hk2 => ?_, (bstep hb hbb).grown hg (bstep hb hbb).size (fun k hk => (row_cells hi' hk).1)⟩
 ·rw [twCells_app]; exact own_grow (own_still ht hbb) hi' hg (by decide)
 ·rw [flCells_app]; exact hi2
 ·by_cases e : k = c
  ·subst e
   have : (xs ++ [x]).getD k fl0 = x := by simp [List.getD, hl]
   rw [this]
   exact twok_grow (hx.still hbb) hi' hg (by decide) (by decide)
  ·have : (xs ++ [x]).getD k fl0 = xs.getD k fl0 := by simp [List.getD, List.getElem?_append, show k < xs.length by omega]
   rw [this]
   exact twok_grow ((hk k (by omega)).still hbb) hi' hg (by decide) (by decide)
end
set_option maxHeartbeats 8000000 in
theorem twins_all {ao : Option Addr} {cp : Nat} {fs : List Fl} (hr : RdFs w ao fs) (hi : ∀ k, k < fs.length → (fs.getD k fl0).In w) (hn : fs.length ≤ 1048576) : Calls Try.prog 7 #[.slice ao fs.length cp] w fun e w' => ∃ ta tc ia ic xs, e = .returned (.tuple #[.slice ta xs.length tc, .slice ia xs.length ic]) ∧ Twl w w' xs.length (.slice ta xs.length tc) (.slice ia xs.length ic) xs fs ∧ xs.length = fs.length ∧ xs.length ≤ ic ∧ ic ≤ 9223372036854775807 := by
 have HR : Hid (RdFs w ao fs) := hr
 have HI : Hid (∀ k, k < fs.length → (fs.getD k fl0).In w) := hi
 generalize hL : fs.length = L at *
 have HLe : Hid (fs.length = L) := hL
 obtain ⟨si, shi, shz0, shz1, shz2⟩ := twin_info
 obtain ⟨ii, ihi, ihz0, ihz1, ihz2⟩ := flush_info
 clear hr hi hL
 generalize hW0 : w.alloc (.cells #[] 28) = W0
 have HT0 : Hid (Twl w W0 0 (.slice none 0 0) (.slice (some ⟨w.heap.size, 0, none⟩) 0 0) [] fs) := ⟨rfl, ⟨rfl, .inl ⟨rfl, rfl⟩⟩, hW0 ▸ World.ownsRow_made w #[] 0 (by omega) (Nat.zero_le _) (by simp), fun k hk => by omega, hW0 ▸ balloc (Below.refl _ _)⟩
 go_enter Try.func7, Try.ntmps7
 go_wp2
 clear hW0
 go_loopw [4, 5, 6] (fun tv iv i wr => ∃ c : Nat, ∃ xs, c ≤ L ∧ i = .int .i64 c ∧ Twl w wr c tv iv xs fs) (fun _ _ i _ => L - (intOf i).toNat)
 case atStart => exact ⟨0, [], Nat.zero_le _, rfl, HT0.out⟩
 case round =>
  obtain ⟨c, xs, hc, rfl, ht⟩ := hrel
  have HT : Hid (Twl w wr c u4 u5 xs fs) := ht
  clear ht HT0
  by_cases hlt : c < L
  ·have hrw := HR.out.still HT.out.b
   obtain ⟨b, off, rfl, hcc⟩ := hrw.at (i := c) (by rw [HLe.out]; exact hlt)
   have HC : Hid (wr.rangeAt b (off + c * 7) (fs.getD c fl0).cs) := hcc
   have HM := twin_any ((HI.out c hlt).still HT.out.b)
   clear hrw hcc
   have i1 : (0 : Int) ≤ (c : Int) := Int.natCast_nonneg _
   have i2 : (c : Int) < (L : Int) := by omega
   generalize hf : fs.getD c fl0 = f at HC HM
   have Hf : Hid (fs.getD c fl0 = f) := hf
   clear hf
   have Hl7 : Hid (f.cs.length = 7) := rfl
   go_wp2_with (first
    | (refine load_mid 28 (.tmp 17) HC.out _ Try.underlying28 rfl (by rw [Hl7.out]; exact info_flush) rfl rfl rfl ?_)
    | (go_at_call 8; refine HM.mono ?_; rintro e V ⟨x, rfl, hx, hbv⟩)
    | (refine wl_st 53 (.tmp 7) (.tmp 19) rfl ?_)
    | fail)
   have HX : Hid (TwOk V w.heap.size x f.c) := ⟨hx.ce, own_lower hx.s HT.out.b.size, own_lower hx.h HT.out.b.size⟩
   have HT2 : Hid (Twl w V c u4 u5 xs fs) := HT.out.still hbv
   have HoT : Hid (∀ k, u4.ownBlock = some k → k < V.heap.size) := fun k hk => (World.ownsRow.lt HT2.out.t k hk).2
   clear hx hbv HM HT HC
   refine wl_store 53 (.tmp 7) (.tmp 19) (L := x.tw) (new_there _ _ _ rfl) info_twin (tw_one _) rfl rfl rfl (by kernel_rfl) ?_
   simp only [Act.put,gA9,gZ9,gC9,sA9,sZ9,sC9]
   refine ⟨?_⟩
   obtain ⟨hn1, hn2⟩ := newvar V 53 #[.int .i64 0, .int .i64 0, .int .i64 0, .int .i64 0, .int .i64 0, .slice none 0 0, .slice none 0 0, .slice none 0 0, .slice none 0 0] (x.tw) rfl
   have HT2n : Hid (Twl w ((V.alloc (.cells #[.int .i64 0, .int .i64 0, .int .i64 0, .int .i64 0, .int .i64 0, .slice none 0 0, .slice none 0 0, .slice none 0 0, .slice none 0 0] 53)).setCells V.heap.size 0 (x.tw)) c u4 u5 xs fs) := HT2.out.still hn1
   have HXn : Hid (TwOk ((V.alloc (.cells #[.int .i64 0, .int .i64 0, .int .i64 0, .int .i64 0, .int .i64 0, .slice none 0 0, .slice none 0 0, .slice none 0 0, .slice none 0 0] 53)).setCells V.heap.size 0 (x.tw)) w.heap.size x f.c) := HX.out.still hn1
   have Hv7 : Hid (((V.alloc (.cells #[.int .i64 0, .int .i64 0, .int .i64 0, .int .i64 0, .int .i64 0, .slice none 0 0, .slice none 0 0, .slice none 0 0, .slice none 0 0] 53)).setCells V.heap.size 0 (x.tw)).heap[V.heap.size]? = some (.cells (x.tw).toArray 53 (0, 0))) := hn2
   have Hn1 : Hid (Below V.heap.size V ((V.alloc (.cells #[.int .i64 0, .int .i64 0, .int .i64 0, .int .i64 0, .int .i64 0, .slice none 0 0, .slice none 0 0, .slice none 0 0, .slice none 0 0] 53)).setCells V.heap.size 0 (x.tw))) := hn1
   clear hn1 hn2 HT2 HX
   generalize (V.alloc (.cells #[.int .i64 0, .int .i64 0, .int .i64 0, .int .i64 0, .int .i64 0, .slice none 0 0, .slice none 0 0, .slice none 0 0, .slice none 0 0] 53)).setCells V.heap.size 0 (x.tw) = V2 at *
   generalize hvb : V.heap.size = v7 at *
   have Hvbv7 : Hid (V.heap.size = v7) := hvb
   clear hvb
   have HT2 := HT2n
   clear HT2n
   have HX := HXn
   clear HXn
   have Hx9 : Hid (x.tw.length = 9) := rfl
   have Hx7 : Hid (x.cs.length = 7) := rfl
   have HX1 : Hid (∀ u ∈ x.tw, u.oneCell' = true) := tw_one x
   have HX2 : Hid (∀ u ∈ x.cs, u.oneCell' = true) := flcs_one x
   have Hpre : Hid (∀ (W : World) (g : Nat), W.heap[g]? = some (.cells x.tw.toArray 53 (0, 0)) → W.rangeAt g 0 x.cs) := fun W g hg j v hv => blk_range hg j v (by
    have hj : j < 7 := (List.getElem?_eq_some_iff.1 hv).1
    unfold Fl.tw
    rw [List.getElem?_append_left (by rw [Fl.cs_len]; exact hj)]
    exact hv)
   have R9 : Hid (V2.rangeAt v7 0 [.int .i64 x.c.id.e, .int .i64 x.c.id.l, .int .i64 x.c.id.i, .int .i64 x.c.id.c, .int .i64 x.c.base, .slice x.sa x.c.sl.length x.sc, .slice x.ha x.c.hv.length x.hc, .slice x.sa (x.c.sl.length + 1) x.sc, .slice x.ha (x.c.hv.length + 1) x.hc]) := blk_range Hv7.out
   have hgeV : w.heap.size ≤ V2.heap.size := HT2.out.b.size
   have HlX : Hid (xs.length = c) := HT2.out.len
   go_wp2_with (first
    | (refine load_mid 53 (.tmp 7) R9.out _ Try.underlying53 rfl info_twin rfl rfl rfl ?_)
    | (at_builtin; refine wpList_append_lies _ rfl _ _ 49 rfl w.heap.size 53 si (.agg #[.int .i64 0, .int .i64 0, .int .i64 0, .int .i64 0, .int .i64 0, .slice none 0 0, .slice none 0 0, .slice none 0 0, .slice none 0 0]) 9 136 Try.underlying49 shi shz0 shz1 shz2 rfl (by omega) u4 c (twCells xs) rfl (World.ownsRow.alloc HT2.out.t _) _ 1 1 [.int .i64 x.c.id.e, .int .i64 x.c.id.l, .int .i64 x.c.id.i, .int .i64 x.c.id.c, .int .i64 x.c.base, .slice x.sa x.c.sl.length x.sc, .slice x.ha x.c.hv.length x.hc, .slice x.sa (x.c.sl.length + 1) x.sc, .slice x.ha (x.c.hv.length + 1) x.hc] rfl rfl (World.news_of_block (heap_alloc_new _ _)) HX1.out (by omega) (by unfold maxLen; omega) (by omega) (by simp; omega) _ rfl ?_; intro g3 cap3 w3 hown3 hgrow3 hat3 hlt3; obtain ⟨p1, p2, p3, p4, p5⟩ := HT2.out.app1 Hv7.out HoT.out HX.out hgrow3; have P1 : Hid _ := p1; have P2 : Hid _ := p2; have P3 : Hid _ := p3; have P4 : Hid _ := p4; have P5 : Hid _ := p5; have O3 : Hid (w3.ownsRow w.heap.size 53 9 (.slice (some ⟨g3, 0, none⟩) (c + 1) cap3) (c + 1) (twCells xs ++ x.tw)) := hown3; have R7 : Hid (w3.rangeAt v7 0 [.int .i64 x.c.id.e, .int .i64 x.c.id.l, .int .i64 x.c.id.i, .int .i64 x.c.id.c, .int .i64 x.c.base, .slice x.sa x.c.sl.length x.sc, .slice x.ha x.c.hv.length x.hc]) := Hpre.out _ _ p4; have hge3 := p3.size; clear p1 p2 p3 p4 p5 hown3 hgrow3 hat3 hlt3)
    | (refine load_mid 28 (.tmp 25) R7.out _ Try.underlying28 rfl info_flush rfl rfl rfl ?_)
    | (at_builtin; refine wpList_append_lies _ rfl _ _ 22 rfl w.heap.size 28 ii (.agg #[.int .i64 0, .int .i64 0, .int .i64 0, .int .i64 0, .int .i64 0, .slice none 0 0, .slice none 0 0]) 7 88 Try.underlying22 ihi ihz0 ihz1 ihz2 rfl (by omega) u5 c (flCells xs) rfl (World.ownsRow.alloc P1.out _) _ 1 1 [.int .i64 x.c.id.e, .int .i64 x.c.id.l, .int .i64 x.c.id.i, .int .i64 x.c.id.c, .int .i64 x.c.base, .slice x.sa x.c.sl.length x.sc, .slice x.ha x.c.hv.length x.hc] rfl rfl (World.news_of_block (heap_alloc_new _ _)) HX2.out (by omega) (by unfold maxLen; omega) (by omega) (by simp; omega) _ rfl ?_; intro g4 cap4 w4 hown4 hgrow4 hat4 hlt4)
    | fail)
   have HN : Twl w w4 (c + 1) (.slice (some ⟨g3, 0, none⟩) (c + 1) cap3) (.slice (some ⟨g4, 0, none⟩) (c + 1) cap4) (xs ++ [x]) fs := Twl.app2 HlX.out P1.out P2.out P3.out (by rw [Hf.out]; exact P5.out) O3.out hgrow4 hown4
   exact ⟨⟨c + 1, xs ++ [x], by omega, by go_num, by simpa using HN⟩, by simp [intOf]; omega⟩
  ·obtain rfl : L = c := by omega
   have hl := HT.out.len
   have hcap : ∀ ia ic, u5 = .slice ia L ic → L ≤ ic ∧ ic ≤ 9223372036854775807 := fun ia ic e => by
    rcases HT.out.i.2 with ⟨h3, h4⟩ | ⟨g, cap, cur, hv, _, _, hnc, hcm, _⟩
    ·rw [e] at h3; simp at h3; omega
    ·rw [e] at hv; simp at hv; unfold maxLen at hcm; omega
   obtain ⟨ta, tc, rfl⟩ : ∃ ta tc, u4 = .slice ta L tc := by
    rcases HT.out.t.2 with ⟨h3, h4⟩ | ⟨g, cap, cur, hv, _⟩
    ·exact ⟨none, 0, by rw [h4]; exact h3⟩
    ·exact ⟨_, _, hv⟩
   obtain ⟨ia, ic, rfl⟩ : ∃ ia ic, u5 = .slice ia L ic := by
    rcases HT.out.i.2 with ⟨h3, h4⟩ | ⟨g, cap, cur, hv, _⟩
    ·exact ⟨none, 0, by rw [h4]; exact h3⟩
    ·exact ⟨_, _, hv⟩
   go_wp2
   go_ret2
   refine ⟨ta, tc, ia, ic, xs, by rw [hl]; rfl, by rw [hl]; exact HT.out, hl, by rw [hl]; exact (hcap ia ic rfl).1, (hcap ia ic rfl).2⟩
theorem Twl.tws {xs fs : List Fl} {ta ia : Option Addr} {tc ic n : Nat} (h : Twl w w' n (.slice ta n tc) (.slice ia n ic) xs fs) (hl : xs.length = fs.length) : Tws w' w.heap.size ta ia xs fs := by
 obtain rfl : n = xs.length := h.len.symm
 exact ⟨hl, own_row h.t (fun i hi => twCells_at xs i hi), own_row h.i (fun i hi => flCells_at xs i hi), fun k hk => h.ok k (by rw [hl]; exact hk)⟩
end
end Go.Proofs.Ytobaooebjgoaiaa.Fm
namespace Go.Proofs.Ytobaooebjgoaiaa.Fm
open Go.RowKit Go.Maps Mb
set_option linter.unusedVariables false
set_option maxRecDepth 100000
set_option linter.unusedSimpArgs false
section
variable {w w' W : World} {B : Nat}
theorem blk_on {a b : World} {k : Nat} {o : Obj} (hb : Below a.heap.size a b) (h : a.heap[k]? = some o) : b.heap[k]? = some o := (hb.block k (Array.getElem?_eq_some_iff.1 h).1).trans h
theorem drew_bel (w : World) : Below w.heap.size w w.drew := (Below.refl _ _).drew
theorem range_on {b off : Nat} {cs : List Value} (h : w.rangeAt b off cs) (hb : Below w.heap.size w w') : w'.rangeAt b off cs := fun j v hv => below_at hb (h j v hv)
theorem run_allocZ {t : TypeId} {Z : Array Value} (hz : (Try.prog.info? t).map (·.zero) = some (some (.agg Z))) : (Instr.alloc t true (.tuple #[])).run Try.prog w = .ok (.pointer (some ⟨w.heap.size, 0, none⟩)) (w.alloc (.cells Z t)) := by
 cases hi : Try.prog.info? t with
 | none => rw [hi] at hz; cases hz
 | some i =>
  rw [hi] at hz
  simp only [Option.map_some, Option.some.injEq] at hz
  simp [Instr.alloc, zeroValue, typeInfo, hi, hz, go_sem, newVar, newRow, Value.cells]
section
variable {ops : Array Oper} {rest : List Oper} {o : Oper} {a : Act} {K : Act → World → Prop} {Q : Exit → Act → World → Prop} {E : Prop}
theorem wl_allocZ {Z : Array Value} (hgd : o.guard = none) (t : TypeId) (ho : o.op = .alloc t) (hz : (Try.prog.info? t).map (·.zero) = some (some (.agg Z)))
  (h : ∀ W : World, W.heap[w.heap.size]? = some (.cells Z t (0, 0)) → Below w.heap.size w W → w.heap.size < W.heap.size → wpList Try.prog ops Q rest (a.put o.dst (.pointer (some ⟨w.heap.size, 0, none⟩))) W) : wpList Try.prog ops Q (o :: rest) a w :=
 wpList_plain hgd fun K hK => by
  unfold Oper.wp execOp
  simp only [ho, Sem.run_bind, run_allocZ hz, Result.andThen_ok, Sem.run_pure]
  exact hK _ _ (h _ (heap_alloc_new w _) ((Below.refl _ _).alloc (Nat.le_refl _) _) (by simp))
theorem step_allocZ {Z : Array Value} (hgd : o.guard = none) (t : TypeId) (ho : o.op = .alloc t) (hz : (Try.prog.info? t).map (·.zero) = some (some (.agg Z)))
  (h : ∀ W : World, W.heap[w.heap.size]? = some (.cells Z t (0, 0)) → Below w.heap.size w W → w.heap.size < W.heap.size → K (a.put o.dst (.pointer (some ⟨w.heap.size, 0, none⟩))) W) : if Region.wanted o (yielded ops a.tmps) = true then Oper.wp Try.prog o a w K Q else E := by
 have hw : Region.wanted o (yielded ops a.tmps) = true := by simp [Region.wanted, hgd]
 rw [if_pos hw]
 unfold Oper.wp execOp
 simp only [ho, Sem.run_bind, run_allocZ hz, Result.andThen_ok, Sem.run_pure]
 exact h _ (heap_alloc_new w _) ((Below.refl _ _).alloc (Nat.le_refl _) _) (by simp)
theorem wl_storeZ (hgd : o.guard = none) (ty : TypeId) (x y : Operand) (ho : o.op = .store ty x y) {g : Nat} {L : List Value} {t : TypeId} {old : Array Value} (hx : a.eval x = .pointer (some ⟨g, 0, none⟩)) (hy : a.eval y = .agg L.toArray) (hg : w.heap[g]? = some (.cells old t (0, 0))) (hi : (Try.prog.info? ty).map (·.size) = some L.length) (hold : old.size = L.length) (h1 : ∀ u ∈ L, u.oneCell' = true)
  (h : ∀ W : World, W.heap[g]? = some (.cells L.toArray t (0, 0)) → Kept w W (fun j => j = g) → wpList Try.prog ops Q rest (a.put o.dst undef) W) : wpList Try.prog ops Q (o :: rest) a w :=
 wpList_plain hgd fun K hK => wp_store_mid ty x y ho g 0 _ hx hy (by simpa using blk_there hg hold) (by simpa using hi) (all_oneCell_toArray h1) (hK _ _ (by simpa using h _ (sets_whole hg hold) (ksets (P := fun j => j = g) rfl _ _ _)))
theorem step_storeZ (hgd : o.guard = none) (ty : TypeId) (x y : Operand) (ho : o.op = .store ty x y) {g : Nat} {L : List Value} {t : TypeId} {old : Array Value} (hx : a.eval x = .pointer (some ⟨g, 0, none⟩)) (hy : a.eval y = .agg L.toArray) (hg : w.heap[g]? = some (.cells old t (0, 0))) (hi : (Try.prog.info? ty).map (·.size) = some L.length) (hold : old.size = L.length) (h1 : ∀ u ∈ L, u.oneCell' = true)
  (h : ∀ W : World, W.heap[g]? = some (.cells L.toArray t (0, 0)) → Kept w W (fun j => j = g) → K (a.put o.dst undef) W) : if Region.wanted o (yielded ops a.tmps) = true then Oper.wp Try.prog o a w K Q else E := by
 have hw : Region.wanted o (yielded ops a.tmps) = true := by simp [Region.wanted, hgd]
 rw [if_pos hw]
 exact wp_store_mid ty x y ho g 0 _ hx hy (by simpa using blk_there hg hold) (by simpa using hi) (all_oneCell_toArray h1) (by simpa using h _ (sets_whole hg hold) (ksets (P := fun j => j = g) rfl _ _ _))
theorem wp_bsl (t e : TypeId) (len : Nat) (parts : Array (Nat × Operand)) (ho : o.op = .buildSlice t len parts) (hu : Try.prog.underlying t = some (.slice e)) (cells : Array Value)
  (hf : Try.prog.builtSlice e len (parts.map fun (i, x) => (i, a.eval x)).toList = some cells)
  (h : K (a.put o.dst (.slice (some ⟨w.heap.size, 0, none⟩) len len)) (w.alloc (.cells cells e))) : Oper.wp Try.prog o a w K Q := by
 unfold Program.builtSlice at hf
 cases hie : Try.prog.info? e with
 | none => simp [hie] at hf
 | some ie =>
  simp only [hie] at hf
  cases hz : ie.zero with
  | none => simp [hz] at hf
  | some z =>
   simp only [hz] at hf
   by_cases hc : len * ie.size > 2 ^ 24 ∨ len * ie.size = 0
   ·simp [hc] at hf
   ·rw [if_neg hc] at hf
    exact wp_buildSlice t e len parts ho cells ie z hu hie hz (fun h' => hc (Or.inl h')) (fun h' => hc (Or.inr h')) hf h
theorem step_bsl (hgd : o.guard = none) (t e : TypeId) (len : Nat) (parts : Array (Nat × Operand)) (ho : o.op = .buildSlice t len parts) (hu : Try.prog.underlying t = some (.slice e)) (cells : Array Value)
  (hf : Try.prog.builtSlice e len (parts.map fun (i, x) => (i, a.eval x)).toList = some cells)
  (h : ∀ V : World, V.heap[w.heap.size]? = some (.cells cells e (0, 0)) → Below w.heap.size w V → w.heap.size < V.heap.size → K (a.put o.dst (.slice (some ⟨w.heap.size, 0, none⟩) len len)) V) : if Region.wanted o (yielded ops a.tmps) = true then Oper.wp Try.prog o a w K Q else E := by
 have hwt : Region.wanted o (yielded ops a.tmps) = true := by simp [Region.wanted, hgd]
 rw [if_pos hwt]
 exact wp_bsl t e len parts ho hu cells hf (h _ (heap_alloc_new w _) ((Below.refl _ _).alloc (Nat.le_refl _) _) (by simp))
theorem wl_bsl (hgd : o.guard = none) (t e : TypeId) (len : Nat) (parts : Array (Nat × Operand)) (ho : o.op = .buildSlice t len parts) (hu : Try.prog.underlying t = some (.slice e)) (cells : Array Value)
  (hf : Try.prog.builtSlice e len (parts.map fun (i, x) => (i, a.eval x)).toList = some cells)
  (h : ∀ V : World, V.heap[w.heap.size]? = some (.cells cells e (0, 0)) → Below w.heap.size w V → w.heap.size < V.heap.size → wpList Try.prog ops Q rest (a.put o.dst (.slice (some ⟨w.heap.size, 0, none⟩) len len)) V) : wpList Try.prog ops Q (o :: rest) a w :=
 wpList_plain hgd fun K hK => wp_bsl t e len parts ho hu cells hf (hK _ _ (h _ (heap_alloc_new w _) ((Below.refl _ _).alloc (Nat.le_refl _) _) (by simp)))
theorem bsl_eq {e : TypeId} {n : Nat} {l l' : List (Nat × Value)} {c : Array Value} (e1 : l = l') (h : Try.prog.builtSlice e n l' = some c) : Try.prog.builtSlice e n l = some c := e1 ▸ h
theorem app_g (hgd : o.guard = none) (s x : Operand) (t : TypeId)
  (ho : o.op = .call { callee := .builtin .append, args := #[s, x], argTypes := #[t, t] })
  (base : Nat) (e : TypeId) (i : TypeInfo) (z : Value) (size bytes : Nat) (ht : Try.prog.underlying t = some (.slice e)) (hi : Try.prog.info? e = some i) (hz : i.zero = some z)
  (hsize : i.size = size) (hby : i.bytes = bytes) (hzs : z.cells.size = size) (hsz : 0 < size)
  (v : Value) (n : Nat) (xs : List Value) (hs : a.eval s = v) (hown : w.ownsRow base e size v n xs)
  (ao : Option Addr) (m c : Nat) (news : List Value) (hx : a.eval x = .slice ao m c) (hnone : ao = none → m = 0 ∧ c = 0) (hl : news.length = m * size) (hnews : ∀ ad, ao = some ad → ∀ j u, news[j]? = some u → w.cell? (ad.add j) = some u) (h1 : ∀ u ∈ news, u.oneCell' = true)
  (h63 : n + m ≤ maxLen) (hbytes : (n + m) * bytes ≤ 140737488355328) (hbase : base ≤ w.heap.size)
  (h : ∀ v' w', Hid (w'.ownsRow base e size v' (n + m) (xs ++ news)) → Hid (Kept w w' (fun k => v.ownBlock = some k)) → Hid (v'.ownBlock = v.ownBlock ∨ v'.ownBlock = some w.heap.size) → wpList Try.prog ops Q rest (a.put o.dst v') w') :
  wpList Try.prog ops Q (o :: rest) a w := by
 cases ao with
 | some ad =>
  refine wpList_append_own_at w hgd s x t ho base e i z size bytes ht hi hz hsize hby hzs hsz v n xs hs hown ad m c news hx hl (hnews ad rfl) h1 h63 hbytes hbase ?_
  intro v' w' h2 h3 _ h5
  exact h v' w' h2 ((Kept.ofGrown h3).mono fun k _ hk => hk.symm) h5
 | none =>
  obtain ⟨rfl, rfl⟩ := hnone rfl
  obtain rfl : news = [] := List.eq_nil_of_length_eq_zero (by rw [hl]; omega)
  exact wpList_append_own_none hgd s x t ho base e i size ht hi v n xs hs hown hx (h v w (by show World.ownsRow _ _ _ _ _ _ _; simpa using hown) (Kept.refl _ _) (.inl rfl))
theorem flCells_len (xs : List Fl) : (flCells xs).length = xs.length * 7 := by
 induction xs with
 | nil => rfl
 | cons s ss ih => simp only [flCells, List.flatMap_cons, List.length_append] at ih ⊢; rw [ih, Fl.cs_len]; simp; omega
theorem step_appF (hgd : o.guard = none) (s x : Operand)
  (ho : o.op = .call { callee := .builtin .append, args := #[s, x], argTypes := #[22, 22] }) {b off L nb : Nat} {fs : List Fl} {f : Fl} (hs : a.eval s = .slice (some ⟨b, off, none⟩) L L) (hL : fs.length = L) (hn : L ≤ 16) (hr : RdFs w (some ⟨b, off, none⟩) fs) (hf : f.Rd w)
  (hx : a.eval x = .slice (some ⟨nb, 0, none⟩) 1 1) (hnb : w.heap[nb]? = some (.cells f.cs.toArray 28 (0, 0)))
  (h : ∀ a' c' w', RdFs w' a' (fs ++ [f]) → Below w.heap.size w w' → K (a.put o.dst (.slice a' (L + 1) c')) w') : if Region.wanted o (yielded ops a.tmps) = true then Oper.wp Try.prog o a w K Q else E := by
 have hwt : Region.wanted o (yielded ops a.tmps) = true := by simp [Region.wanted, hgd]
 rw [if_pos hwt]
 obtain ⟨i0, hi, hz0, hz1, hz2⟩ := flush_info
 obtain ⟨v', w', hrun, h2, h3⟩ := run_append_arg_grows (P := Try.prog) w 22 o.type 28 i0 _ 7 88 Try.underlying22 hi hz0 hz1 hz2 rfl (by omega) ⟨b, off, none⟩ L L (flCells fs) (by rw [flCells_len, hL]) (fun j u hu => by
   have hj : j < fs.length * 7 := by have := (List.getElem?_eq_some_iff.1 hu).1; rwa [flCells_len] at this
   rcases hr.row with h0 | ⟨b', off', e, hc⟩
   ·omega
   ·simp only [Option.some.injEq, Addr.mk.injEq, and_true] at e
    rw [Addr.add_lit, e.1, e.2, hc j hj, ← flCells_at _ _ hj, hu]) ⟨nb, 0, none⟩ 1 1 f.cs rfl (fun j u hu => by
   rw [Addr.add_lit, Nat.zero_add, blk_cell hnb]
   simpa using hu) (by omega) (by unfold maxLen; omega) (by omega)
 have hb : Below w.heap.size w w' := ⟨h3.os, h3.tape, h3.output, h3.size, fun k hk => h3.block k hk (by simp)⟩
 obtain ⟨a', c', rfl⟩ : ∃ a' c', v' = .slice a' (L + 1) c' := by
  rcases h2.2 with ⟨_, h4⟩ | ⟨g, cap, cur, hv, _⟩
  ·omega
  ·exact ⟨_, _, hv⟩
 unfold Oper.wp execOp
 simp only [ho, resolve, invoke, builtin, Sem.run_bind, Sem.run_pure, Result.andThen_ok, List.map_toArray, List.map_cons, List.map_nil, hs, hx, hrun]
 refine h a' c' w' ⟨?_, fun i hi => ?_⟩ hb
 ·rw [List.length_append, hL]
  refine own_row h2 (fun i hi => ?_)
  have : (flCells fs ++ f.cs) = flCells (fs ++ [f]) := by simp [flCells]
  rw [this]
  exact flCells_at _ _ (by rw [List.length_append, hL]; exact hi)
 ·by_cases e : i < fs.length
  ·have : (fs ++ [f]).getD i fl0 = fs.getD i fl0 := by simp [List.getD, List.getElem?_append, e]
   rw [this]
   exact (hr.el i e).still hb
  ·have hi2 : i = fs.length := by simp at hi; omega
   have : (fs ++ [f]).getD i fl0 = f := by subst hi2; simp [List.getD]
   rw [this]
   exact hf.still hb
end
theorem own_ne {t s n g t' : Nat} {v : Value} {l : List Value} {C : Array Value} (h : w.ownsRow B t s v n l) (hk : w.heap[g]? = some (.cells C t' (0, 0))) (hne : t ≠ t') (k : Kept w W (fun j => j = g)) : W.ownsRow B t s v n l := by
 refine k.owns h fun j hj e => ?_
 obtain ⟨_, cur, hc⟩ := row_cells h hj
 have e' : j = g := e
 rw [e', hk] at hc
 simp at hc
 exact hne hc.2.symm
theorem zEnd : (Try.prog.info? 79).map (·.zero) = some (some (.agg #[.int .i64 0, .slice none 0 0])) := by kernel_rfl
theorem zSlot : (Try.prog.info? 76).map (·.zero) = some (some (.agg #[.int .i64 0, .int .i64 0])) := by kernel_rfl
theorem zTwin : (Try.prog.info? 53).map (·.zero) = some (some (.agg #[.int .i64 0, .int .i64 0, .int .i64 0, .int .i64 0, .int .i64 0, .slice none 0 0, .slice none 0 0, .slice none 0 0, .slice none 0 0])) := by kernel_rfl
theorem bFl (f : Fl) : Try.prog.builtSlice 28 1 [(0, .agg f.cs.toArray)] = some f.cs.toArray := by kernel_rfl
structure JQ (fs : List Fl) (w w' : World) (bb : Int) (a : Option Addr) (n c : Nat) (ev : Int) : Prop where
 e : ev = togE (cos fs)
 k : ev = 0 → bb = baseOf (cos fs) ∧ Ends (cos fs) n ∧ ∃ ss, SlOf (cos fs) n ss ∧ w'.ownsRow w.heap.size 76 2 (.slice a n c) n (slCells ss)
theorem join_one {ao : Option Addr} {cp : Nat} {fs : List Fl} (hr : RdFs w ao fs) (hn : fs.length ≤ 17) : Calls Try.prog 30 #[.slice ao fs.length cp] w fun e w' => ∃ bb a n c ev, e = .returned (.tuple #[.agg (endV bb a n c).toArray, .int .i64 ev]) ∧ JQ fs w w' bb a n c ev ∧ Below w.heap.size w w' := by
 refine (join_any (cp := cp) hr hn).mono ?_
 rintro e w' ⟨hb, h | ⟨h0, n, a, c, ss, h1, h2, h3, h4⟩⟩
 ·exact ⟨0, none, 0, 0, _, h.2, ⟨rfl, fun hh => absurd hh h.1⟩, hb⟩
 ·exact ⟨_, a, n, c, 0, h3, ⟨h0.symm, fun _ => ⟨rfl, h1, ss, h2, h4⟩⟩, hb⟩
end
end Go.Proofs.Ytobaooebjgoaiaa.Fm
