import Derived.Test.YtobaooebjgoaiaaV13
import Derived.Test.YtobaooebjgoaiaaV14
import Derived.Test.YtobaooebjgoaiaaV16
import Derived.Laws.ResultCell
namespace Go.Proofs.Ytobaooebjgoaiaa.Fm
open Go.RowKit Go.Maps Mb
set_option linter.unusedVariables false
set_option maxRecDepth 100000
set_option linter.unusedSimpArgs false
section
variable {w w' W : World} {B : Nat}
def endV (b : Int) (a : Option Addr) (n c : Nat) : List Value := [.int .i64 b, .slice a n c]
theorem endV_one (b : Int) (a : Option Addr) (n c : Nat) : ∀ u ∈ endV b a n c, u.oneCell' = true := by
 intro u hu
 simp [endV] at hu
 rcases hu with rfl | rfl <;> rfl
theorem slot_info : ∃ i : TypeInfo, Try.prog.info? 76 = some i ∧ i.zero = some (.agg #[.int .i64 0, .int .i64 0]) ∧ i.size = 2 ∧ i.bytes = 16 := by
 have h : (Try.prog.info? 76).map (fun i => (i.zero, i.size, i.bytes)) = some (some (.agg #[.int .i64 0, .int .i64 0]), 2, 16) := by kernel_rfl
 cases hq : Try.prog.info? 76 with
 | none => rw [hq] at h; cases h
 | some i => rw [hq] at h; simp at h; exact ⟨i, rfl, h.1, h.2.1, h.2.2⟩
theorem info_end : (Try.prog.info? 79).map (·.size) = some 2 := by kernel_rfl
def slCells (ss : List (Int × Int)) : List Value := ss.flatMap slotV
theorem slCells_len (ss : List (Int × Int)) : (slCells ss).length = ss.length * 2 := by
 induction ss with
 | nil => rfl
 | cons s ss ih => simp only [slCells, List.flatMap_cons, List.length_append] at ih ⊢; rw [ih]; simp [slotV]; omega
theorem slCells_app (ss : List (Int × Int)) (s : Int × Int) : slCells (ss ++ [s]) = slCells ss ++ slotV s := by simp [slCells]
theorem slCells_at (ss : List (Int × Int)) (i : Nat) (hi : i < ss.length * 2) : (slCells ss)[i]? = some (slotC ss i) := by
 induction ss generalizing i with
 | nil => simp at hi
 | cons s ss ih =>
  have hl : (slotV s).length = 2 := rfl
  simp only [slCells, List.flatMap_cons]
  by_cases h : i < 2
  ·rw [List.getElem?_append_left (by rw [hl]; exact h)]
   match i, h with
   | 0, _ => rfl
   | 1, _ => rfl
  ·rw [List.getElem?_append_right (by rw [hl]; omega), hl]
   have := ih (i - 2) (by simp at hi; omega)
   rw [show List.flatMap slotV ss = slCells ss from rfl, this]
   unfold slotC
   rw [show i / 2 = (i - 2) / 2 + 1 by omega, show i % 2 = (i - 2) % 2 by omega]
   simp
theorem own_rdS {B : Nat} {a : Option Addr} {n c : Nat} {ss : List (Int × Int)} (h : w.ownsRow B 76 2 (.slice a n c) n (slCells ss)) (hn : ss.length = n) : RdS w a ss := by
 unfold RdS Row
 by_cases h0 : n = 0
 ·exact .inl (by omega)
 ·rcases h.2 with ⟨h1, h2⟩ | ⟨g, cap, cur, hv, hB, hg, hnc, hcm, hcs, htk⟩
  ·omega
  ·simp at hv
   refine .inr ⟨g, 0, hv.1, fun i hi => ?_⟩
   rw [Nat.zero_add, blk_cell hg i]
   have e1 : (cur.toList.take (n * 2))[i]? = (slCells ss)[i]? := by rw [htk]
   rw [List.getElem?_take_of_lt (by omega)] at e1
   rw [← Array.getElem?_toList, e1, slCells_at _ _ (by omega)]
def SlOf (cs : List Co) (n : Nat) (ss : List (Int × Int)) : Prop := ss.length = n ∧ ∀ j, j < n → atP cs (baseOf cs + 1 + (j : Int)) = some (ss.getD j z2)
def JOut (fs : List Fl) (w : World) (e : Ending) (w' : World) : Prop := Below w.heap.size w w' ∧ ((togE (cos fs) ≠ 0 ∧ e = .returned (.tuple #[.agg (endV 0 none 0 0).toArray, .int .i64 (togE (cos fs))])) ∨ (togE (cos fs) = 0 ∧ ∃ n a c ss, Ends (cos fs) n ∧ SlOf (cos fs) n ss ∧ e = .returned (.tuple #[.agg (endV (baseOf (cos fs)) a n c).toArray, .int .i64 0]) ∧ w'.ownsRow w.heap.size 76 2 (.slice a n c) n (slCells ss)))
theorem res_end {fn : Func} {p u : Tmp} (h : fn.results = #[.cell p 79, .tmp u]) (tmps : Array Value) (w : World) (g : Nat) (L : List Value) (v : Value) (hL : L.length = 2)
  (hp : tmps.getD p undef = .pointer (some ⟨g, 0, none⟩)) (hv : tmps.getD u undef = v) (hg : w.rangeAt g 0 L) :
  (results fn tmps).run Try.prog w = .ok (.tuple #[.agg L.toArray, v]) w := by
 rw [results_cell_tmp h, hp, hv]
 simp [asAddr, run_loadVar_mid w g 0 79 L _ hg Try.underlying79 rfl (by rw [hL]; exact info_end)]
set_option maxHeartbeats 1000000 in
theorem ecut_any (b : Int) (a : Option Addr) (n c : Nat) (h0 : 0 ≤ b) (h1 : b ≤ 4611686018427387904) (hn : n ≤ 1000000000000) : Calls Try.prog 60 #[.agg (endV b a n c).toArray] w fun e w' => e = .returned (.int .i64 (b + n)) ∧ Below w.heap.size w w' := by
 generalize hW1 : w.alloc (.cells (endV b a n c).toArray 79) = W1
 have HB : Hid (Below w.heap.size w W1) := hW1 ▸ balloc (Below.refl _ _)
 have k1 : W1.heap[w.heap.size]? = some (.cells (endV b a n c).toArray 79 (0, 0)) := by rw [← hW1]; exact heap_alloc_new w _
 have q0 : W1.cell? ⟨w.heap.size, 0, none⟩ = some (.int .i64 b) := blk_cell k1 0
 have q1 : W1.cell? ⟨w.heap.size, 1, none⟩ = some (.slice a n c) := blk_cell k1 1
 generalize (endV b a n c).toArray = pc at *
 clear k1
 go_enter Try.func60, Try.ntmps60
 go_wp2_with (first | (refine wl_at 3 rfl ?_) | fail)
 refine wT9 ?_
 simp only [Act.put,gA9,gZ9,gC9,sA9,sZ9,sC9]
 refine wT9 ?_
 simp only [Act.put,gA9,gZ9,gC9,sA9,sZ9,sC9]
 refine wT9 ?_
 simp only [Act.put,gA9,gZ9,gC9,sA9,sZ9,sC9]
 refine wT9 ?_
 simp only [Act.put,gA9,gZ9,gC9,sA9,sZ9,sC9]
 refine wT9 ?_
 simp only [Act.put,gA9,gZ9,gC9,sA9,sZ9,sC9]
 refine wl_take (v := .int .i64 (b + (n : Int))) (by kernel_rfl) (by go_simp; exact wrap_id (by omega) (by omega)) ?_
 simp only [Act.put,gA9,gZ9,gC9,sA9,sZ9,sC9]
 refine wT9 ?_
 simp only [Act.put,gA9,gZ9,gC9,sA9,sZ9,sC9]
 refine ⟨?_⟩
 go_wp2
 go_ret
 exact ⟨rfl, HB.out⟩
theorem id_at {f : Fl} {b off : Nat} (h : W.rangeAt b off f.cs) : W.rangeAt b off f.c.id.cs := fun j v hv => by
 have := h j v
 match j, hv with
 | 0, hv => exact this hv
 | 1, hv => exact this hv
 | 2, hv => exact this hv
 | 3, hv => exact this hv
 | j + 4, hv => cases hv
theorem have_at {f : Fl} {b off : Nat} (h : W.rangeAt b off f.cs) : W.cell? ⟨b, off + 6, none⟩ = some (.slice f.ha f.c.hv.length f.hc) := h 6 _ rfl
def lenAt (w : World) (b : Nat) : Nat := match w.cell? ⟨b, 1, none⟩ with | some (.slice _ n _) => n | _ => 0
structure Jst (w0 w : World) (rb : Nat) : Prop where
 b : Below w0.heap.size w0 w
 r : w.heap[rb]? = some (.cells (endV 0 none 0 0).toArray 79 (0, 0))
 g : w0.heap.size ≤ rb
theorem Jst.still {w0 : World} {rb : Nat} (h : Jst w0 w rb) (hb : Below w.heap.size w w') : Jst w0 w' rb := ⟨bstep h.b hb, (hb.block _ (lt_heap h.r)).trans h.r, h.g⟩
theorem Jst.set {w0 : World} {rb : Nat} (h : Jst w0 w rb) (L : List Value) (hL : L.length = 2) : Below w0.heap.size w0 (w.setCells rb 0 L) ∧ (w.setCells rb 0 L).heap[rb]? = some (.cells L.toArray 79 (0, 0)) :=
 ⟨bsets h.g _ _ h.b, sets_whole h.r (by rw [hL]; rfl)⟩
theorem Jst.there {w0 : World} {rb : Nat} (h : Jst w0 w rb) : w.there rb 0 2 := blk_there h.r rfl
theorem tog_unsound {cs : List Co} {i : Nat} (hi : i < cs.length) (h : sound (cs.getD i c0) = false) : togE cs = 1 := by
 unfold togE
 rw [if_neg]
 intro hh
 have := List.all_eq_true.1 hh i (List.mem_range.2 hi)
 simp only [h] at this
 cases this
theorem tog_unlike {cs : List Co} {i : Nat} (hs : ∀ k, k < cs.length → sound (cs.getD k c0) = true) (hi : i < cs.length) (h : alike cs i = false) : togE cs = 80 := by
 unfold togE
 rw [if_pos (List.all_eq_true.2 fun k hk => hs k (List.mem_range.1 hk)), if_neg]
 intro hh
 have := List.all_eq_true.1 hh i (List.mem_range.2 hi)
 rw [h] at this
 cases this
theorem tog_rest {cs : List Co} (hs : ∀ k, k < cs.length → sound (cs.getD k c0) = true) (ha : ∀ k, k < cs.length → alike cs k = true) : togE cs = if forksB cs then 82 else 0 := by
 unfold togE
 rw [if_pos (List.all_eq_true.2 fun k hk => hs k (List.mem_range.1 hk)), if_pos (List.all_eq_true.2 fun k hk => ha k (List.mem_range.1 hk))]
theorem tog_con {cs : List Co} (hs : ∀ k, k < cs.length → sound (cs.getD k c0) = true) : forksB cs = false ↔ Con (allP cs) := con_iff fun f hf => by
 obtain ⟨i, hi, rfl⟩ := getD_mem hf
 exact (sound_iff _).1 (hs i hi)
structure J3 (w0 w : World) (cs : List Co) (bs : Int) (rb eb mb mm hb : Nat) (FF : Int → Option (Int × Int)) (hv : Value) (n : Nat) (a : Option Addr) (c : Nat) (ss : List (Int × Int)) : Prop where
 sl : SlOf cs n ss
 wh : ∀ j : Nat, j < n → whP cs (baseOf cs + 1 + (j : Int)) = true
 e : w.heap[eb]? = some (.cells (endV bs a n c).toArray 79 (0, 0))
 o : w.ownsRow w0.heap.size 76 2 (.slice a n c) n (slCells ss)
 j : Jst w0 w rb
 m : MpI w mb mm FF
 h : w.heap[hb]? = some (.cells #[hv] 22 (0, 0))
 ne : rb < eb
 ge : w0.heap.size ≤ eb
section
variable {w0 : World} {cs : List Co} {bs : Int} {rb eb mb mm hb : Nat} {FF : Int → Option (Int × Int)} {hv : Value} {n : Nat} {a : Option Addr} {c : Nat} {ss : List (Int × Int)}
theorem J3.still (h : J3 w0 w cs bs rb eb mb mm hb FF hv n a c ss) (hb' : Below w.heap.size w w') : J3 w0 w' cs bs rb eb mb mm hb FF hv n a c ss :=
 ⟨h.sl, h.wh, (hb'.block _ (lt_heap h.e)).trans h.e, own_still h.o hb', h.j.still hb', h.m.still hb', (hb'.block _ (lt_heap h.h)).trans h.h, h.ne, h.ge⟩
theorem row_cells {B t s n : Nat} {v : Value} {l : List Value} (h : w.ownsRow B t s v n l) {j : Nat} (hj : v.ownBlock = some j) : B ≤ j ∧ ∃ cur, w.heap[j]? = some (.cells cur t (0, 0)) := by
 rcases h.2 with ⟨h1, _⟩ | ⟨g, cap, cur, hv, hB, hg, _⟩
 ·rw [h1] at hj; simp [Value.ownBlock] at hj
 ·rw [hv] at hj
  simp [Value.ownBlock] at hj
  subst hj
  exact ⟨hB, cur, hg⟩
theorem map_ne {B t s n m k b : Nat} {v : Value} {l : List Value} {G : Int → Option (Int × Int)} (h : w.ownsRow B t s v n l) (hm : MpI w b m G) : ¬ some b = v.ownBlock := fun e => by
 obtain ⟨_, cur, hc⟩ := row_cells h e.symm
 obtain ⟨D, ⟨es, cl, h1, _⟩, _⟩ := hm
 rw [h1] at hc
 cases hc
theorem J3.app (h : J3 w0 w cs bs rb eb mb mm hb FF hv n a c ss) {ob : Obj} {w3 : World} {g cap : Nat} {s : Int × Int} (hown : w3.ownsRow w0.heap.size 76 2 (.slice (some ⟨g, 0, none⟩) (n + 1) cap) (n + 1) (slCells ss ++ slotV s)) (hg : (w.alloc ob).grownBy w3 (Value.slice a n c).ownBlock) (hwh : whP cs (baseOf cs + 1 + (n : Int)) = true) (hat : atP cs (baseOf cs + 1 + (n : Int)) = some s) :
  w3.cell? ⟨eb, 1, none⟩ = some (.slice a n c) ∧ w3.frozen? ⟨eb, 1, none⟩ = false ∧ J3 w0 (w3.setCell ⟨eb, 1, none⟩ (.slice (some ⟨g, 0, none⟩) (n + 1) cap)) cs bs rb eb mb mm hb FF hv (n + 1) (some ⟨g, 0, none⟩) cap (ss ++ [s]) := by
 have h1 : J3 w0 (w.alloc ob) cs bs rb eb mb mm hb FF hv n a c ss := h.still (balloc (Below.refl _ _))
 have K1 := Kept.ofGrown hg
 have ne1 : ∀ {k t C}, (w.alloc ob).heap[k]? = some (.cells C t (0, 0)) → t ≠ 76 → ¬ some k = (Value.slice a n c).ownBlock := fun hk ht e => by
  obtain ⟨_, cur, hc⟩ := row_cells h1.o e.symm
  rw [hk] at hc
  simp at hc
  exact ht hc.2
 have e3 := K1.obj h1.e (ne1 h1.e (by decide))
 have r3 := K1.obj h1.j.r (ne1 h1.j.r (by decide))
 have h3 := K1.obj h1.h (ne1 h1.h (by decide))
 have m3 : MpI w3 mb mm FF := h1.m.keep K1 (map_ne (k := 0) h1.o h1.m)
 have b3 : Below w0.heap.size w0 w3 := h1.j.b.trans (K1.below h1.j.b.size (fun k hk e => by
  have := (row_cells h1.o e.symm).1
  omega))
 have KS := kset (P := fun k => k = eb) w3 eb 1 (.slice (some ⟨g, 0, none⟩) (n + 1) cap) rfl
 refine ⟨blk_cell e3 1, frozen_of_row w3 _ 1 _ _ e3, ⟨⟨by simp [h.sl.1], fun j hj => ?_⟩, fun j hj => ?_, blk_set e3 rfl, ?_, ⟨b3.trans (KS.below b3.size (fun k hk e => by have := h.ge; omega)), KS.obj r3 (fun e => by have := h.ne; omega), h.j.g⟩, m3.keep KS ?_, KS.obj h3 (fun e => by subst e; rw [e3] at h3; simp at h3), h.ne, h.ge⟩⟩
 ·by_cases e : j = n
  ·subst e
   rw [hat]
   simp [List.getD, h.sl.1]
  ·rw [h.sl.2 j (by omega)]
   simp [List.getD, List.getElem?_append, show j < ss.length by have := h.sl.1; omega]
 ·by_cases e : j = n
  ·subst e; exact hwh
  ·exact h.wh j (by omega)
 ·rw [slCells_app]
  refine KS.owns hown fun k hk e => ?_
  obtain ⟨_, cur, hc⟩ := row_cells hown hk
  subst e
  rw [e3] at hc
  simp at hc
 ·intro e
  obtain ⟨D, ⟨es, cl, h1', _⟩, _⟩ := m3
  subst e
  rw [e3] at h1'
  cases h1'
theorem J3.fin (h : J3 w0 w cs bs rb eb mb mm hb FF hv n a c ss) : Below w0.heap.size w0 (w.setCells rb 0 (endV bs a n c)) ∧ (w.setCells rb 0 (endV bs a n c)).heap[rb]? = some (.cells (endV bs a n c).toArray 79 (0, 0)) ∧ (w.setCells rb 0 (endV bs a n c)).ownsRow w0.heap.size 76 2 (.slice a n c) n (slCells ss) := by
 obtain ⟨h1, h2⟩ := h.j.set (endV bs a n c) rfl
 refine ⟨h1, h2, (ksets (P := fun k => k = rb) (b := rb) rfl _ _ _).owns h.o fun k hk e => ?_⟩
 obtain ⟨_, cur, hc⟩ := row_cells h.o hk
 subst e
 rw [h.j.r] at hc
 simp at hc
end
set_option maxHeartbeats 16000000 in
theorem join_any {ao : Option Addr} {cp : Nat} {fs : List Fl} (hr : RdFs w ao fs) (hn : fs.length ≤ 17) : Calls Try.prog 30 #[.slice ao fs.length cp] w (JOut fs w) := by
 have HR : Hid (RdFs w ao fs) := hr
 have hcl := cos_len fs
 generalize hL : fs.length = L at *
 have HLe : Hid (fs.length = L) := hL
 have HcL : Hid ((cos fs).length = L) := hcl
 clear hr hL hcl
 generalize hW0 : w.alloc (.cells #[.int .i64 0, .slice none 0 0] 79) = W0
 have HJ0 : Hid (Jst w W0 w.heap.size) := ⟨hW0 ▸ balloc (Below.refl _ _), by rw [← hW0]; exact heap_alloc_new w _, Nat.le_refl _⟩
 go_enter Try.func30, Try.ntmps30
 go_wp2
 clear hW0
 generalize hrb : w.heap.size = rb at HJ0
 have Hrb : Hid (w.heap.size = rb) := hrb
 try rw [hrb]
 clear hrb
 go_loopw [17] (fun i wr => ∃ c : Nat, c ≤ L ∧ i = .int .i64 c ∧ (∀ k, k < c → sound ((cos fs).getD k c0) = true) ∧ Jst w wr rb) (fun i _ => L - (intOf i).toNat)
 case atStart => exact ⟨0, Nat.zero_le _, rfl, fun k hk => by omega, HJ0.out⟩
 case round =>
  obtain ⟨c, hc, rfl, hsn, hj⟩ := hrel
  have HJ : Hid (Jst w wr rb) := hj
  have HS : Hid (∀ k, k < c → sound ((cos fs).getD k c0) = true) := hsn
  clear hj hsn HJ0
  by_cases hlt : c < L
  ·have hrw := HR.out.still HJ.out.b
   obtain ⟨b, off, rfl, hcc⟩ := hrw.at (i := c) (by rw [HLe.out]; exact hlt)
   have HC : Hid (wr.rangeAt b (off + c * 7) (fs.getD c fl0).cs) := hcc
   have Hfw : Hid ((fs.getD c fl0).Rd w) := HR.out.el c (by rw [HLe.out]; exact hlt)
   have HcA : Hid ((cos fs).getD c c0 = (fs.getD c fl0).c) := cos_at fs c
   clear hrw hcc
   have i1 : (0 : Int) ≤ (c : Int) := Int.natCast_nonneg _
   have i2 : (c : Int) < (L : Int) := by omega
   generalize fs.getD c fl0 = f at *
   have Hl7 : Hid (f.cs.length = 7) := rfl
   go_wp2_with (first
    | (refine load_mid 28 (.tmp 19) HC.out _ Try.underlying28 rfl (by rw [Hl7.out]; exact info_flush) rfl rfl rfl ?_)
    | (refine wl_st 28 (.tmp 5) (.tmp 20) rfl ?_)
    | fail)
   refine wl_store 28 (.tmp 5) (.tmp 20) (L := f.cs) (new_there _ _ _ rfl) info_flush (flcs_one _) rfl rfl rfl (by kernel_rfl) ?_
   simp only [Act.put,gA9,gZ9,gC9,sA9,sZ9,sC9]
   refine ⟨?_⟩
   obtain ⟨hn1, hn2⟩ := newvar wr 28 #[.int .i64 0, .int .i64 0, .int .i64 0, .int .i64 0, .int .i64 0, .slice none 0 0, .slice none 0 0] (f.cs) rfl
   have HJn : Hid (Jst w ((wr.alloc (.cells #[.int .i64 0, .int .i64 0, .int .i64 0, .int .i64 0, .int .i64 0, .slice none 0 0, .slice none 0 0] 28)).setCells wr.heap.size 0 (f.cs)) rb) := HJ.out.still hn1
   have Hvb : Hid (((wr.alloc (.cells #[.int .i64 0, .int .i64 0, .int .i64 0, .int .i64 0, .int .i64 0, .slice none 0 0, .slice none 0 0] 28)).setCells wr.heap.size 0 (f.cs)).heap[wr.heap.size]? = some (.cells (f.cs).toArray 28 (0, 0))) := hn2
   have Hn1 : Hid (Below wr.heap.size wr ((wr.alloc (.cells #[.int .i64 0, .int .i64 0, .int .i64 0, .int .i64 0, .int .i64 0, .slice none 0 0, .slice none 0 0] 28)).setCells wr.heap.size 0 (f.cs))) := hn1
   clear hn1 hn2 HJ
   generalize (wr.alloc (.cells #[.int .i64 0, .int .i64 0, .int .i64 0, .int .i64 0, .int .i64 0, .slice none 0 0, .slice none 0 0] 28)).setCells wr.heap.size 0 (f.cs) = V at *
   generalize hvb : wr.heap.size = vb at *
   have Hvbvb : Hid (wr.heap.size = vb) := hvb
   clear hvb
   have HJ := HJn
   clear HJn
   have HM : Hid (Calls Try.prog 58 #[.agg f.cs.toArray] V fun e w' => e = .returned (.bool (sound f.c)) ∧ Below V.heap.size V w') := isSound_any (Hfw.out.still HJ.out.b)
   cases hsd : sound f.c with
   | true =>
    rw [hsd] at HM
    have HS2 : Hid (∀ k, k < c + 1 → sound ((cos fs).getD k c0) = true) := fun k hk => by
     by_cases e : k = c
     ·rw [e, HcA.out]; exact hsd
     ·exact HS.out k (by omega)
    clear hsd
    go_wp2_with (first
     | (refine load_mid 28 (.tmp 5) (blk_range Hvb.out) _ Try.underlying28 rfl (by rw [Hl7.out]; exact info_flush) rfl rfl rfl ?_)
     | (go_at_call 58; refine HM.out.mono ?_; rintro e V2 ⟨rfl, hb2⟩)
     | fail)
    exact ⟨⟨c + 1, by omega, by go_num, HS2.out, HJ.out.still hb2⟩, by simp [intOf]; omega⟩
   | false =>
    rw [hsd] at HM
    have HE : Hid (togE (cos fs) = 1) := tog_unsound (i := c) (by rw [HcL.out]; exact hlt) (by rw [HcA.out]; exact hsd)
    clear hsd
    go_wp2_with (first
     | (refine load_mid 28 (.tmp 5) (blk_range Hvb.out) _ Try.underlying28 rfl (by rw [Hl7.out]; exact info_flush) rfl rfl rfl ?_)
     | (go_at_call 58; refine HM.out.mono ?_; rintro e V2 ⟨rfl, hb2⟩)
     | (refine wl_st 79 (.tmp 2) (.tmp 24) rfl ?_)
     | fail)
    have HJ2 : Hid (Jst w V2 rb) := HJ.out.still hb2
    clear hb2
    refine wl_store 79 (.tmp 2) (.tmp 24) (L := endV 0 none 0 0) HJ2.out.there info_end (endV_one _ _ _ _) rfl rfl rfl (by kernel_rfl) ?_
    simp only [Act.put,gA9,gZ9,gC9,sA9,sZ9,sC9]
    refine ⟨?_⟩
    obtain ⟨hs1, hs2⟩ := HJ2.out.set (endV 0 none 0 0) rfl
    generalize V2.setCells rb 0 (endV 0 none 0 0) = V3 at *
    go_wp2
    (try simp only [Exit.inBlock, Exit.then]); refine bodyPost_ret (res_end rfl _ _ rb (endV 0 none 0 0) (.int .i64 1) rfl rfl rfl (blk_range hs2)) rfl ?_
    exact ⟨hs1, .inl ⟨by rw [HE.out]; decide, by rw [HE.out]⟩⟩
  ·obtain rfl : L = c := by omega
   go_wp2
   go_loopw [6, 28] (fun bv i wr => ∃ c : Nat, c ≤ L ∧ i = .int .i64 c ∧ bv = .int .i64 (baseK (cos fs) c) ∧ (∀ k, k < c → alike (cos fs) k = true) ∧ Jst w wr rb) (fun _ i _ => L - (intOf i).toNat)
   case atStart => exact ⟨0, Nat.zero_le _, rfl, rfl, fun k hk => by omega, HJ.out⟩
   case round =>
    obtain ⟨c, hc, rfl, rfl, hal, hj⟩ := hrel
    have HA : Hid (∀ k, k < c → alike (cos fs) k = true) := hal
    clear HJ
    have HJ : Hid (Jst w wr rb) := hj
    clear hj hal
    by_cases hlt : c < L
    ·have hrw := HR.out.still HJ.out.b
     obtain ⟨b, off, rfl, hcc⟩ := hrw.at (i := c) (by rw [HLe.out]; exact hlt)
     have HC : Hid (wr.rangeAt b (off + c * 7) (fs.getD c fl0).cs) := hcc
     obtain ⟨b', off', hb', hcc0⟩ := hrw.at (i := 0) (by rw [HLe.out]; omega)
     have hb2 : b = b' ∧ off = off' := by simpa using hb'
     obtain ⟨rfl, rfl⟩ := hb2
     have HC0 : Hid (wr.rangeAt b off (fs.getD 0 fl0).cs) := by rw [Nat.zero_mul, Nat.add_zero] at hcc0; exact hcc0
     have HcA : Hid ((cos fs).getD c c0 = (fs.getD c fl0).c) := cos_at fs c
     have Hc0 : Hid ((cos fs).getD 0 c0 = (fs.getD 0 fl0).c) := cos_at fs 0
     have Hbk : Hid (baseK (cos fs) (c + 1) = max (baseK (cos fs) c) (fs.getD c fl0).c.base) := (show baseK (cos fs) (c + 1) = _ from by show max _ ((cos fs).getD c c0).base = _; rw [HcA.out])
     have Hal : Hid (alike (cos fs) c = (decide ((fs.getD c fl0).c.id = (fs.getD 0 fl0).c.id) && decide ((fs.getD c fl0).c.hv.length = (fs.getD 0 fl0).c.hv.length))) := (show alike (cos fs) c = _ from by unfold alike; rw [HcA.out, Hc0.out])
     have Hr64 : Hid (i64B (baseK (cos fs) c) ∧ i64B (fs.getD c fl0).c.base) := by
      have h1 := baseK_nn (cos fs) c
      have h2 := baseK_le (cos fs) (fun i hi => (sound_iff _).1 (HS.out i (by rw [← HcL.out]; exact hi))) c (by rw [HcL.out]; exact hc)
      have h3 := ((HR.out.el c (by rw [HLe.out]; exact hlt))).b
      exact ⟨⟨by omega, by omega⟩, h3⟩
     clear hrw hcc hcc0 hb'
     have i1 : (0 : Int) ≤ (c : Int) := Int.natCast_nonneg _
     have i2 : (c : Int) < (L : Int) := by omega
     have i3 : (0 : Int) < (L : Int) := by omega
     generalize fs.getD c fl0 = f at *
     generalize fs.getD 0 fl0 = f0 at *
     have Hl7 : Hid (f.cs.length = 7) := rfl
     go_wp2_with (first
      | (refine load_mid 28 (.tmp 30) HC.out _ Try.underlying28 rfl (by rw [Hl7.out]; exact info_flush) rfl rfl rfl ?_)
      | (refine wl_st 28 (.tmp 8) (.tmp 31) rfl ?_)
      | fail)
     refine wl_store 28 (.tmp 8) (.tmp 31) (L := f.cs) (new_there _ _ _ rfl) info_flush (flcs_one _) rfl rfl rfl (by kernel_rfl) ?_
     simp only [Act.put,gA9,gZ9,gC9,sA9,sZ9,sC9]
     refine ⟨?_⟩
     obtain ⟨hn1, hn2⟩ := newvar wr 28 #[.int .i64 0, .int .i64 0, .int .i64 0, .int .i64 0, .int .i64 0, .slice none 0 0, .slice none 0 0] (f.cs) rfl
     have HJn : Hid (Jst w ((wr.alloc (.cells #[.int .i64 0, .int .i64 0, .int .i64 0, .int .i64 0, .int .i64 0, .slice none 0 0, .slice none 0 0] 28)).setCells wr.heap.size 0 (f.cs)) rb) := HJ.out.still hn1
     have Hvb : Hid (((wr.alloc (.cells #[.int .i64 0, .int .i64 0, .int .i64 0, .int .i64 0, .int .i64 0, .slice none 0 0, .slice none 0 0] 28)).setCells wr.heap.size 0 (f.cs)).heap[wr.heap.size]? = some (.cells (f.cs).toArray 28 (0, 0))) := hn2
     have Hn1 : Hid (Below wr.heap.size wr ((wr.alloc (.cells #[.int .i64 0, .int .i64 0, .int .i64 0, .int .i64 0, .int .i64 0, .slice none 0 0, .slice none 0 0] 28)).setCells wr.heap.size 0 (f.cs))) := hn1
     clear hn1 hn2 HJ
     generalize (wr.alloc (.cells #[.int .i64 0, .int .i64 0, .int .i64 0, .int .i64 0, .int .i64 0, .slice none 0 0, .slice none 0 0] 28)).setCells wr.heap.size 0 (f.cs) = V at *
     generalize hvb : wr.heap.size = vb at *
     have Hvbvb : Hid (wr.heap.size = vb) := hvb
     clear hvb
     have HJ := HJn
     clear HJn
     have r1 := id_range Hvb.out
     have r6 : V.cell? ⟨vb, 6, none⟩ = some (.slice f.ha f.c.hv.length f.hc) := blk_cell Hvb.out 6
     have q4 : V.cell? ⟨vb, 4, none⟩ = some (.int .i64 f.c.base) := blk_cell Hvb.out 4
     have hn1 := Hn1.out
     rw [← Hvbvb.out] at hn1
     have hC0 : V.rangeAt b off f0.cs := fun j v hv => below_at hn1 (HC0.out j v hv)
     clear hn1
     have r0 := id_at hC0
     have r06 := have_at hC0
     have Hi4 : Hid (f.c.id.cs.length = 4) := rfl
     have Hi04 : Hid (f0.c.id.cs.length = 4) := rfl
     have HEq : Hid (∀ W, (Op.equalIn 10000 24 (.agg f.c.id.cs.toArray) (.agg f0.c.id.cs.toArray)).run Try.prog W = .ok (decide (f.c.id = f0.c.id)) W) := fun W => eq_vid _ _
     clear hC0 HC0 HC Hn1
     generalize f.c.hv.length = n1 at *
     generalize f0.c.hv.length = n2 at *
     generalize f.c.id.cs = d1 at *
     generalize f0.c.id.cs = d2 at *
     generalize f.c.base = bs at *
     by_cases hx : f.c.id = f0.c.id
     ·rw [decide_eq_true hx] at HEq
      by_cases hy : n1 = n2
      ·have HA2 : Hid (∀ k, k < c + 1 → alike (cos fs) k = true) := fun k hk => by
        by_cases e : k = c
        ·rw [e, Hal.out, decide_eq_true hx, decide_eq_true hy]; rfl
        ·exact HA.out k (by omega)
       clear hx
       go_wp2_with (fail)
       refine wp_region_held_drew (S := (fun w' => w'.rangeAt vb 0 d1 ∧ w'.rangeAt b off d2 ∧ w'.cell? ⟨vb, 6, none⟩ = some (.slice f.ha n1 f.hc) ∧ w'.cell? ⟨b, off + 6, none⟩ = some (.slice f0.ha n2 f0.hc))) (by kernel_rfl) ⟨r1, r0, below_at (Below.refl _ _).drew r6, below_at (Below.refl _ _).drew r06⟩ (fun hHeld => ?_)
       simp only [Act.put, List.size_toArray, List.length_cons, List.length_nil, Nat.zero_add]
       refine wG9 0 (.pointer (some ⟨vb, 0, none⟩)) rfl hHeld ?_
       simp only [Act.put,gA9,gZ9,gC9,sA9,sZ9,sC9]
       refine wpAnyH_take (i := 1) (v := .agg (d1).toArray) rfl (by kernel_rfl) (by kernel_rfl) (by kernel_rfl) (fun _ _ _ h => h) (yieldsIf_load_mid (by rfl) 24 (.tmp 32) rfl vb (0) (by rfl) (d1) _ (fun w' hS => hS.1) Try.underlying24 rfl (by rw [Hi4.out]; exact info_id)) hHeld ?_
       simp only [Act.put,gA9,gZ9,gC9,sA9,sZ9,sC9]
       refine wG9 2 (.slice (some ⟨b, off, none⟩) L cp) rfl hHeld ?_
       simp only [Act.put,gA9,gZ9,gC9,sA9,sZ9,sC9]
       refine wX9 3 (.pointer (some ⟨b, off, none⟩)) rfl (Or.inl ⟨by rfl, fun w' hS => by (go_simp; intro hz; omega)⟩) hHeld ?_
       simp only [Act.put,gA9,gZ9,gC9,sA9,sZ9,sC9]
       refine wG9 4 (.pointer (some ⟨b, off, none⟩)) rfl hHeld ?_
       simp only [Act.put,gA9,gZ9,gC9,sA9,sZ9,sC9]
       refine wpAnyH_take (i := 5) (v := .agg (d2).toArray) rfl (by kernel_rfl) (by kernel_rfl) (by kernel_rfl) (fun _ _ _ h => h) (yieldsIf_load_mid (by rfl) 24 (.tmp 36) rfl b (off) (by rfl) (d2) _ (fun w' hS => hS.2.1) Try.underlying24 rfl (by rw [Hi04.out]; exact info_id)) hHeld ?_
       simp only [Act.put,gA9,gZ9,gC9,sA9,sZ9,sC9]
       refine wX9 6 (.bool false) rfl (Or.inl ⟨by rfl, fun w' hS => run_neqop 24 (.tmp 33) (.tmp 37) 24 rfl _ _ (by rfl) (by rfl) guard_id true (HEq.out _)⟩) hHeld ?_
       simp only [Act.put,gA9,gZ9,gC9,sA9,sZ9,sC9]
       refine wG9 7 (.bool false) rfl hHeld ?_
       simp only [Act.put,gA9,gZ9,gC9,sA9,sZ9,sC9]
       refine wG9 8 (.pointer (some ⟨vb, 6, none⟩)) rfl hHeld ?_
       simp only [Act.put,gA9,gZ9,gC9,sA9,sZ9,sC9]
       refine wX9 9 (.slice f.ha n1 f.hc) rfl (Or.inl ⟨by rfl, fun w' hS => by (obtain ⟨s1, s0, s6, s06⟩ := hS; go_simp)⟩) hHeld ?_
       simp only [Act.put,gA9,gZ9,gC9,sA9,sZ9,sC9]
       refine wG9 10 (.int .i64 (n1 : Int)) rfl hHeld ?_
       simp only [Act.put,gA9,gZ9,gC9,sA9,sZ9,sC9]
       refine wG9 11 (.slice (some ⟨b, off, none⟩) L cp) rfl hHeld ?_
       simp only [Act.put,gA9,gZ9,gC9,sA9,sZ9,sC9]
       refine wX9 12 (.pointer (some ⟨b, off, none⟩)) rfl (Or.inl ⟨by rfl, fun w' hS => by (go_simp; intro hz; omega)⟩) hHeld ?_
       simp only [Act.put,gA9,gZ9,gC9,sA9,sZ9,sC9]
       refine wG9 13 (.pointer (some ⟨b, off + 6, none⟩)) rfl hHeld ?_
       simp only [Act.put,gA9,gZ9,gC9,sA9,sZ9,sC9]
       refine wX9 14 (.slice f0.ha n2 f0.hc) rfl (Or.inl ⟨by rfl, fun w' hS => by (obtain ⟨s1, s0, s6, s06⟩ := hS; go_simp)⟩) hHeld ?_
       simp only [Act.put,gA9,gZ9,gC9,sA9,sZ9,sC9]
       refine wG9 15 (.int .i64 (n2 : Int)) rfl hHeld ?_
       simp only [Act.put,gA9,gZ9,gC9,sA9,sZ9,sC9]
       refine wX9 16 (.bool false) rfl (Or.inl ⟨by rfl, fun w' hS => by (go_simp <;> omega)⟩) hHeld ?_
       simp only [Act.put,gA9,gZ9,gC9,sA9,sZ9,sC9]
       refine wG9 17 (.bool false) rfl hHeld ?_
       simp only [Act.put,gA9,gZ9,gC9,sA9,sZ9,sC9]
       refine wpAnyH_done (by kernel_rfl) ?_ _
       clear hHeld
       have HJ2 : Hid (Jst w V.drew rb) := HJ.out.still (Below.refl _ _).drew
       have q42 : V.drew.cell? ⟨vb, 4, none⟩ = some (.int .i64 bs) := below_at (Below.refl _ _).drew q4
       clear HJ q4 r1 r0 r6 r06 HEq Hvb
       generalize V.drew = V2 at *
       go_wp2_with (first | (refine wl_at 52 rfl ?_) | fail)
       generalize hbk : baseK (cos fs) c = bk at *
       clear hbk
       refine wT9 ?_
       simp only [Act.put,gA9,gZ9,gC9,sA9,sZ9,sC9]
       refine wT9 ?_
       simp only [Act.put,gA9,gZ9,gC9,sA9,sZ9,sC9]
       refine wl_take (v := .int .i64 (max bk bs)) (by kernel_rfl) (by go_simp; split <;> first | omega | (congr 1; omega)) ?_
       simp only [Act.put,gA9,gZ9,gC9,sA9,sZ9,sC9]
       refine wT9 ?_
       simp only [Act.put,gA9,gZ9,gC9,sA9,sZ9,sC9]
       refine ⟨?_⟩
       go_wp2
       exact ⟨⟨c + 1, by omega, by go_num, by rw [Hbk.out], HA2.out, HJ2.out⟩, by simp [intOf]; omega⟩
      ·have hx2 : (decide (f.c.id = f0.c.id) && decide (n1 = n2)) = false := by rw [decide_eq_false hy]; simp
       have HE : Hid (togE (cos fs) = 80) := tog_unlike (i := c) (fun k hk => HS.out k (by rw [← HcL.out]; exact hk)) (by rw [HcL.out]; exact hlt) (by rw [Hal.out, hx2])
       clear hx hx2
       go_wp2_with (fail)
       refine wp_region_held_drew (S := (fun w' => w'.rangeAt vb 0 d1 ∧ w'.rangeAt b off d2 ∧ w'.cell? ⟨vb, 6, none⟩ = some (.slice f.ha n1 f.hc) ∧ w'.cell? ⟨b, off + 6, none⟩ = some (.slice f0.ha n2 f0.hc))) (by kernel_rfl) ⟨r1, r0, below_at (Below.refl _ _).drew r6, below_at (Below.refl _ _).drew r06⟩ (fun hHeld => ?_)
       simp only [Act.put, List.size_toArray, List.length_cons, List.length_nil, Nat.zero_add]
       refine wG9 0 (.pointer (some ⟨vb, 0, none⟩)) rfl hHeld ?_
       simp only [Act.put,gA9,gZ9,gC9,sA9,sZ9,sC9]
       refine wpAnyH_take (i := 1) (v := .agg (d1).toArray) rfl (by kernel_rfl) (by kernel_rfl) (by kernel_rfl) (fun _ _ _ h => h) (yieldsIf_load_mid (by rfl) 24 (.tmp 32) rfl vb (0) (by rfl) (d1) _ (fun w' hS => hS.1) Try.underlying24 rfl (by rw [Hi4.out]; exact info_id)) hHeld ?_
       simp only [Act.put,gA9,gZ9,gC9,sA9,sZ9,sC9]
       refine wG9 2 (.slice (some ⟨b, off, none⟩) L cp) rfl hHeld ?_
       simp only [Act.put,gA9,gZ9,gC9,sA9,sZ9,sC9]
       refine wX9 3 (.pointer (some ⟨b, off, none⟩)) rfl (Or.inl ⟨by rfl, fun w' hS => by (go_simp; intro hz; omega)⟩) hHeld ?_
       simp only [Act.put,gA9,gZ9,gC9,sA9,sZ9,sC9]
       refine wG9 4 (.pointer (some ⟨b, off, none⟩)) rfl hHeld ?_
       simp only [Act.put,gA9,gZ9,gC9,sA9,sZ9,sC9]
       refine wpAnyH_take (i := 5) (v := .agg (d2).toArray) rfl (by kernel_rfl) (by kernel_rfl) (by kernel_rfl) (fun _ _ _ h => h) (yieldsIf_load_mid (by rfl) 24 (.tmp 36) rfl b (off) (by rfl) (d2) _ (fun w' hS => hS.2.1) Try.underlying24 rfl (by rw [Hi04.out]; exact info_id)) hHeld ?_
       simp only [Act.put,gA9,gZ9,gC9,sA9,sZ9,sC9]
       refine wX9 6 (.bool false) rfl (Or.inl ⟨by rfl, fun w' hS => run_neqop 24 (.tmp 33) (.tmp 37) 24 rfl _ _ (by rfl) (by rfl) guard_id true (HEq.out _)⟩) hHeld ?_
       simp only [Act.put,gA9,gZ9,gC9,sA9,sZ9,sC9]
       refine wG9 7 (.bool false) rfl hHeld ?_
       simp only [Act.put,gA9,gZ9,gC9,sA9,sZ9,sC9]
       refine wG9 8 (.pointer (some ⟨vb, 6, none⟩)) rfl hHeld ?_
       simp only [Act.put,gA9,gZ9,gC9,sA9,sZ9,sC9]
       refine wX9 9 (.slice f.ha n1 f.hc) rfl (Or.inl ⟨by rfl, fun w' hS => by (obtain ⟨s1, s0, s6, s06⟩ := hS; go_simp)⟩) hHeld ?_
       simp only [Act.put,gA9,gZ9,gC9,sA9,sZ9,sC9]
       refine wG9 10 (.int .i64 (n1 : Int)) rfl hHeld ?_
       simp only [Act.put,gA9,gZ9,gC9,sA9,sZ9,sC9]
       refine wG9 11 (.slice (some ⟨b, off, none⟩) L cp) rfl hHeld ?_
       simp only [Act.put,gA9,gZ9,gC9,sA9,sZ9,sC9]
       refine wX9 12 (.pointer (some ⟨b, off, none⟩)) rfl (Or.inl ⟨by rfl, fun w' hS => by (go_simp; intro hz; omega)⟩) hHeld ?_
       simp only [Act.put,gA9,gZ9,gC9,sA9,sZ9,sC9]
       refine wG9 13 (.pointer (some ⟨b, off + 6, none⟩)) rfl hHeld ?_
       simp only [Act.put,gA9,gZ9,gC9,sA9,sZ9,sC9]
       refine wX9 14 (.slice f0.ha n2 f0.hc) rfl (Or.inl ⟨by rfl, fun w' hS => by (obtain ⟨s1, s0, s6, s06⟩ := hS; go_simp)⟩) hHeld ?_
       simp only [Act.put,gA9,gZ9,gC9,sA9,sZ9,sC9]
       refine wG9 15 (.int .i64 (n2 : Int)) rfl hHeld ?_
       simp only [Act.put,gA9,gZ9,gC9,sA9,sZ9,sC9]
       refine wX9 16 (.bool true) rfl (Or.inl ⟨by rfl, fun w' hS => by (go_simp <;> omega)⟩) hHeld ?_
       simp only [Act.put,gA9,gZ9,gC9,sA9,sZ9,sC9]
       refine wG9 17 (.bool true) rfl hHeld ?_
       simp only [Act.put,gA9,gZ9,gC9,sA9,sZ9,sC9]
       refine wpAnyH_done (by kernel_rfl) ?_ _
       clear hHeld
       have HJ2 : Hid (Jst w V.drew rb) := HJ.out.still (Below.refl _ _).drew
       have q42 : V.drew.cell? ⟨vb, 4, none⟩ = some (.int .i64 bs) := below_at (Below.refl _ _).drew q4
       clear HJ q4 r1 r0 r6 r06 HEq Hvb
       generalize V.drew = V2 at *
       go_wp2_with (first | (refine wl_st 79 (.tmp 2) (.tmp 50) rfl ?_) | fail)
       refine wl_store 79 (.tmp 2) (.tmp 50) (L := endV 0 none 0 0) HJ2.out.there info_end (endV_one _ _ _ _) rfl rfl rfl (by kernel_rfl) ?_
       simp only [Act.put,gA9,gZ9,gC9,sA9,sZ9,sC9]
       refine ⟨?_⟩
       obtain ⟨hs1, hs2⟩ := HJ2.out.set (endV 0 none 0 0) rfl
       generalize V2.setCells rb 0 (endV 0 none 0 0) = V3 at *
       go_wp2
       (try simp only [Exit.inBlock, Exit.then]); refine bodyPost_ret (res_end rfl _ _ rb (endV 0 none 0 0) (.int .i64 80) rfl rfl rfl (blk_range hs2)) rfl ?_
       exact ⟨hs1, .inl ⟨by rw [HE.out]; decide, by rw [HE.out]⟩⟩
     ·rw [decide_eq_false hx] at HEq
      have hx2 : (decide (f.c.id = f0.c.id) && decide (n1 = n2)) = false := by rw [decide_eq_false hx]; rfl
      have HE : Hid (togE (cos fs) = 80) := tog_unlike (i := c) (fun k hk => HS.out k (by rw [← HcL.out]; exact hk)) (by rw [HcL.out]; exact hlt) (by rw [Hal.out, hx2])
      clear hx hx2
      go_wp2_with (fail)
      refine wp_region_held_drew (S := (fun w' => w'.rangeAt vb 0 d1 ∧ w'.rangeAt b off d2 ∧ w'.cell? ⟨vb, 6, none⟩ = some (.slice f.ha n1 f.hc) ∧ w'.cell? ⟨b, off + 6, none⟩ = some (.slice f0.ha n2 f0.hc))) (by kernel_rfl) ⟨r1, r0, below_at (Below.refl _ _).drew r6, below_at (Below.refl _ _).drew r06⟩ (fun hHeld => ?_)
      simp only [Act.put, List.size_toArray, List.length_cons, List.length_nil, Nat.zero_add]
      refine wG9 0 (.pointer (some ⟨vb, 0, none⟩)) rfl hHeld ?_
      simp only [Act.put,gA9,gZ9,gC9,sA9,sZ9,sC9]
      refine wpAnyH_take (i := 1) (v := .agg (d1).toArray) rfl (by kernel_rfl) (by kernel_rfl) (by kernel_rfl) (fun _ _ _ h => h) (yieldsIf_load_mid (by rfl) 24 (.tmp 32) rfl vb (0) (by rfl) (d1) _ (fun w' hS => hS.1) Try.underlying24 rfl (by rw [Hi4.out]; exact info_id)) hHeld ?_
      simp only [Act.put,gA9,gZ9,gC9,sA9,sZ9,sC9]
      refine wG9 2 (.slice (some ⟨b, off, none⟩) L cp) rfl hHeld ?_
      simp only [Act.put,gA9,gZ9,gC9,sA9,sZ9,sC9]
      refine wX9 3 (.pointer (some ⟨b, off, none⟩)) rfl (Or.inl ⟨by rfl, fun w' hS => by (go_simp; intro hz; omega)⟩) hHeld ?_
      simp only [Act.put,gA9,gZ9,gC9,sA9,sZ9,sC9]
      refine wG9 4 (.pointer (some ⟨b, off, none⟩)) rfl hHeld ?_
      simp only [Act.put,gA9,gZ9,gC9,sA9,sZ9,sC9]
      refine wpAnyH_take (i := 5) (v := .agg (d2).toArray) rfl (by kernel_rfl) (by kernel_rfl) (by kernel_rfl) (fun _ _ _ h => h) (yieldsIf_load_mid (by rfl) 24 (.tmp 36) rfl b (off) (by rfl) (d2) _ (fun w' hS => hS.2.1) Try.underlying24 rfl (by rw [Hi04.out]; exact info_id)) hHeld ?_
      simp only [Act.put,gA9,gZ9,gC9,sA9,sZ9,sC9]
      refine wX9 6 (.bool true) rfl (Or.inl ⟨by rfl, fun w' hS => run_neqop 24 (.tmp 33) (.tmp 37) 24 rfl _ _ (by rfl) (by rfl) guard_id false (HEq.out _)⟩) hHeld ?_
      simp only [Act.put,gA9,gZ9,gC9,sA9,sZ9,sC9]
      refine wG9 7 (.bool true) rfl hHeld ?_
      simp only [Act.put,gA9,gZ9,gC9,sA9,sZ9,sC9]
      refine wS9 8 rfl hHeld ?_
      simp only [Act.put,gA9,gZ9,gC9,sA9,sZ9,sC9]
      refine wS9 9 rfl hHeld ?_
      simp only [Act.put,gA9,gZ9,gC9,sA9,sZ9,sC9]
      refine wS9 10 rfl hHeld ?_
      simp only [Act.put,gA9,gZ9,gC9,sA9,sZ9,sC9]
      refine wS9 11 rfl hHeld ?_
      simp only [Act.put,gA9,gZ9,gC9,sA9,sZ9,sC9]
      refine wS9 12 rfl hHeld ?_
      simp only [Act.put,gA9,gZ9,gC9,sA9,sZ9,sC9]
      refine wS9 13 rfl hHeld ?_
      simp only [Act.put,gA9,gZ9,gC9,sA9,sZ9,sC9]
      refine wS9 14 rfl hHeld ?_
      simp only [Act.put,gA9,gZ9,gC9,sA9,sZ9,sC9]
      refine wS9 15 rfl hHeld ?_
      simp only [Act.put,gA9,gZ9,gC9,sA9,sZ9,sC9]
      refine wS9 16 rfl hHeld ?_
      simp only [Act.put,gA9,gZ9,gC9,sA9,sZ9,sC9]
      refine wG9 17 (.bool true) rfl hHeld ?_
      simp only [Act.put,gA9,gZ9,gC9,sA9,sZ9,sC9]
      refine wpAnyH_done (by kernel_rfl) ?_ _
      clear hHeld
      have HJ2 : Hid (Jst w V.drew rb) := HJ.out.still (Below.refl _ _).drew
      have q42 : V.drew.cell? ⟨vb, 4, none⟩ = some (.int .i64 bs) := below_at (Below.refl _ _).drew q4
      clear HJ q4 r1 r0 r6 r06 HEq Hvb
      generalize V.drew = V2 at *
      go_wp2_with (first | (refine wl_st 79 (.tmp 2) (.tmp 50) rfl ?_) | fail)
      refine wl_store 79 (.tmp 2) (.tmp 50) (L := endV 0 none 0 0) HJ2.out.there info_end (endV_one _ _ _ _) rfl rfl rfl (by kernel_rfl) ?_
      simp only [Act.put,gA9,gZ9,gC9,sA9,sZ9,sC9]
      refine ⟨?_⟩
      obtain ⟨hs1, hs2⟩ := HJ2.out.set (endV 0 none 0 0) rfl
      generalize V2.setCells rb 0 (endV 0 none 0 0) = V3 at *
      go_wp2
      (try simp only [Exit.inBlock, Exit.then]); refine bodyPost_ret (res_end rfl _ _ rb (endV 0 none 0 0) (.int .i64 80) rfl rfl rfl (blk_range hs2)) rfl ?_
      exact ⟨hs1, .inl ⟨by rw [HE.out]; decide, by rw [HE.out]⟩⟩
    ·obtain rfl : L = c := by omega
     have HA2 : Hid (∀ k, k < (cos fs).length → alike (cos fs) k = true) := fun k hk => HA.out k (by rw [← HcL.out]; exact hk)
     have HS2 : Hid (∀ k, k < (cos fs).length → sound ((cos fs).getD k c0) = true) := fun k hk => HS.out k (by rw [← HcL.out]; exact hk)
     clear HA HS
     have HPl := placed_any (cp := cp) (HR.out.still HJ.out.b) (by rw [HLe.out]; exact hn) (fun i hi => by rw [← cos_at]; exact (sound_iff _).1 (HS2.out i (by rw [HcL.out, ← HLe.out]; exact hi)))
     rw [HLe.out] at HPl
     have Hb0 : Hid (baseK (cos fs) L = baseOf (cos fs)) := (show baseK (cos fs) L = baseOf (cos fs) from by unfold baseOf; rw [HcL.out])
     rw [Hb0.out]
     have HT : Hid (togE (cos fs) = if forksB (cos fs) then 82 else 0) := tog_rest HS2.out HA2.out
     by_cases hcon : Con (allP (cos fs))
     ·have HP2 := HPl.mono (R' := fun e w' => ∃ b m F, e = .returned (.tuple #[.map (some b), .bool true]) ∧ Below wr.heap.size wr w' ∧ MpI w' b m F ∧ ∀ pos s, F pos = some s ↔ (pos, s) ∈ allP (cos fs)) (fun e w' h => by
       rcases h with ⟨hb, ⟨h1, _⟩ | ⟨_, b, m, F, he, hM, hF⟩⟩
       ·exact absurd hcon h1
       ·exact ⟨b, m, F, he, hb, hM, hF⟩)
      have HE : Hid (togE (cos fs) = 0) := (show togE (cos fs) = 0 from by rw [HT.out, (tog_con HS2.out).2 hcon]; rfl)
      have HTg : Hid (Tog (cos fs)) := tog_of HE.out
      have Hho : Hid (∀ W : World, Calls Try.prog 32 #[.slice ao L cp] W fun e w' => e = .returned (.func (.func 61) #[] #[.pointer (some ⟨W.heap.size, 0, none⟩)]) ∧ Below W.heap.size W w' ∧ w'.heap[W.heap.size]? = some (.cells #[.slice ao L cp] 22 (0, 0))) := fun W => holder_any ao L cp
      clear HPl hcon HT
      generalize hbs : baseOf (cos fs) = bs at *
      have Hbs : Hid (baseOf (cos fs) = bs) := hbs
      clear hbs
      go_wp2_with (first
       | (go_at_call 59; refine HP2.mono ?_; rintro e V ⟨mb, mm, FF, rfl, hbv, hM, hF⟩)
       | (go_at_call 32; refine (Hho.out _).mono ?_; rintro e V2 ⟨rfl, hbv2, hh2⟩)
       | (refine wl_st 79 (.tmp 11) (.tmp 65) rfl ?_)
       | fail)
      have HM : Hid (MpI V2 mb mm FF) := hM.still hbv2
      have HF : Hid (∀ pos s, FF pos = some s ↔ (pos, s) ∈ allP (cos fs)) := hF
      have HJ2 : Hid (Jst w V2 rb) := (HJ.out.still hbv).still hbv2
      generalize hhb : V.heap.size = hb at *
      have HH : Hid (V2.heap[hb]? = some (.cells #[.slice ao L cp] 22 (0, 0))) := hh2
      clear hM hF hbv hbv2 hh2 HP2 HJ hhb
      refine wl_store 79 (.tmp 11) (.tmp 65) (L := endV bs none 0 0) (new_there _ _ _ rfl) info_end (endV_one _ _ _ _) rfl rfl rfl (by kernel_rfl) ?_
      simp only [Act.put,gA9,gZ9,gC9,sA9,sZ9,sC9]
      refine ⟨?_⟩
      obtain ⟨hn1, hn2⟩ := newvar V2 79 #[.int .i64 0, .slice none 0 0] (endV bs none 0 0) rfl
      have HJ2n : Hid (Jst w ((V2.alloc (.cells #[.int .i64 0, .slice none 0 0] 79)).setCells V2.heap.size 0 (endV bs none 0 0)) rb) := HJ2.out.still hn1
      have HMn : Hid (MpI ((V2.alloc (.cells #[.int .i64 0, .slice none 0 0] 79)).setCells V2.heap.size 0 (endV bs none 0 0)) mb mm FF) := HM.out.still hn1
      have HHn : Hid (((V2.alloc (.cells #[.int .i64 0, .slice none 0 0] 79)).setCells V2.heap.size 0 (endV bs none 0 0)).heap[hb]? = some (.cells #[.slice ao L cp] 22 (0, 0))) := (hn1.block _ (lt_heap HH.out)).trans HH.out
      have Hltn : Hid (rb < V2.heap.size) := lt_heap HJ2.out.r
      have Heb : Hid (((V2.alloc (.cells #[.int .i64 0, .slice none 0 0] 79)).setCells V2.heap.size 0 (endV bs none 0 0)).heap[V2.heap.size]? = some (.cells (endV bs none 0 0).toArray 79 (0, 0))) := hn2
      have Hn1 : Hid (Below V2.heap.size V2 ((V2.alloc (.cells #[.int .i64 0, .slice none 0 0] 79)).setCells V2.heap.size 0 (endV bs none 0 0))) := hn1
      clear hn1 hn2 HJ2 HM HH
      generalize (V2.alloc (.cells #[.int .i64 0, .slice none 0 0] 79)).setCells V2.heap.size 0 (endV bs none 0 0) = V3 at *
      generalize hvb : V2.heap.size = eb at *
      have Hvbeb : Hid (V2.heap.size = eb) := hvb
      clear hvb
      have HJ2 := HJ2n
      clear HJ2n
      have HM := HMn
      clear HMn
      have HH := HHn
      clear HHn
      have Hlt := Hltn
      clear Hltn
      have H30 : Hid (J3 w V3 (cos fs) bs rb eb mb mm hb FF (.slice ao L cp) 0 none 0 []) := ⟨⟨rfl, fun j hj => by omega⟩, fun j hj => by omega, Heb.out, ⟨rfl, .inl ⟨rfl, rfl⟩⟩, HJ2.out, HM.out, HH.out, by have := Hvbeb.out; have := Hlt.out; omega, by have := HJ2.out.g; have := Hvbeb.out; have := Hlt.out; omega⟩
      clear HJ2 HM HH Heb Hn1
      go_wp2
      go_loopw [14] (fun _ wv => ∃ n a c ss, J3 w wv (cos fs) bs rb eb mb mm hb FF (.slice ao L cp) n a c ss) (fun _ wv => 129 - lenAt wv eb)
      case atStart => exact ⟨_, _, _, _, H30.out⟩
      case round =>
       obtain ⟨n, a, c, ss, h3⟩ := hrel
       have H3 : Hid (J3 w wr (cos fs) bs rb eb mb mm hb FF (.slice ao L cp) n a c ss) := h3
       clear h3 H30
       have hn128 : n ≤ 128 := Ends.le HTg.out H3.out.wh
       have hlen : lenAt wr eb = n := by unfold lenAt; rw [blk_cell H3.out.e 1]; rfl
       have hb0 : 0 ≤ bs := by rw [← Hbs.out]; exact baseK_nn _ _
       have hbM : bs ≤ 4611686018427387904 := by rw [← Hbs.out]; exact baseK_le _ HTg.out.snd _ (Nat.le_refl _)
       have Hcut : Hid (∀ W : World, Calls Try.prog 60 #[.agg (endV bs a n c).toArray] W fun e w' => e = .returned (.int .i64 (bs + n)) ∧ Below W.heap.size W w') := fun W => ecut_any bs a n c hb0 hbM (by omega)
       go_wp2_with (first | (refine wl_at 70 rfl ?_) | fail)
       refine wl_load 79 (.tmp 11) (blk_range H3.out.e) _ Try.underlying79 rfl info_end rfl rfl (by kernel_rfl) ?_
       simp only [Act.put,gA9,gZ9,gC9,sA9,sZ9,sC9]
       refine wl_step (by kernel_rfl) fun K hK => ?_
       go_simp
       refine (Hcut.out _).mono ?_
       rintro e V4 ⟨rfl, hb4⟩
       refine hK _ _ ?_
       clear hK K
       try (simp only [Act.put,gA9,gZ9,gC9,sA9,sZ9,sC9])
       have H4 : Hid (J3 w V4 (cos fs) bs rb eb mb mm hb FF (.slice ao L cp) n a c ss) := H3.out.still hb4
       clear hb4 H3
       refine wl_take (v := .int .i64 (bs + (n : Int) + 1)) (by kernel_rfl) (by go_simp; exact wrap_id (by omega) (by omega)) ?_
       simp only [Act.put,gA9,gZ9,gC9,sA9,sZ9,sC9]
       have HL : Hid ((Instr.lookup 113 (.map (some mb)) (.int .i64 (bs + (n : Int) + 1)) true).run Try.prog V4 = .ok (.tuple #[.agg (slotV ((FF (bs + (n : Int) + 1)).getD z2)).toArray, .bool (FF (bs + (n : Int) + 1)).isSome]) V4) := H4.out.m.look ⟨by omega, by omega⟩
       refine wl_look 113 (.tmp 69) (.tmp 72) true HL.out rfl rfl rfl (by kernel_rfl) ?_
       simp only [Act.put,gA9,gZ9,gC9,sA9,sZ9,sC9]
       refine ⟨?_⟩
       clear HL
       have hpos : bs + (n : Int) + 1 = baseOf (cos fs) + 1 + (n : Int) := by rw [Hbs.out]; omega
       have Hpos : Hid (bs + (n : Int) + 1 = baseOf (cos fs) + 1 + (n : Int)) := hpos
       have Hat : Hid (atP (cos fs) (baseOf (cos fs) + 1 + (n : Int)) = FF (bs + (n : Int) + 1)) := (show _ = _ from by
        rw [hpos]
        cases hq : FF (baseOf (cos fs) + 1 + (n : Int)) with
        | none =>
         cases hq2 : atP (cos fs) (baseOf (cos fs) + 1 + (n : Int)) with
         | none => rfl
         | some s => have := (HF.out _ s).2 ((atP_iff HTg.out.con _ s).1 hq2); rw [hq] at this; cases this
        | some s => exact (atP_iff HTg.out.con _ s).2 ((HF.out _ s).1 hq))
       clear hpos
       generalize FF (bs + (n : Int) + 1) = op at *
       generalize hpn : bs + (n : Int) + 1 = pn
       clear hpn
       generalize ho : op.getD z2 = o
       have Ho : Hid (op.getD z2 = o) := ho
       generalize hk : op.isSome = kn
       have Hk : Hid (op.isSome = kn) := hk
       clear ho hk
       go_wp2_with (first | (refine wl_st 76 (.tmp 13) (.tmp 74) rfl ?_) | fail)
       refine wl_store 76 (.tmp 13) (.tmp 74) (L := slotV o) (new_there _ _ _ rfl) info_slot (slotV_one _) rfl rfl rfl (by kernel_rfl) ?_
       simp only [Act.put,gA9,gZ9,gC9,sA9,sZ9,sC9]
       refine ⟨?_⟩
       obtain ⟨hn1, hn2⟩ := newvar V4 76 #[.int .i64 0, .int .i64 0] (slotV o) rfl
       have H4n : Hid (J3 w ((V4.alloc (.cells #[.int .i64 0, .int .i64 0] 76)).setCells V4.heap.size 0 (slotV o)) (cos fs) bs rb eb mb mm hb FF (.slice ao L cp) n a c ss) := H4.out.still hn1
       have Hv13 : Hid (((V4.alloc (.cells #[.int .i64 0, .int .i64 0] 76)).setCells V4.heap.size 0 (slotV o)).heap[V4.heap.size]? = some (.cells (slotV o).toArray 76 (0, 0))) := hn2
       have Hn1 : Hid (Below V4.heap.size V4 ((V4.alloc (.cells #[.int .i64 0, .int .i64 0] 76)).setCells V4.heap.size 0 (slotV o))) := hn1
       clear hn1 hn2 H4
       generalize (V4.alloc (.cells #[.int .i64 0, .int .i64 0] 76)).setCells V4.heap.size 0 (slotV o) = V5 at *
       generalize hvb : V4.heap.size = v13 at *
       have Hvbv13 : Hid (V4.heap.size = v13) := hvb
       clear hvb
       have H4 := H4n
       clear H4n
       cases kn with
       | false =>
        have Hend : Hid (Ends (cos fs) n) := ⟨H4.out.wh, (show whP (cos fs) _ = false from by unfold whP; rw [Hat.out, none_of Hk.out])⟩
        go_wp2_with (first | (refine wl_at 77 rfl ?_) | fail)
        refine wT9 ?_
        simp only [Act.put,gA9,gZ9,gC9,sA9,sZ9,sC9]
        refine wT9 ?_
        simp only [Act.put,gA9,gZ9,gC9,sA9,sZ9,sC9]
        refine wS9' ?_
        simp only [Act.put,gA9,gZ9,gC9,sA9,sZ9,sC9]
        refine wS9' ?_
        simp only [Act.put,gA9,gZ9,gC9,sA9,sZ9,sC9]
        refine wS9' ?_
        simp only [Act.put,gA9,gZ9,gC9,sA9,sZ9,sC9]
        refine wS9' ?_
        simp only [Act.put,gA9,gZ9,gC9,sA9,sZ9,sC9]
        refine wT9 ?_
        simp only [Act.put,gA9,gZ9,gC9,sA9,sZ9,sC9]
        refine ⟨?_⟩
        go_wp2_with (first
         | (refine load_mid 79 (.tmp 11) (blk_range H4.out.e) _ Try.underlying79 rfl info_end rfl rfl rfl ?_)
         | (refine wl_st 79 (.tmp 2) (.tmp 84) rfl ?_)
         | fail)
        refine wl_store 79 (.tmp 2) (.tmp 84) (L := endV bs a n c) H4.out.j.there info_end (endV_one _ _ _ _) rfl rfl rfl (by kernel_rfl) ?_
        simp only [Act.put,gA9,gZ9,gC9,sA9,sZ9,sC9]
        refine ⟨?_⟩
        obtain ⟨hs1, hs2, hs3⟩ := H4.out.fin
        have Hsl : Hid (SlOf (cos fs) n ss) := H4.out.sl
        clear H4
        generalize V5.setCells rb 0 (endV bs a n c) = V7 at *
        go_wp2
        (try simp only [Exit.inBlock, Exit.then]); refine bodyPost_ret (res_end rfl _ _ rb (endV bs a n c) (.int .i64 0) rfl rfl rfl (blk_range hs2)) rfl ?_
        exact ⟨hs1, .inr ⟨HE.out, n, a, c, ss, Hend.out, Hsl.out, by rw [Hbs.out], hs3⟩⟩
       | true =>
        have hop : op = some o := some_of Hk.out Ho.out
        have hin : (baseOf (cos fs) + 1 + (n : Int), o) ∈ allP (cos fs) := (atP_iff HTg.out.con _ o).1 (by rw [Hat.out, hop])
        have htp := tog_pair HTg.out hin
        have Hwh : Hid (whP (cos fs) (baseOf (cos fs) + 1 + (n : Int)) = hasA (cos fs) o) := (show _ = _ from by unfold whP; rw [Hat.out, hop])
        have Hat2 : Hid (atP (cos fs) (baseOf (cos fs) + 1 + (n : Int)) = some o) := (show _ = _ from by rw [Hat.out, hop])
        clear hop hin Ho Hk Hat
        obtain ⟨k, x⟩ := o
        simp only at htp
        obtain ⟨kk, rfl⟩ : ∃ kk : Nat, k = (kk : Int) := ⟨k.toNat, by omega⟩
        have Hkk : Hid (∀ i, i < fs.length → kk < (fs.getD i fl0).c.hv.length) := fun i hi => by
         have h1 := HTg.out.len i (by rw [HcL.out, ← HLe.out]; exact hi)
         rw [cos_at] at h1
         have := htp.2.2.2.2.1
         omega
        have HC := held_any (cp := cp) (HR.out.still H4.out.j.b) (by rw [HLe.out]; omega) kk x Hkk.out hb (by rw [HLe.out]; exact H4.out.h)
        clear htp Hkk
        cases hh : hasA (cos fs) ((kk : Int), x) with
        | false =>
         rw [hh] at HC
         have Hend : Hid (Ends (cos fs) n) := ⟨H4.out.wh, (show whP (cos fs) _ = false from by rw [Hwh.out, hh])⟩
         go_wp2_with (first | (refine wl_at 77 rfl ?_) | fail)
         refine wT9 ?_
         simp only [Act.put,gA9,gZ9,gC9,sA9,sZ9,sC9]
         refine wT9 ?_
         simp only [Act.put,gA9,gZ9,gC9,sA9,sZ9,sC9]
         refine wT9 ?_
         simp only [Act.put,gA9,gZ9,gC9,sA9,sZ9,sC9]
         refine wl_load 76 (.tmp 13) (blk_range Hv13.out) _ Try.underlying76 rfl info_slot rfl rfl (by kernel_rfl) ?_
         simp only [Act.put,gA9,gZ9,gC9,sA9,sZ9,sC9]
         refine wl_step (by kernel_rfl) fun K hK => ?_
         go_simp
         refine (HC).mono ?_
         rintro e V6 ⟨rfl, hb6⟩
         replace H4 : Hid (J3 w V6 (cos fs) bs rb eb mb mm hb FF (.slice ao L cp) n a c ss) := H4.out.still hb6
         have H6 : Hid (V6.heap[v13]? = some (.cells (slotV ((kk : Int), x)).toArray 76 (0, 0))) := (hb6.block _ (lt_heap Hv13.out)).trans Hv13.out
         clear hb6
         refine hK _ _ ?_
         clear hK K
         try (simp only [Act.put,gA9,gZ9,gC9,sA9,sZ9,sC9])
         refine wT9 ?_
         simp only [Act.put,gA9,gZ9,gC9,sA9,sZ9,sC9]
         refine wT9 ?_
         simp only [Act.put,gA9,gZ9,gC9,sA9,sZ9,sC9]
         refine ⟨?_⟩
         go_wp2_with (first
          | (refine load_mid 79 (.tmp 11) (blk_range H4.out.e) _ Try.underlying79 rfl info_end rfl rfl rfl ?_)
          | (refine wl_st 79 (.tmp 2) (.tmp 84) rfl ?_)
          | fail)
         refine wl_store 79 (.tmp 2) (.tmp 84) (L := endV bs a n c) H4.out.j.there info_end (endV_one _ _ _ _) rfl rfl rfl (by kernel_rfl) ?_
         simp only [Act.put,gA9,gZ9,gC9,sA9,sZ9,sC9]
         refine ⟨?_⟩
         obtain ⟨hs1, hs2, hs3⟩ := H4.out.fin
         have Hsl : Hid (SlOf (cos fs) n ss) := H4.out.sl
         clear H4
         generalize V6.setCells rb 0 (endV bs a n c) = V7 at *
         go_wp2
         (try simp only [Exit.inBlock, Exit.then]); refine bodyPost_ret (res_end rfl _ _ rb (endV bs a n c) (.int .i64 0) rfl rfl rfl (blk_range hs2)) rfl ?_
         exact ⟨hs1, .inr ⟨HE.out, n, a, c, ss, Hend.out, Hsl.out, by rw [Hbs.out], hs3⟩⟩
        | true =>
         rw [hh] at HC
         have Hwt : Hid (whP (cos fs) (baseOf (cos fs) + 1 + (n : Int)) = true) := (show whP (cos fs) _ = true from by rw [Hwh.out, hh])
         go_wp2_with (first | (refine wl_at 77 rfl ?_) | fail)
         refine wT9 ?_
         simp only [Act.put,gA9,gZ9,gC9,sA9,sZ9,sC9]
         refine wT9 ?_
         simp only [Act.put,gA9,gZ9,gC9,sA9,sZ9,sC9]
         refine wT9 ?_
         simp only [Act.put,gA9,gZ9,gC9,sA9,sZ9,sC9]
         refine wl_load 76 (.tmp 13) (blk_range Hv13.out) _ Try.underlying76 rfl info_slot rfl rfl (by kernel_rfl) ?_
         simp only [Act.put,gA9,gZ9,gC9,sA9,sZ9,sC9]
         refine wl_step (by kernel_rfl) fun K hK => ?_
         go_simp
         refine (HC).mono ?_
         rintro e V6 ⟨rfl, hb6⟩
         replace H4 : Hid (J3 w V6 (cos fs) bs rb eb mb mm hb FF (.slice ao L cp) n a c ss) := H4.out.still hb6
         have H6 : Hid (V6.heap[v13]? = some (.cells (slotV ((kk : Int), x)).toArray 76 (0, 0))) := (hb6.block _ (lt_heap Hv13.out)).trans Hv13.out
         clear hb6
         refine hK _ _ ?_
         clear hK K
         try (simp only [Act.put,gA9,gZ9,gC9,sA9,sZ9,sC9])
         refine wT9 ?_
         simp only [Act.put,gA9,gZ9,gC9,sA9,sZ9,sC9]
         refine wT9 ?_
         simp only [Act.put,gA9,gZ9,gC9,sA9,sZ9,sC9]
         refine ⟨?_⟩
         have q1 : V6.cell? ⟨eb, 1, none⟩ = some (.slice a n c) := blk_cell H4.out.e 1
         have H6' : Hid (V6.rangeAt v13 0 [.int .i64 (kk : Int), .int .i64 x]) := blk_range H6.out
         obtain ⟨si, shi, shz0, shz1, shz2⟩ := slot_info
         have hge6 : w.heap.size ≤ V6.heap.size := H4.out.j.b.size
         go_wp2_with (first
          | (refine load_mid 76 (.tmp 13) H6'.out _ Try.underlying76 rfl info_slot rfl rfl rfl ?_)
          | (at_builtin; refine wpList_append_lies _ rfl _ _ 25 rfl w.heap.size 76 si (.agg #[.int .i64 0, .int .i64 0]) 2 16 Try.underlying25 shi shz0 shz1 shz2 rfl (by omega) (.slice a n c) n (slCells ss) rfl (World.ownsRow.alloc H4.out.o _) _ 1 1 _ rfl rfl (World.news_of_block (heap_alloc_new _ _)) (by simp [Value.oneCell']) (by omega) (by unfold maxLen; omega) (by omega) (by simp; omega) _ rfl ?_; intro g3 cap3 w3 hown3 hgrow3 hat3 hlt3; obtain ⟨q13, z13, hJ3⟩ := H4.out.app hown3 hgrow3 Hwt.out Hat2.out; have H7 : Hid (J3 w (w3.setCell ⟨eb, 1, none⟩ (.slice (some ⟨g3, 0, none⟩) (n + 1) cap3)) (cos fs) bs rb eb mb mm hb FF (.slice ao L cp) (n + 1) (some ⟨g3, 0, none⟩) cap3 (ss ++ [((kk : Int), x)])) := hJ3; clear hJ3 hown3 hgrow3)
          | fail)
         have hlen2 : lenAt (w3.setCell ⟨eb, 1, none⟩ (.slice (some ⟨g3, 0, none⟩) (n + 1) cap3)) eb = n + 1 := by unfold lenAt; rw [blk_cell H7.out.e 1]; rfl
         exact ⟨⟨_, _, _, _, H7.out⟩, by rw [hlen, hlen2]; omega⟩
     ·have HP2 := HPl.mono (R' := fun e w' => e = .returned (.tuple #[.map none, .bool false]) ∧ Below wr.heap.size wr w') (fun e w' h => by
       rcases h with ⟨hb, ⟨_, he⟩ | ⟨h1, _⟩⟩
       ·exact ⟨he, hb⟩
       ·exact absurd h1 hcon)
      have HE : Hid (togE (cos fs) = 82) := (show togE (cos fs) = 82 from by
       rw [HT.out]
       cases hfk : forksB (cos fs) with
       | true => rfl
       | false => exact absurd ((tog_con HS2.out).1 hfk) hcon)
      clear HPl hcon HT
      go_wp2_with (first
       | (go_at_call 59; refine HP2.mono ?_; rintro e V2 ⟨rfl, hb2⟩)
       | (refine wl_st 79 (.tmp 2) (.tmp 63) rfl ?_)
       | fail)
      have HJ2 : Hid (Jst w V2 rb) := HJ.out.still hb2
      clear hb2
      refine wl_store 79 (.tmp 2) (.tmp 63) (L := endV 0 none 0 0) HJ2.out.there info_end (endV_one _ _ _ _) rfl rfl rfl (by kernel_rfl) ?_
      simp only [Act.put,gA9,gZ9,gC9,sA9,sZ9,sC9]
      refine ⟨?_⟩
      obtain ⟨hs1, hs2⟩ := HJ2.out.set (endV 0 none 0 0) rfl
      generalize V2.setCells rb 0 (endV 0 none 0 0) = V3 at *
      go_wp2
      (try simp only [Exit.inBlock, Exit.then]); refine bodyPost_ret (res_end rfl _ _ rb (endV 0 none 0 0) (.int .i64 82) rfl rfl rfl (blk_range hs2)) rfl ?_
      exact ⟨hs1, .inl ⟨by rw [HE.out]; decide, by rw [HE.out]⟩⟩
end
end Go.Proofs.Ytobaooebjgoaiaa.Fm
