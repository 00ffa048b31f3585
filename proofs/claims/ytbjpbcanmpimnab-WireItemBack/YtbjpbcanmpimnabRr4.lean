import Derived.Test.YtbjpbcanmpimnabRr3
import Derived.Test.YtbjpbcanmpimnabRdr8
namespace Go.Proofs.Ytbjpbcanmpimnab.Lo
open Go.RowKit Bk
set_option linter.unusedVariables false

theorem arr_set_self {cs : Array Value} {i : Nat} {v : Value} (hv : cs[i]? = some v) : cs.setIfInBounds i v = cs := by
  apply Array.ext_getElem?
  intro j
  rw [Array.getElem?_setIfInBounds]
  split
  · rename_i e
    subst e
    rcases Array.getElem?_eq_some_iff.1 hv with ⟨hl, _⟩
    rw [if_pos hl, hv]
  · rfl

theorem setCell_self (w : World) (k i : Nat) (cs : Array Value) (t : TypeId) (v : Value) (h : w.heap[k]? = some (.cells cs t (0, 0))) (hv : cs[i]? = some v) : w.setCell ⟨k, i, none⟩ v = w := by
  have e : (w.setCell ⟨k, i, none⟩ v).heap = w.heap := by
    apply Array.ext_getElem?
    intro j
    by_cases hj : j = k
    · subst hj
      rw [heap_setCell_same w j i cs t v h, arr_set_self hv, h]
    · exact Below.heap_setCell w ⟨k, i, none⟩ v j hj
  have e2 : w.setCell ⟨k, i, none⟩ v = { w with heap := (w.setCell ⟨k, i, none⟩ v).heap } := rfl
  rw [e2, e]

structure Sd (w w' : World) (rb : Nat) (rcs : Array Value) (rt : TypeId) (ob : Nat) (ocs : Array Value) (sb : Nat) (cs : Array Value) (t : TypeId) : Prop where
  r : w'.heap[rb]? = some (.cells rcs rt (0, 0))
  o : w'.heap[ob]? = some (.cells ocs t (0, 0))
  s : w'.heap[sb]? = some (.cells cs t (0, 0))
  b : Below w.heap.size w w'
  g : w.heap.size ≤ rb ∧ w.heap.size ≤ ob ∧ w.heap.size ≤ sb ∧ rb ≠ ob ∧ rb ≠ sb ∧ ob ≠ sb

theorem bset {w w1 : World} {k : Nat} (h : Below w.heap.size w w1) (hk : w.heap.size ≤ k) (i : Nat) (v : Value) : Below w.heap.size w (w1.setCell ⟨k, i, none⟩ v) :=
  h.trans ((kset (P := fun j => j = k) w1 k i v rfl).below h.size (fun j hj e => by omega))
theorem Sd.call {w w1 w2 : World} {rb ob sb : Nat} {rcs ocs cs : Array Value} {rt t : TypeId} {rcs' : Array Value} (h : Sd w w1 rb rcs rt ob ocs sb cs t) (hr : w2.heap[rb]? = some (.cells rcs' rt (0, 0))) (hk : Kept w1 w2 (fun j => j = rb)) : Sd w w2 rb rcs' rt ob ocs sb cs t :=
  ⟨hr, (hk.block ob (lt_heap h.o) (by have := h.g; omega)).trans h.o, (hk.block sb (lt_heap h.s) (by have := h.g; omega)).trans h.s, h.b.trans (hk.below h.b.size (fun j hj e => by have := h.g; omega)), h.g⟩
theorem Sd.store {w w1 : World} {rb ob sb : Nat} {rcs ocs cs : Array Value} {rt t : TypeId} (h : Sd w w1 rb rcs rt ob ocs sb cs t) (i : Nat) (v : Value) : Sd w (w1.setCell ⟨sb, i, none⟩ v) rb rcs rt ob ocs sb (cs.setIfInBounds i v) t :=
  ⟨(Below.heap_setCell w1 ⟨sb, i, none⟩ v rb (by have := h.g; show ¬ rb = sb; omega)).trans h.r, (Below.heap_setCell w1 ⟨sb, i, none⟩ v ob (by have := h.g; show ¬ ob = sb; omega)).trans h.o, heap_setCell_same w1 sb i cs t v h.s, bset h.b h.g.2.2.1 i v, h.g⟩
theorem Sd.storeO {w w1 : World} {rb ob sb : Nat} {rcs ocs cs : Array Value} {rt t : TypeId} (h : Sd w w1 rb rcs rt ob ocs sb cs t) (i : Nat) (v : Value) : Sd w (w1.setCell ⟨ob, i, none⟩ v) rb rcs rt ob (ocs.setIfInBounds i v) sb cs t :=
  ⟨(Below.heap_setCell w1 ⟨ob, i, none⟩ v rb (by have := h.g; show ¬ rb = ob; omega)).trans h.r, heap_setCell_same w1 ob i ocs t v h.o, (Below.heap_setCell w1 ⟨ob, i, none⟩ v sb (by have := h.g; show ¬ sb = ob; omega)).trans h.s, bset h.b h.g.2.1 i v, h.g⟩
theorem Sd.fz {w w1 : World} {rb ob sb : Nat} {rcs ocs cs : Array Value} {rt t : TypeId} (h : Sd w w1 rb rcs rt ob ocs sb cs t) (i : Nat) : w1.frozen? ⟨sb, i, none⟩ = false := frozen_of_row w1 sb i cs t h.s
theorem Sd.fzO {w w1 : World} {rb ob sb : Nat} {rcs ocs cs : Array Value} {rt t : TypeId} (h : Sd w w1 rb rcs rt ob ocs sb cs t) (i : Nat) : w1.frozen? ⟨ob, i, none⟩ = false := frozen_of_row w1 ob i ocs t h.o
theorem Sd.cell {w w1 : World} {rb ob sb : Nat} {rcs ocs cs : Array Value} {rt t : TypeId} (h : Sd w w1 rb rcs rt ob ocs sb cs t) (i : Nat) : w1.cell? ⟨sb, i, none⟩ = cs[i]? := cell_of_row w1 sb i cs t (0, 0) h.s
theorem Sd.cellO {w w1 : World} {rb ob sb : Nat} {rcs ocs cs : Array Value} {rt t : TypeId} (h : Sd w w1 rb rcs rt ob ocs sb cs t) (i : Nat) : w1.cell? ⟨ob, i, none⟩ = ocs[i]? := cell_of_row w1 ob i ocs t (0, 0) h.o
theorem Sd.cellR {w w1 : World} {rb ob sb : Nat} {rcs ocs cs : Array Value} {rt t : TypeId} (h : Sd w w1 rb rcs rt ob ocs sb cs t) (i : Nat) : w1.cell? ⟨rb, i, none⟩ = rcs[i]? := cell_of_row w1 rb i rcs rt (0, 0) h.r
theorem Sd.new (w : World) (ocs rcs cs : Array Value) (rt t : TypeId) : Sd w (((w.alloc (.cells ocs t)).alloc (.cells rcs rt)).alloc (.cells cs t)) (w.heap.size + 1) rcs rt w.heap.size ocs (w.heap.size + 1 + 1) cs t := by
  have h := alloc2 (w.alloc (.cells ocs t)) (.cells rcs rt) cs t
  have e : (w.alloc (.cells ocs t)).heap.size = w.heap.size + 1 := by simp
  rw [e] at h
  exact ⟨blk_alloc (alloc2 w _ rcs rt), blk_alloc (blk_alloc (heap_alloc_new w _)), h, balloc (balloc (balloc (Below.refl _ _))), by omega, by omega, by omega, by omega, by omega, by omega⟩

set_option maxRecDepth 100000 in
set_option maxHeartbeats 8000000 in
theorem rdec_long (ao : Option Addr) (n c : Nat) (w : World) (h : 300 < n) :
    Calls Try.prog 25 #[.slice ao n c] w fun e w' => e = .returned (.tuple #[.agg #[.int .i64 0, .int .i64 0, .int .i64 0, .int .i64 0, .slice none 0 0, .int .i64 0, .int .i64 0, .int .i64 0, .int .i64 0], .int .i64 17]) ∧ Below w.heap.size w w' := by
  have h' : (300 : Int) < (n : Int) := by omega
  go_enter Try.func25, Try.ntmps25
  go_wp2_with fail
  have q := fun i => blk_cell (heap_alloc_new w (.cells #[.int .i64 0, .int .i64 0, .int .i64 0, .int .i64 0, .slice none 0 0, .int .i64 0, .int .i64 0, .int .i64 0, .int .i64 0] 28)) i
  exact bodyPost_ret (v := .tuple #[.agg #[.int .i64 0, .int .i64 0, .int .i64 0, .int .i64 0, .slice none 0 0, .int .i64 0, .int .i64 0, .int .i64 0, .int .i64 0], .int .i64 17]) (by simp [results, Try.results25, go_sem, q]) rfl ⟨rfl, balloc (Below.refl _ _)⟩

set_option maxRecDepth 100000 in
set_option maxHeartbeats 8000000 in
theorem rdec_short (ao : Option Addr) (n c : Nat) (w : World) (h : n = 0) :
    Calls Try.prog 25 #[.slice ao n c] w fun e w' => e = .returned (.tuple #[.agg #[.int .i64 0, .int .i64 0, .int .i64 0, .int .i64 0, .slice none 0 0, .int .i64 0, .int .i64 0, .int .i64 0, .int .i64 0], .int .i64 10]) ∧ Below w.heap.size w w' := by
  subst h
  go_enter Try.func25, Try.ntmps25
  go_wp2_with fail
  have q := fun i => blk_cell (heap_alloc_new w (.cells #[.int .i64 0, .int .i64 0, .int .i64 0, .int .i64 0, .slice none 0 0, .int .i64 0, .int .i64 0, .int .i64 0, .int .i64 0] 28)) i
  exact bodyPost_ret (v := .tuple #[.agg #[.int .i64 0, .int .i64 0, .int .i64 0, .int .i64 0, .slice none 0 0, .int .i64 0, .int .i64 0, .int .i64 0, .int .i64 0], .int .i64 10]) (by simp [results, Try.results25, go_sem, q]) rfl ⟨rfl, balloc (Below.refl _ _)⟩

set_option maxRecDepth 100000 in
set_option maxHeartbeats 8000000 in
theorem rdec_data (ao : Option Addr) (n c : Nat) (w : World) (bs : List Int) (hr : Rd w ao n c bs) (h0 : n ≠ 0) (h1 : n ≤ 300) (hnc : n ≤ c) (hk : bs.getD 0 0 = 1) (s q st : Int) (body : List Int) (a' : Nat) (hd : Hid (decD bs 1 = .ok ((s, q, st, body), a'))) (hend : a' = n) :
    Calls Try.prog 25 #[.slice ao n c] w fun e w' => ∃ ab cb, e = .returned (.tuple #[.agg #[.int .i64 1, .int .i64 s, .int .i64 q, .int .i64 st, .slice ab body.length cb, .int .i64 0, .int .i64 0, .int .i64 0, .int .i64 0], .int .i64 0]) ∧ Own w' w.heap.size (.slice ab body.length cb) body ∧ Below w.heap.size w w' := by
  obtain ⟨b, off, rfl, hc⟩ := rd_cell0 hr h0
  have HR : Hid (Rd w (some ⟨b, off, none⟩) n c bs) := hr
  have hpos : 0 < n := by omega
  rw [hk] at hc
  have hw1' : wrap64 1 = 1 := w64 _ (by omega)
  have h1' : ¬ (300 : Int) < (n : Int) := by omega
  have h0' : ¬ (n : Int) = 0 := by omega
  have hbl : b < w.heap.size := World.block_lt_of_cell? w _ hc
  clear hr hk
  go_enter Try.func25, Try.ntmps25
  go_wp2_with fail
  have S0 : Hid (Sd w (((w.alloc (.cells #[.int .i64 0, .int .i64 0, .int .i64 0, .int .i64 0, .slice none 0 0, .int .i64 0, .int .i64 0, .int .i64 0, .int .i64 0] 28)).alloc (.cells #[.slice (some ⟨b, off, none⟩) n c, .int .i64 1, .int .i64 0] 105)).alloc (.cells #[.int .i64 1, .int .i64 0, .int .i64 0, .int .i64 0, .slice none 0 0, .int .i64 0, .int .i64 0, .int .i64 0, .int .i64 0] 28)) (w.heap.size + 1) #[.slice (some ⟨b, off, none⟩) n c, .int .i64 1, .int .i64 0] 105 w.heap.size #[.int .i64 0, .int .i64 0, .int .i64 0, .int .i64 0, .slice none 0 0, .int .i64 0, .int .i64 0, .int .i64 0, .int .i64 0] (w.heap.size + 1 + 1) #[.int .i64 1, .int .i64 0, .int .i64 0, .int .i64 0, .slice none 0 0, .int .i64 0, .int .i64 0, .int .i64 0, .int .i64 0] 28) := Sd.new w _ _ _ _ _
  generalize ((w.alloc (.cells #[.int .i64 0, .int .i64 0, .int .i64 0, .int .i64 0, .slice none 0 0, .int .i64 0, .int .i64 0, .int .i64 0, .int .i64 0] 28)).alloc (.cells #[.slice (some ⟨b, off, none⟩) n c, .int .i64 1, .int .i64 0] 105)).alloc (.cells #[.int .i64 1, .int .i64 0, .int .i64 0, .int .i64 0, .slice none 0 0, .int .i64 0, .int .i64 0, .int .i64 0, .int .i64 0] 28) = W0 at *
  have g3 : w.heap.size ≤ w.heap.size + 1 := by omega
  generalize w.heap.size + 1 + 1 = sb at *
  generalize w.heap.size + 1 = rb at *
  refine (rdata_ok w rb n c (some ⟨b, off, none⟩) bs 1 W0 S0.out.r HR.out S0.out.b g3 h1 hnc a' s q st body hd.out).mono ?_
  rintro e w1 ⟨ab, cb, rfl, ho, hb1, hk1⟩
  have T0 : Hid (Sd w w1 rb #[.slice (some ⟨b, off, none⟩) n c, .int .i64 a', .int .i64 0] 105 w.heap.size #[.int .i64 0, .int .i64 0, .int .i64 0, .int .i64 0, .slice none 0 0, .int .i64 0, .int .i64 0, .int .i64 0, .int .i64 0] sb #[.int .i64 1, .int .i64 0, .int .i64 0, .int .i64 0, .slice none 0 0, .int .i64 0, .int .i64 0, .int .i64 0, .int .i64 0] 28) := S0.out.call hb1 hk1
  have HO : Hid (Own w1 W0.heap.size (.slice ab body.length cb) body) := ho
  have hz := S0.out.b.size
  have hso := lt_heap S0.out.o
  have hss := lt_heap S0.out.s
  have hsr := lt_heap S0.out.r
  clear hb1 hk1 ho S0
  have fV0 := T0.out.fz 1
  have qV0 := fun i => T0.out.cell i
  have V0 : Hid (Sd w (w1.setCell ⟨sb, 1, none⟩ (.int .i64 s)) rb #[.slice (some ⟨b, off, none⟩) n c, .int .i64 a', .int .i64 0] 105 w.heap.size #[.int .i64 0, .int .i64 0, .int .i64 0, .int .i64 0, .slice none 0 0, .int .i64 0, .int .i64 0, .int .i64 0, .int .i64 0] sb #[.int .i64 1, .int .i64 s, .int .i64 0, .int .i64 0, .slice none 0 0, .int .i64 0, .int .i64 0, .int .i64 0, .int .i64 0] 28) := T0.out.store 1 (.int .i64 s)
  have fV1 := V0.out.fz 2
  have qV1 := fun i => V0.out.cell i
  have V1 : Hid (Sd w ((w1.setCell ⟨sb, 1, none⟩ (.int .i64 s)).setCell ⟨sb, 2, none⟩ (.int .i64 q)) rb #[.slice (some ⟨b, off, none⟩) n c, .int .i64 a', .int .i64 0] 105 w.heap.size #[.int .i64 0, .int .i64 0, .int .i64 0, .int .i64 0, .slice none 0 0, .int .i64 0, .int .i64 0, .int .i64 0, .int .i64 0] sb #[.int .i64 1, .int .i64 s, .int .i64 q, .int .i64 0, .slice none 0 0, .int .i64 0, .int .i64 0, .int .i64 0, .int .i64 0] 28) := V0.out.store 2 (.int .i64 q)
  have fV2 := V1.out.fz 3
  have qV2 := fun i => V1.out.cell i
  have V2 : Hid (Sd w (((w1.setCell ⟨sb, 1, none⟩ (.int .i64 s)).setCell ⟨sb, 2, none⟩ (.int .i64 q)).setCell ⟨sb, 3, none⟩ (.int .i64 st)) rb #[.slice (some ⟨b, off, none⟩) n c, .int .i64 a', .int .i64 0] 105 w.heap.size #[.int .i64 0, .int .i64 0, .int .i64 0, .int .i64 0, .slice none 0 0, .int .i64 0, .int .i64 0, .int .i64 0, .int .i64 0] sb #[.int .i64 1, .int .i64 s, .int .i64 q, .int .i64 st, .slice none 0 0, .int .i64 0, .int .i64 0, .int .i64 0, .int .i64 0] 28) := V1.out.store 3 (.int .i64 st)
  have fV3 := V2.out.fz 4
  have qV3 := fun i => V2.out.cell i
  have V3 : Hid (Sd w ((((w1.setCell ⟨sb, 1, none⟩ (.int .i64 s)).setCell ⟨sb, 2, none⟩ (.int .i64 q)).setCell ⟨sb, 3, none⟩ (.int .i64 st)).setCell ⟨sb, 4, none⟩ (.slice ab body.length cb)) rb #[.slice (some ⟨b, off, none⟩) n c, .int .i64 a', .int .i64 0] 105 w.heap.size #[.int .i64 0, .int .i64 0, .int .i64 0, .int .i64 0, .slice none 0 0, .int .i64 0, .int .i64 0, .int .i64 0, .int .i64 0] sb #[.int .i64 1, .int .i64 s, .int .i64 q, .int .i64 st, .slice ab body.length cb, .int .i64 0, .int .i64 0, .int .i64 0, .int .i64 0] 28) := V2.out.store 4 (.slice ab body.length cb)
  have O1 : Hid (Own ((((w1.setCell ⟨sb, 1, none⟩ (.int .i64 s)).setCell ⟨sb, 2, none⟩ (.int .i64 q)).setCell ⟨sb, 3, none⟩ (.int .i64 st)).setCell ⟨sb, 4, none⟩ (.slice ab body.length cb)) W0.heap.size (.slice ab body.length cb) body) := (own_set (own_set (own_set (own_set HO.out hss 1 _) hss 2 _) hss 3 _) hss 4 _)
  go_wp2_with fail
  have S1 : Hid (Sd w ((((w1.setCell ⟨sb, 1, none⟩ (.int .i64 s)).setCell ⟨sb, 2, none⟩ (.int .i64 q)).setCell ⟨sb, 3, none⟩ (.int .i64 st)).setCell ⟨sb, 4, none⟩ (.slice ab body.length cb)) rb #[.slice (some ⟨b, off, none⟩) n c, .int .i64 a', .int .i64 0] 105 w.heap.size #[.int .i64 0, .int .i64 0, .int .i64 0, .int .i64 0, .slice none 0 0, .int .i64 0, .int .i64 0, .int .i64 0, .int .i64 0] sb #[.int .i64 1, .int .i64 s, .int .i64 q, .int .i64 st, .slice ab body.length cb, .int .i64 0, .int .i64 0, .int .i64 0, .int .i64 0] 28) := V3
  clear fV0 qV0 V0 fV1 qV1 V1 fV2 qV2 V2 fV3 qV3 V3 HO T0
  generalize ((((w1.setCell ⟨sb, 1, none⟩ (.int .i64 s)).setCell ⟨sb, 2, none⟩ (.int .i64 q)).setCell ⟨sb, 3, none⟩ (.int .i64 st)).setCell ⟨sb, 4, none⟩ (.slice ab body.length cb)) = W1 at *
  refine (rend_ok rb n c (some ⟨b, off, none⟩) a' W1 S1.out.r hend).mono ?_
  rintro e w9 ⟨rfl, hb1, hk1⟩
  have T9 : Hid (Sd w w9 rb #[.slice (some ⟨b, off, none⟩) n c, .int .i64 a', .int .i64 0] 105 w.heap.size #[.int .i64 0, .int .i64 0, .int .i64 0, .int .i64 0, .slice none 0 0, .int .i64 0, .int .i64 0, .int .i64 0, .int .i64 0] sb #[.int .i64 1, .int .i64 s, .int .i64 q, .int .i64 st, .slice ab body.length cb, .int .i64 0, .int .i64 0, .int .i64 0, .int .i64 0] 28) := S1.out.call hb1 hk1
  have cr := fun i => T9.out.cellR i
  have cz := fun i => T9.out.cell i
  have O9 : Hid (Own w9 W0.heap.size (.slice ab body.length cb) body) := hk1.owns O1.out (fun j hj e => by have := (O1.out.lt j hj).1; omega)
  clear hb1 hk1 S1
  have fU0 := T9.out.fzO 0
  have qU0 := fun i => T9.out.cellO i
  have U0 : Hid (Sd w (w9.setCell ⟨w.heap.size, 0, none⟩ (.int .i64 1)) rb #[.slice (some ⟨b, off, none⟩) n c, .int .i64 a', .int .i64 0] 105 w.heap.size #[.int .i64 1, .int .i64 0, .int .i64 0, .int .i64 0, .slice none 0 0, .int .i64 0, .int .i64 0, .int .i64 0, .int .i64 0] sb #[.int .i64 1, .int .i64 s, .int .i64 q, .int .i64 st, .slice ab body.length cb, .int .i64 0, .int .i64 0, .int .i64 0, .int .i64 0] 28) := T9.out.storeO 0 (.int .i64 1)
  have fU1 := U0.out.fzO 1
  have qU1 := fun i => U0.out.cellO i
  have U1 : Hid (Sd w ((w9.setCell ⟨w.heap.size, 0, none⟩ (.int .i64 1)).setCell ⟨w.heap.size, 1, none⟩ (.int .i64 s)) rb #[.slice (some ⟨b, off, none⟩) n c, .int .i64 a', .int .i64 0] 105 w.heap.size #[.int .i64 1, .int .i64 s, .int .i64 0, .int .i64 0, .slice none 0 0, .int .i64 0, .int .i64 0, .int .i64 0, .int .i64 0] sb #[.int .i64 1, .int .i64 s, .int .i64 q, .int .i64 st, .slice ab body.length cb, .int .i64 0, .int .i64 0, .int .i64 0, .int .i64 0] 28) := U0.out.storeO 1 (.int .i64 s)
  have fU2 := U1.out.fzO 2
  have qU2 := fun i => U1.out.cellO i
  have U2 : Hid (Sd w (((w9.setCell ⟨w.heap.size, 0, none⟩ (.int .i64 1)).setCell ⟨w.heap.size, 1, none⟩ (.int .i64 s)).setCell ⟨w.heap.size, 2, none⟩ (.int .i64 q)) rb #[.slice (some ⟨b, off, none⟩) n c, .int .i64 a', .int .i64 0] 105 w.heap.size #[.int .i64 1, .int .i64 s, .int .i64 q, .int .i64 0, .slice none 0 0, .int .i64 0, .int .i64 0, .int .i64 0, .int .i64 0] sb #[.int .i64 1, .int .i64 s, .int .i64 q, .int .i64 st, .slice ab body.length cb, .int .i64 0, .int .i64 0, .int .i64 0, .int .i64 0] 28) := U1.out.storeO 2 (.int .i64 q)
  have fU3 := U2.out.fzO 3
  have qU3 := fun i => U2.out.cellO i
  have U3 : Hid (Sd w ((((w9.setCell ⟨w.heap.size, 0, none⟩ (.int .i64 1)).setCell ⟨w.heap.size, 1, none⟩ (.int .i64 s)).setCell ⟨w.heap.size, 2, none⟩ (.int .i64 q)).setCell ⟨w.heap.size, 3, none⟩ (.int .i64 st)) rb #[.slice (some ⟨b, off, none⟩) n c, .int .i64 a', .int .i64 0] 105 w.heap.size #[.int .i64 1, .int .i64 s, .int .i64 q, .int .i64 st, .slice none 0 0, .int .i64 0, .int .i64 0, .int .i64 0, .int .i64 0] sb #[.int .i64 1, .int .i64 s, .int .i64 q, .int .i64 st, .slice ab body.length cb, .int .i64 0, .int .i64 0, .int .i64 0, .int .i64 0] 28) := U2.out.storeO 3 (.int .i64 st)
  have fU4 := U3.out.fzO 4
  have qU4 := fun i => U3.out.cellO i
  have U4 : Hid (Sd w (((((w9.setCell ⟨w.heap.size, 0, none⟩ (.int .i64 1)).setCell ⟨w.heap.size, 1, none⟩ (.int .i64 s)).setCell ⟨w.heap.size, 2, none⟩ (.int .i64 q)).setCell ⟨w.heap.size, 3, none⟩ (.int .i64 st)).setCell ⟨w.heap.size, 4, none⟩ (.slice ab body.length cb)) rb #[.slice (some ⟨b, off, none⟩) n c, .int .i64 a', .int .i64 0] 105 w.heap.size #[.int .i64 1, .int .i64 s, .int .i64 q, .int .i64 st, .slice ab body.length cb, .int .i64 0, .int .i64 0, .int .i64 0, .int .i64 0] sb #[.int .i64 1, .int .i64 s, .int .i64 q, .int .i64 st, .slice ab body.length cb, .int .i64 0, .int .i64 0, .int .i64 0, .int .i64 0] 28) := U3.out.storeO 4 (.slice ab body.length cb)
  have fU5 := U4.out.fzO 5
  have qU5 := fun i => U4.out.cellO i
  have U5 : Hid (Sd w ((((((w9.setCell ⟨w.heap.size, 0, none⟩ (.int .i64 1)).setCell ⟨w.heap.size, 1, none⟩ (.int .i64 s)).setCell ⟨w.heap.size, 2, none⟩ (.int .i64 q)).setCell ⟨w.heap.size, 3, none⟩ (.int .i64 st)).setCell ⟨w.heap.size, 4, none⟩ (.slice ab body.length cb)).setCell ⟨w.heap.size, 5, none⟩ (.int .i64 0)) rb #[.slice (some ⟨b, off, none⟩) n c, .int .i64 a', .int .i64 0] 105 w.heap.size #[.int .i64 1, .int .i64 s, .int .i64 q, .int .i64 st, .slice ab body.length cb, .int .i64 0, .int .i64 0, .int .i64 0, .int .i64 0] sb #[.int .i64 1, .int .i64 s, .int .i64 q, .int .i64 st, .slice ab body.length cb, .int .i64 0, .int .i64 0, .int .i64 0, .int .i64 0] 28) := U4.out.storeO 5 (.int .i64 0)
  have fU6 := U5.out.fzO 6
  have qU6 := fun i => U5.out.cellO i
  have U6 : Hid (Sd w (((((((w9.setCell ⟨w.heap.size, 0, none⟩ (.int .i64 1)).setCell ⟨w.heap.size, 1, none⟩ (.int .i64 s)).setCell ⟨w.heap.size, 2, none⟩ (.int .i64 q)).setCell ⟨w.heap.size, 3, none⟩ (.int .i64 st)).setCell ⟨w.heap.size, 4, none⟩ (.slice ab body.length cb)).setCell ⟨w.heap.size, 5, none⟩ (.int .i64 0)).setCell ⟨w.heap.size, 6, none⟩ (.int .i64 0)) rb #[.slice (some ⟨b, off, none⟩) n c, .int .i64 a', .int .i64 0] 105 w.heap.size #[.int .i64 1, .int .i64 s, .int .i64 q, .int .i64 st, .slice ab body.length cb, .int .i64 0, .int .i64 0, .int .i64 0, .int .i64 0] sb #[.int .i64 1, .int .i64 s, .int .i64 q, .int .i64 st, .slice ab body.length cb, .int .i64 0, .int .i64 0, .int .i64 0, .int .i64 0] 28) := U5.out.storeO 6 (.int .i64 0)
  have fU7 := U6.out.fzO 7
  have qU7 := fun i => U6.out.cellO i
  have U7 : Hid (Sd w ((((((((w9.setCell ⟨w.heap.size, 0, none⟩ (.int .i64 1)).setCell ⟨w.heap.size, 1, none⟩ (.int .i64 s)).setCell ⟨w.heap.size, 2, none⟩ (.int .i64 q)).setCell ⟨w.heap.size, 3, none⟩ (.int .i64 st)).setCell ⟨w.heap.size, 4, none⟩ (.slice ab body.length cb)).setCell ⟨w.heap.size, 5, none⟩ (.int .i64 0)).setCell ⟨w.heap.size, 6, none⟩ (.int .i64 0)).setCell ⟨w.heap.size, 7, none⟩ (.int .i64 0)) rb #[.slice (some ⟨b, off, none⟩) n c, .int .i64 a', .int .i64 0] 105 w.heap.size #[.int .i64 1, .int .i64 s, .int .i64 q, .int .i64 st, .slice ab body.length cb, .int .i64 0, .int .i64 0, .int .i64 0, .int .i64 0] sb #[.int .i64 1, .int .i64 s, .int .i64 q, .int .i64 st, .slice ab body.length cb, .int .i64 0, .int .i64 0, .int .i64 0, .int .i64 0] 28) := U6.out.storeO 7 (.int .i64 0)
  have fU8 := U7.out.fzO 8
  have qU8 := fun i => U7.out.cellO i
  have U8 : Hid (Sd w (((((((((w9.setCell ⟨w.heap.size, 0, none⟩ (.int .i64 1)).setCell ⟨w.heap.size, 1, none⟩ (.int .i64 s)).setCell ⟨w.heap.size, 2, none⟩ (.int .i64 q)).setCell ⟨w.heap.size, 3, none⟩ (.int .i64 st)).setCell ⟨w.heap.size, 4, none⟩ (.slice ab body.length cb)).setCell ⟨w.heap.size, 5, none⟩ (.int .i64 0)).setCell ⟨w.heap.size, 6, none⟩ (.int .i64 0)).setCell ⟨w.heap.size, 7, none⟩ (.int .i64 0)).setCell ⟨w.heap.size, 8, none⟩ (.int .i64 0)) rb #[.slice (some ⟨b, off, none⟩) n c, .int .i64 a', .int .i64 0] 105 w.heap.size #[.int .i64 1, .int .i64 s, .int .i64 q, .int .i64 st, .slice ab body.length cb, .int .i64 0, .int .i64 0, .int .i64 0, .int .i64 0] sb #[.int .i64 1, .int .i64 s, .int .i64 q, .int .i64 st, .slice ab body.length cb, .int .i64 0, .int .i64 0, .int .i64 0, .int .i64 0] 28) := U7.out.storeO 8 (.int .i64 0)
  have qz := fun i => U8.out.cellO i
  have OF : Hid (Own (((((((((w9.setCell ⟨w.heap.size, 0, none⟩ (.int .i64 1)).setCell ⟨w.heap.size, 1, none⟩ (.int .i64 s)).setCell ⟨w.heap.size, 2, none⟩ (.int .i64 q)).setCell ⟨w.heap.size, 3, none⟩ (.int .i64 st)).setCell ⟨w.heap.size, 4, none⟩ (.slice ab body.length cb)).setCell ⟨w.heap.size, 5, none⟩ (.int .i64 0)).setCell ⟨w.heap.size, 6, none⟩ (.int .i64 0)).setCell ⟨w.heap.size, 7, none⟩ (.int .i64 0)).setCell ⟨w.heap.size, 8, none⟩ (.int .i64 0)) w.heap.size (.slice ab body.length cb) body) := Own.mono (own_set (own_set (own_set (own_set (own_set (own_set (own_set (own_set (own_set O9.out hso 0 _) hso 1 _) hso 2 _) hso 3 _) hso 4 _) hso 5 _) hso 6 _) hso 7 _) hso 8 _) hz
  go_wp2_with fail
  exact bodyPost_ret (v := .tuple #[.agg #[.int .i64 1, .int .i64 s, .int .i64 q, .int .i64 st, .slice ab body.length cb, .int .i64 0, .int .i64 0, .int .i64 0, .int .i64 0], .int .i64 0]) (by simp [results, Try.results25, go_sem, qz]) rfl ⟨ab, cb, rfl, OF.out, U8.out.b⟩

set_option maxRecDepth 100000 in
set_option maxHeartbeats 8000000 in
theorem rdec_data_tail (ao : Option Addr) (n c : Nat) (w : World) (bs : List Int) (hr : Rd w ao n c bs) (h0 : n ≠ 0) (h1 : n ≤ 300) (hnc : n ≤ c) (hk : bs.getD 0 0 = 1) (s q st : Int) (body : List Int) (a' : Nat) (hd : Hid (decD bs 1 = .ok ((s, q, st, body), a'))) (hend : a' ≠ n) :
    Calls Try.prog 25 #[.slice ao n c] w fun e w' => e = .returned (.tuple #[.agg #[.int .i64 0, .int .i64 0, .int .i64 0, .int .i64 0, .slice none 0 0, .int .i64 0, .int .i64 0, .int .i64 0, .int .i64 0], .int .i64 15]) ∧ Below w.heap.size w w' := by
  obtain ⟨b, off, rfl, hc⟩ := rd_cell0 hr h0
  have HR : Hid (Rd w (some ⟨b, off, none⟩) n c bs) := hr
  have hpos : 0 < n := by omega
  rw [hk] at hc
  have hw1' : wrap64 1 = 1 := w64 _ (by omega)
  have h1' : ¬ (300 : Int) < (n : Int) := by omega
  have h0' : ¬ (n : Int) = 0 := by omega
  have hbl : b < w.heap.size := World.block_lt_of_cell? w _ hc
  clear hr hk
  go_enter Try.func25, Try.ntmps25
  go_wp2_with fail
  have S0 : Hid (Sd w (((w.alloc (.cells #[.int .i64 0, .int .i64 0, .int .i64 0, .int .i64 0, .slice none 0 0, .int .i64 0, .int .i64 0, .int .i64 0, .int .i64 0] 28)).alloc (.cells #[.slice (some ⟨b, off, none⟩) n c, .int .i64 1, .int .i64 0] 105)).alloc (.cells #[.int .i64 1, .int .i64 0, .int .i64 0, .int .i64 0, .slice none 0 0, .int .i64 0, .int .i64 0, .int .i64 0, .int .i64 0] 28)) (w.heap.size + 1) #[.slice (some ⟨b, off, none⟩) n c, .int .i64 1, .int .i64 0] 105 w.heap.size #[.int .i64 0, .int .i64 0, .int .i64 0, .int .i64 0, .slice none 0 0, .int .i64 0, .int .i64 0, .int .i64 0, .int .i64 0] (w.heap.size + 1 + 1) #[.int .i64 1, .int .i64 0, .int .i64 0, .int .i64 0, .slice none 0 0, .int .i64 0, .int .i64 0, .int .i64 0, .int .i64 0] 28) := Sd.new w _ _ _ _ _
  generalize ((w.alloc (.cells #[.int .i64 0, .int .i64 0, .int .i64 0, .int .i64 0, .slice none 0 0, .int .i64 0, .int .i64 0, .int .i64 0, .int .i64 0] 28)).alloc (.cells #[.slice (some ⟨b, off, none⟩) n c, .int .i64 1, .int .i64 0] 105)).alloc (.cells #[.int .i64 1, .int .i64 0, .int .i64 0, .int .i64 0, .slice none 0 0, .int .i64 0, .int .i64 0, .int .i64 0, .int .i64 0] 28) = W0 at *
  have g3 : w.heap.size ≤ w.heap.size + 1 := by omega
  generalize w.heap.size + 1 + 1 = sb at *
  generalize w.heap.size + 1 = rb at *
  refine (rdata_ok w rb n c (some ⟨b, off, none⟩) bs 1 W0 S0.out.r HR.out S0.out.b g3 h1 hnc a' s q st body hd.out).mono ?_
  rintro e w1 ⟨ab, cb, rfl, ho, hb1, hk1⟩
  have T0 : Hid (Sd w w1 rb #[.slice (some ⟨b, off, none⟩) n c, .int .i64 a', .int .i64 0] 105 w.heap.size #[.int .i64 0, .int .i64 0, .int .i64 0, .int .i64 0, .slice none 0 0, .int .i64 0, .int .i64 0, .int .i64 0, .int .i64 0] sb #[.int .i64 1, .int .i64 0, .int .i64 0, .int .i64 0, .slice none 0 0, .int .i64 0, .int .i64 0, .int .i64 0, .int .i64 0] 28) := S0.out.call hb1 hk1
  have HO : Hid (Own w1 W0.heap.size (.slice ab body.length cb) body) := ho
  have hz := S0.out.b.size
  have hso := lt_heap S0.out.o
  have hss := lt_heap S0.out.s
  have hsr := lt_heap S0.out.r
  clear hb1 hk1 ho S0
  have fV0 := T0.out.fz 1
  have qV0 := fun i => T0.out.cell i
  have V0 : Hid (Sd w (w1.setCell ⟨sb, 1, none⟩ (.int .i64 s)) rb #[.slice (some ⟨b, off, none⟩) n c, .int .i64 a', .int .i64 0] 105 w.heap.size #[.int .i64 0, .int .i64 0, .int .i64 0, .int .i64 0, .slice none 0 0, .int .i64 0, .int .i64 0, .int .i64 0, .int .i64 0] sb #[.int .i64 1, .int .i64 s, .int .i64 0, .int .i64 0, .slice none 0 0, .int .i64 0, .int .i64 0, .int .i64 0, .int .i64 0] 28) := T0.out.store 1 (.int .i64 s)
  have fV1 := V0.out.fz 2
  have qV1 := fun i => V0.out.cell i
  have V1 : Hid (Sd w ((w1.setCell ⟨sb, 1, none⟩ (.int .i64 s)).setCell ⟨sb, 2, none⟩ (.int .i64 q)) rb #[.slice (some ⟨b, off, none⟩) n c, .int .i64 a', .int .i64 0] 105 w.heap.size #[.int .i64 0, .int .i64 0, .int .i64 0, .int .i64 0, .slice none 0 0, .int .i64 0, .int .i64 0, .int .i64 0, .int .i64 0] sb #[.int .i64 1, .int .i64 s, .int .i64 q, .int .i64 0, .slice none 0 0, .int .i64 0, .int .i64 0, .int .i64 0, .int .i64 0] 28) := V0.out.store 2 (.int .i64 q)
  have fV2 := V1.out.fz 3
  have qV2 := fun i => V1.out.cell i
  have V2 : Hid (Sd w (((w1.setCell ⟨sb, 1, none⟩ (.int .i64 s)).setCell ⟨sb, 2, none⟩ (.int .i64 q)).setCell ⟨sb, 3, none⟩ (.int .i64 st)) rb #[.slice (some ⟨b, off, none⟩) n c, .int .i64 a', .int .i64 0] 105 w.heap.size #[.int .i64 0, .int .i64 0, .int .i64 0, .int .i64 0, .slice none 0 0, .int .i64 0, .int .i64 0, .int .i64 0, .int .i64 0] sb #[.int .i64 1, .int .i64 s, .int .i64 q, .int .i64 st, .slice none 0 0, .int .i64 0, .int .i64 0, .int .i64 0, .int .i64 0] 28) := V1.out.store 3 (.int .i64 st)
  have fV3 := V2.out.fz 4
  have qV3 := fun i => V2.out.cell i
  have V3 : Hid (Sd w ((((w1.setCell ⟨sb, 1, none⟩ (.int .i64 s)).setCell ⟨sb, 2, none⟩ (.int .i64 q)).setCell ⟨sb, 3, none⟩ (.int .i64 st)).setCell ⟨sb, 4, none⟩ (.slice ab body.length cb)) rb #[.slice (some ⟨b, off, none⟩) n c, .int .i64 a', .int .i64 0] 105 w.heap.size #[.int .i64 0, .int .i64 0, .int .i64 0, .int .i64 0, .slice none 0 0, .int .i64 0, .int .i64 0, .int .i64 0, .int .i64 0] sb #[.int .i64 1, .int .i64 s, .int .i64 q, .int .i64 st, .slice ab body.length cb, .int .i64 0, .int .i64 0, .int .i64 0, .int .i64 0] 28) := V2.out.store 4 (.slice ab body.length cb)
  have O1 : Hid (Own ((((w1.setCell ⟨sb, 1, none⟩ (.int .i64 s)).setCell ⟨sb, 2, none⟩ (.int .i64 q)).setCell ⟨sb, 3, none⟩ (.int .i64 st)).setCell ⟨sb, 4, none⟩ (.slice ab body.length cb)) W0.heap.size (.slice ab body.length cb) body) := (own_set (own_set (own_set (own_set HO.out hss 1 _) hss 2 _) hss 3 _) hss 4 _)
  go_wp2_with fail
  have S1 : Hid (Sd w ((((w1.setCell ⟨sb, 1, none⟩ (.int .i64 s)).setCell ⟨sb, 2, none⟩ (.int .i64 q)).setCell ⟨sb, 3, none⟩ (.int .i64 st)).setCell ⟨sb, 4, none⟩ (.slice ab body.length cb)) rb #[.slice (some ⟨b, off, none⟩) n c, .int .i64 a', .int .i64 0] 105 w.heap.size #[.int .i64 0, .int .i64 0, .int .i64 0, .int .i64 0, .slice none 0 0, .int .i64 0, .int .i64 0, .int .i64 0, .int .i64 0] sb #[.int .i64 1, .int .i64 s, .int .i64 q, .int .i64 st, .slice ab body.length cb, .int .i64 0, .int .i64 0, .int .i64 0, .int .i64 0] 28) := V3
  clear fV0 qV0 V0 fV1 qV1 V1 fV2 qV2 V2 fV3 qV3 V3 HO T0
  generalize ((((w1.setCell ⟨sb, 1, none⟩ (.int .i64 s)).setCell ⟨sb, 2, none⟩ (.int .i64 q)).setCell ⟨sb, 3, none⟩ (.int .i64 st)).setCell ⟨sb, 4, none⟩ (.slice ab body.length cb)) = W1 at *
  refine (rend_tail rb n c (some ⟨b, off, none⟩) a' W1 S1.out.r hend).mono ?_
  rintro e w9 ⟨rfl, ⟨ax, hb1⟩, hk1⟩
  have T9 : Hid (Sd w w9 rb #[.slice (some ⟨b, off, none⟩) n c, .int .i64 ax, .int .i64 15] 105 w.heap.size #[.int .i64 0, .int .i64 0, .int .i64 0, .int .i64 0, .slice none 0 0, .int .i64 0, .int .i64 0, .int .i64 0, .int .i64 0] sb #[.int .i64 1, .int .i64 s, .int .i64 q, .int .i64 st, .slice ab body.length cb, .int .i64 0, .int .i64 0, .int .i64 0, .int .i64 0] 28) := S1.out.call hb1 hk1
  clear hb1 hk1 S1
  have cr := fun i => T9.out.cellR i
  have qz := fun i => T9.out.cellO i
  have fz := fun i => T9.out.fzO i
  have e0 : w9.setCell ⟨w.heap.size, 0, none⟩ (.int .i64 0) = w9 := setCell_self w9 w.heap.size 0 #[.int .i64 0, .int .i64 0, .int .i64 0, .int .i64 0, .slice none 0 0, .int .i64 0, .int .i64 0, .int .i64 0, .int .i64 0] 28 _ T9.out.o rfl
  have e1 : w9.setCell ⟨w.heap.size, 1, none⟩ (.int .i64 0) = w9 := setCell_self w9 w.heap.size 1 #[.int .i64 0, .int .i64 0, .int .i64 0, .int .i64 0, .slice none 0 0, .int .i64 0, .int .i64 0, .int .i64 0, .int .i64 0] 28 _ T9.out.o rfl
  have e2 : w9.setCell ⟨w.heap.size, 2, none⟩ (.int .i64 0) = w9 := setCell_self w9 w.heap.size 2 #[.int .i64 0, .int .i64 0, .int .i64 0, .int .i64 0, .slice none 0 0, .int .i64 0, .int .i64 0, .int .i64 0, .int .i64 0] 28 _ T9.out.o rfl
  have e3 : w9.setCell ⟨w.heap.size, 3, none⟩ (.int .i64 0) = w9 := setCell_self w9 w.heap.size 3 #[.int .i64 0, .int .i64 0, .int .i64 0, .int .i64 0, .slice none 0 0, .int .i64 0, .int .i64 0, .int .i64 0, .int .i64 0] 28 _ T9.out.o rfl
  have e4 : w9.setCell ⟨w.heap.size, 4, none⟩ (.slice none 0 0) = w9 := setCell_self w9 w.heap.size 4 #[.int .i64 0, .int .i64 0, .int .i64 0, .int .i64 0, .slice none 0 0, .int .i64 0, .int .i64 0, .int .i64 0, .int .i64 0] 28 _ T9.out.o rfl
  have e5 : w9.setCell ⟨w.heap.size, 5, none⟩ (.int .i64 0) = w9 := setCell_self w9 w.heap.size 5 #[.int .i64 0, .int .i64 0, .int .i64 0, .int .i64 0, .slice none 0 0, .int .i64 0, .int .i64 0, .int .i64 0, .int .i64 0] 28 _ T9.out.o rfl
  have e6 : w9.setCell ⟨w.heap.size, 6, none⟩ (.int .i64 0) = w9 := setCell_self w9 w.heap.size 6 #[.int .i64 0, .int .i64 0, .int .i64 0, .int .i64 0, .slice none 0 0, .int .i64 0, .int .i64 0, .int .i64 0, .int .i64 0] 28 _ T9.out.o rfl
  have e7 : w9.setCell ⟨w.heap.size, 7, none⟩ (.int .i64 0) = w9 := setCell_self w9 w.heap.size 7 #[.int .i64 0, .int .i64 0, .int .i64 0, .int .i64 0, .slice none 0 0, .int .i64 0, .int .i64 0, .int .i64 0, .int .i64 0] 28 _ T9.out.o rfl
  have e8 : w9.setCell ⟨w.heap.size, 8, none⟩ (.int .i64 0) = w9 := setCell_self w9 w.heap.size 8 #[.int .i64 0, .int .i64 0, .int .i64 0, .int .i64 0, .slice none 0 0, .int .i64 0, .int .i64 0, .int .i64 0, .int .i64 0] 28 _ T9.out.o rfl
  have c2 : w9.cell? ⟨rb, 2, none⟩ = some (.int .i64 15) := T9.out.cellR 2
  clear cr
  go_wp2_with fail
  go_region_held3 (fun w' => w'.cell? ⟨rb, 2, none⟩ = some (.int .i64 15)) (go_keep) (fail)
  go_wp2_with fail
  exact bodyPost_ret (v := .tuple #[.agg #[.int .i64 0, .int .i64 0, .int .i64 0, .int .i64 0, .slice none 0 0, .int .i64 0, .int .i64 0, .int .i64 0, .int .i64 0], .int .i64 15]) (by simp [results, Try.results25, go_sem, qz]) rfl ⟨rfl, T9.out.b.drew⟩

set_option maxRecDepth 100000 in
set_option maxHeartbeats 8000000 in
theorem rdec_data_err (ao : Option Addr) (n c : Nat) (w : World) (bs : List Int) (hr : Rd w ao n c bs) (h0 : n ≠ 0) (h1 : n ≤ 300) (hnc : n ≤ c) (hk : bs.getD 0 0 = 1) (x : Int) (hd : Hid (decD bs 1 = .error x)) :
    Calls Try.prog 25 #[.slice ao n c] w fun e w' => e = .returned (.tuple #[.agg #[.int .i64 0, .int .i64 0, .int .i64 0, .int .i64 0, .slice none 0 0, .int .i64 0, .int .i64 0, .int .i64 0, .int .i64 0], .int .i64 x]) ∧ Below w.heap.size w w' := by
  have hx : x ≠ 0 := decD_nz hd.out
  have hx' : (x != 0) = true := by simpa using hx
  obtain ⟨b, off, rfl, hc⟩ := rd_cell0 hr h0
  have HR : Hid (Rd w (some ⟨b, off, none⟩) n c bs) := hr
  have hpos : 0 < n := by omega
  rw [hk] at hc
  have hw1' : wrap64 1 = 1 := w64 _ (by omega)
  have h1' : ¬ (300 : Int) < (n : Int) := by omega
  have h0' : ¬ (n : Int) = 0 := by omega
  have hbl : b < w.heap.size := World.block_lt_of_cell? w _ hc
  clear hr hk
  go_enter Try.func25, Try.ntmps25
  go_wp2_with fail
  have S0 : Hid (Sd w (((w.alloc (.cells #[.int .i64 0, .int .i64 0, .int .i64 0, .int .i64 0, .slice none 0 0, .int .i64 0, .int .i64 0, .int .i64 0, .int .i64 0] 28)).alloc (.cells #[.slice (some ⟨b, off, none⟩) n c, .int .i64 1, .int .i64 0] 105)).alloc (.cells #[.int .i64 1, .int .i64 0, .int .i64 0, .int .i64 0, .slice none 0 0, .int .i64 0, .int .i64 0, .int .i64 0, .int .i64 0] 28)) (w.heap.size + 1) #[.slice (some ⟨b, off, none⟩) n c, .int .i64 1, .int .i64 0] 105 w.heap.size #[.int .i64 0, .int .i64 0, .int .i64 0, .int .i64 0, .slice none 0 0, .int .i64 0, .int .i64 0, .int .i64 0, .int .i64 0] (w.heap.size + 1 + 1) #[.int .i64 1, .int .i64 0, .int .i64 0, .int .i64 0, .slice none 0 0, .int .i64 0, .int .i64 0, .int .i64 0, .int .i64 0] 28) := Sd.new w _ _ _ _ _
  generalize ((w.alloc (.cells #[.int .i64 0, .int .i64 0, .int .i64 0, .int .i64 0, .slice none 0 0, .int .i64 0, .int .i64 0, .int .i64 0, .int .i64 0] 28)).alloc (.cells #[.slice (some ⟨b, off, none⟩) n c, .int .i64 1, .int .i64 0] 105)).alloc (.cells #[.int .i64 1, .int .i64 0, .int .i64 0, .int .i64 0, .slice none 0 0, .int .i64 0, .int .i64 0, .int .i64 0, .int .i64 0] 28) = W0 at *
  have g3 : w.heap.size ≤ w.heap.size + 1 := by omega
  generalize w.heap.size + 1 + 1 = sb at *
  generalize w.heap.size + 1 = rb at *
  refine (rdata_err w rb n c (some ⟨b, off, none⟩) bs 1 W0 S0.out.r HR.out S0.out.b g3 h1 hnc x hd.out).mono ?_
  rintro e w1 ⟨s, q, st, rfl, ⟨ax, hb1⟩, hk1⟩
  have T0 : Hid (Sd w w1 rb #[.slice (some ⟨b, off, none⟩) n c, .int .i64 ax, .int .i64 x] 105 w.heap.size #[.int .i64 0, .int .i64 0, .int .i64 0, .int .i64 0, .slice none 0 0, .int .i64 0, .int .i64 0, .int .i64 0, .int .i64 0] sb #[.int .i64 1, .int .i64 0, .int .i64 0, .int .i64 0, .slice none 0 0, .int .i64 0, .int .i64 0, .int .i64 0, .int .i64 0] 28) := S0.out.call hb1 hk1
  clear hb1 hk1 S0
  have fV0 := T0.out.fz 1
  have qV0 := fun i => T0.out.cell i
  have V0 : Hid (Sd w (w1.setCell ⟨sb, 1, none⟩ (.int .i64 s)) rb #[.slice (some ⟨b, off, none⟩) n c, .int .i64 ax, .int .i64 x] 105 w.heap.size #[.int .i64 0, .int .i64 0, .int .i64 0, .int .i64 0, .slice none 0 0, .int .i64 0, .int .i64 0, .int .i64 0, .int .i64 0] sb #[.int .i64 1, .int .i64 s, .int .i64 0, .int .i64 0, .slice none 0 0, .int .i64 0, .int .i64 0, .int .i64 0, .int .i64 0] 28) := T0.out.store 1 (.int .i64 s)
  have fV1 := V0.out.fz 2
  have qV1 := fun i => V0.out.cell i
  have V1 : Hid (Sd w ((w1.setCell ⟨sb, 1, none⟩ (.int .i64 s)).setCell ⟨sb, 2, none⟩ (.int .i64 q)) rb #[.slice (some ⟨b, off, none⟩) n c, .int .i64 ax, .int .i64 x] 105 w.heap.size #[.int .i64 0, .int .i64 0, .int .i64 0, .int .i64 0, .slice none 0 0, .int .i64 0, .int .i64 0, .int .i64 0, .int .i64 0] sb #[.int .i64 1, .int .i64 s, .int .i64 q, .int .i64 0, .slice none 0 0, .int .i64 0, .int .i64 0, .int .i64 0, .int .i64 0] 28) := V0.out.store 2 (.int .i64 q)
  have fV2 := V1.out.fz 3
  have qV2 := fun i => V1.out.cell i
  have V2 : Hid (Sd w (((w1.setCell ⟨sb, 1, none⟩ (.int .i64 s)).setCell ⟨sb, 2, none⟩ (.int .i64 q)).setCell ⟨sb, 3, none⟩ (.int .i64 st)) rb #[.slice (some ⟨b, off, none⟩) n c, .int .i64 ax, .int .i64 x] 105 w.heap.size #[.int .i64 0, .int .i64 0, .int .i64 0, .int .i64 0, .slice none 0 0, .int .i64 0, .int .i64 0, .int .i64 0, .int .i64 0] sb #[.int .i64 1, .int .i64 s, .int .i64 q, .int .i64 st, .slice none 0 0, .int .i64 0, .int .i64 0, .int .i64 0, .int .i64 0] 28) := V1.out.store 3 (.int .i64 st)
  have fV3 := V2.out.fz 4
  have qV3 := fun i => V2.out.cell i
  have V3 : Hid (Sd w ((((w1.setCell ⟨sb, 1, none⟩ (.int .i64 s)).setCell ⟨sb, 2, none⟩ (.int .i64 q)).setCell ⟨sb, 3, none⟩ (.int .i64 st)).setCell ⟨sb, 4, none⟩ (.slice none 0 0)) rb #[.slice (some ⟨b, off, none⟩) n c, .int .i64 ax, .int .i64 x] 105 w.heap.size #[.int .i64 0, .int .i64 0, .int .i64 0, .int .i64 0, .slice none 0 0, .int .i64 0, .int .i64 0, .int .i64 0, .int .i64 0] sb #[.int .i64 1, .int .i64 s, .int .i64 q, .int .i64 st, .slice none 0 0, .int .i64 0, .int .i64 0, .int .i64 0, .int .i64 0] 28) := V2.out.store 4 (.slice none 0 0)
  go_wp2_with fail
  have S1 : Hid (Sd w ((((w1.setCell ⟨sb, 1, none⟩ (.int .i64 s)).setCell ⟨sb, 2, none⟩ (.int .i64 q)).setCell ⟨sb, 3, none⟩ (.int .i64 st)).setCell ⟨sb, 4, none⟩ (.slice none 0 0)) rb #[.slice (some ⟨b, off, none⟩) n c, .int .i64 ax, .int .i64 x] 105 w.heap.size #[.int .i64 0, .int .i64 0, .int .i64 0, .int .i64 0, .slice none 0 0, .int .i64 0, .int .i64 0, .int .i64 0, .int .i64 0] sb #[.int .i64 1, .int .i64 s, .int .i64 q, .int .i64 st, .slice none 0 0, .int .i64 0, .int .i64 0, .int .i64 0, .int .i64 0] 28) := V3
  clear fV0 qV0 V0 fV1 qV1 V1 fV2 qV2 V2 fV3 qV3 V3 T0
  generalize ((((w1.setCell ⟨sb, 1, none⟩ (.int .i64 s)).setCell ⟨sb, 2, none⟩ (.int .i64 q)).setCell ⟨sb, 3, none⟩ (.int .i64 st)).setCell ⟨sb, 4, none⟩ (.slice none 0 0)) = W1 at *
  refine (rend_stuck rb n c (some ⟨b, off, none⟩) ax x W1 S1.out.r hx).mono ?_
  rintro e w9 ⟨rfl, hb1, hk1⟩
  have T9 : Hid (Sd w w9 rb #[.slice (some ⟨b, off, none⟩) n c, .int .i64 ax, .int .i64 x] 105 w.heap.size #[.int .i64 0, .int .i64 0, .int .i64 0, .int .i64 0, .slice none 0 0, .int .i64 0, .int .i64 0, .int .i64 0, .int .i64 0] sb #[.int .i64 1, .int .i64 s, .int .i64 q, .int .i64 st, .slice none 0 0, .int .i64 0, .int .i64 0, .int .i64 0, .int .i64 0] 28) := S1.out.call hb1 hk1
  clear hb1 hk1 S1
  have cr := fun i => T9.out.cellR i
  have qz := fun i => T9.out.cellO i
  have fz := fun i => T9.out.fzO i
  have e0 : w9.setCell ⟨w.heap.size, 0, none⟩ (.int .i64 0) = w9 := setCell_self w9 w.heap.size 0 #[.int .i64 0, .int .i64 0, .int .i64 0, .int .i64 0, .slice none 0 0, .int .i64 0, .int .i64 0, .int .i64 0, .int .i64 0] 28 _ T9.out.o rfl
  have e1 : w9.setCell ⟨w.heap.size, 1, none⟩ (.int .i64 0) = w9 := setCell_self w9 w.heap.size 1 #[.int .i64 0, .int .i64 0, .int .i64 0, .int .i64 0, .slice none 0 0, .int .i64 0, .int .i64 0, .int .i64 0, .int .i64 0] 28 _ T9.out.o rfl
  have e2 : w9.setCell ⟨w.heap.size, 2, none⟩ (.int .i64 0) = w9 := setCell_self w9 w.heap.size 2 #[.int .i64 0, .int .i64 0, .int .i64 0, .int .i64 0, .slice none 0 0, .int .i64 0, .int .i64 0, .int .i64 0, .int .i64 0] 28 _ T9.out.o rfl
  have e3 : w9.setCell ⟨w.heap.size, 3, none⟩ (.int .i64 0) = w9 := setCell_self w9 w.heap.size 3 #[.int .i64 0, .int .i64 0, .int .i64 0, .int .i64 0, .slice none 0 0, .int .i64 0, .int .i64 0, .int .i64 0, .int .i64 0] 28 _ T9.out.o rfl
  have e4 : w9.setCell ⟨w.heap.size, 4, none⟩ (.slice none 0 0) = w9 := setCell_self w9 w.heap.size 4 #[.int .i64 0, .int .i64 0, .int .i64 0, .int .i64 0, .slice none 0 0, .int .i64 0, .int .i64 0, .int .i64 0, .int .i64 0] 28 _ T9.out.o rfl
  have e5 : w9.setCell ⟨w.heap.size, 5, none⟩ (.int .i64 0) = w9 := setCell_self w9 w.heap.size 5 #[.int .i64 0, .int .i64 0, .int .i64 0, .int .i64 0, .slice none 0 0, .int .i64 0, .int .i64 0, .int .i64 0, .int .i64 0] 28 _ T9.out.o rfl
  have e6 : w9.setCell ⟨w.heap.size, 6, none⟩ (.int .i64 0) = w9 := setCell_self w9 w.heap.size 6 #[.int .i64 0, .int .i64 0, .int .i64 0, .int .i64 0, .slice none 0 0, .int .i64 0, .int .i64 0, .int .i64 0, .int .i64 0] 28 _ T9.out.o rfl
  have e7 : w9.setCell ⟨w.heap.size, 7, none⟩ (.int .i64 0) = w9 := setCell_self w9 w.heap.size 7 #[.int .i64 0, .int .i64 0, .int .i64 0, .int .i64 0, .slice none 0 0, .int .i64 0, .int .i64 0, .int .i64 0, .int .i64 0] 28 _ T9.out.o rfl
  have e8 : w9.setCell ⟨w.heap.size, 8, none⟩ (.int .i64 0) = w9 := setCell_self w9 w.heap.size 8 #[.int .i64 0, .int .i64 0, .int .i64 0, .int .i64 0, .slice none 0 0, .int .i64 0, .int .i64 0, .int .i64 0, .int .i64 0] 28 _ T9.out.o rfl
  have c2 : w9.cell? ⟨rb, 2, none⟩ = some (.int .i64 x) := T9.out.cellR 2
  clear cr
  go_wp2_with fail
  go_region_held3 (fun w' => w'.cell? ⟨rb, 2, none⟩ = some (.int .i64 x)) (go_keep) (fail)
  go_wp2_with fail
  exact bodyPost_ret (v := .tuple #[.agg #[.int .i64 0, .int .i64 0, .int .i64 0, .int .i64 0, .slice none 0 0, .int .i64 0, .int .i64 0, .int .i64 0, .int .i64 0], .int .i64 x]) (by simp [results, Try.results25, go_sem, qz]) rfl ⟨rfl, T9.out.b.drew⟩

set_option maxRecDepth 100000 in
set_option maxHeartbeats 8000000 in
theorem rdec_slot_err0 (ao : Option Addr) (n c : Nat) (w : World) (bs : List Int) (hr : Rd w ao n c bs) (h0 : n ≠ 0) (h1 : n ≤ 300) (hnc : n ≤ c) (hk : bs.getD 0 0 = 2) (x : Int)   (h2 : Hid (cnt bs 1 1 4611686018427387904 = .error x)) :
    Calls Try.prog 25 #[.slice ao n c] w fun e w' => e = .returned (.tuple #[.agg #[.int .i64 0, .int .i64 0, .int .i64 0, .int .i64 0, .slice none 0 0, .int .i64 0, .int .i64 0, .int .i64 0, .int .i64 0], .int .i64 x]) ∧ Below w.heap.size w w' := by
  have hx : x ≠ 0 := cnt_nz h2.out
  have hx' : (x != 0) = true := by simpa using hx
  obtain ⟨b, off, rfl, hc⟩ := rd_cell0 hr h0
  have HR : Hid (Rd w (some ⟨b, off, none⟩) n c bs) := hr
  have hpos : 0 < n := by omega
  rw [hk] at hc
  have hw1' : wrap64 2 = 2 := w64 _ (by omega)
  have h1' : ¬ (300 : Int) < (n : Int) := by omega
  have h0' : ¬ (n : Int) = 0 := by omega
  have hbl : b < w.heap.size := World.block_lt_of_cell? w _ hc
  clear hr hk
  go_enter Try.func25, Try.ntmps25
  go_wp2_with fail
  have S0 : Hid (Sd w (((w.alloc (.cells #[.int .i64 0, .int .i64 0, .int .i64 0, .int .i64 0, .slice none 0 0, .int .i64 0, .int .i64 0, .int .i64 0, .int .i64 0] 28)).alloc (.cells #[.slice (some ⟨b, off, none⟩) n c, .int .i64 1, .int .i64 0] 105)).alloc (.cells #[.int .i64 2, .int .i64 0, .int .i64 0, .int .i64 0, .slice none 0 0, .int .i64 0, .int .i64 0, .int .i64 0, .int .i64 0] 28)) (w.heap.size + 1) #[.slice (some ⟨b, off, none⟩) n c, .int .i64 1, .int .i64 0] 105 w.heap.size #[.int .i64 0, .int .i64 0, .int .i64 0, .int .i64 0, .slice none 0 0, .int .i64 0, .int .i64 0, .int .i64 0, .int .i64 0] (w.heap.size + 1 + 1) #[.int .i64 2, .int .i64 0, .int .i64 0, .int .i64 0, .slice none 0 0, .int .i64 0, .int .i64 0, .int .i64 0, .int .i64 0] 28) := Sd.new w _ _ _ _ _
  generalize ((w.alloc (.cells #[.int .i64 0, .int .i64 0, .int .i64 0, .int .i64 0, .slice none 0 0, .int .i64 0, .int .i64 0, .int .i64 0, .int .i64 0] 28)).alloc (.cells #[.slice (some ⟨b, off, none⟩) n c, .int .i64 1, .int .i64 0] 105)).alloc (.cells #[.int .i64 2, .int .i64 0, .int .i64 0, .int .i64 0, .slice none 0 0, .int .i64 0, .int .i64 0, .int .i64 0, .int .i64 0] 28) = W0 at *
  have g3 : w.heap.size ≤ w.heap.size + 1 := by omega
  generalize w.heap.size + 1 + 1 = sb at *
  generalize w.heap.size + 1 = rb at *
  refine (rnum_err rb n c (some ⟨b, off, none⟩) bs 1 1 4611686018427387904 x W0 S0.out.r (HR.out.below S0.out.b) (by omega) h2.out).mono ?_
  rintro e w1 ⟨rfl, ⟨ax, hb1⟩, hk1⟩
  have T0 : Hid (Sd w w1 rb #[.slice (some ⟨b, off, none⟩) n c, .int .i64 ax, .int .i64 x] 105 w.heap.size #[.int .i64 0, .int .i64 0, .int .i64 0, .int .i64 0, .slice none 0 0, .int .i64 0, .int .i64 0, .int .i64 0, .int .i64 0] sb #[.int .i64 2, .int .i64 0, .int .i64 0, .int .i64 0, .slice none 0 0, .int .i64 0, .int .i64 0, .int .i64 0, .int .i64 0] 28) := S0.out.call hb1 hk1
  clear hb1 hk1 S0
  have f0 := T0.out.fz 5
  have q0 := fun i => T0.out.cell i
  have S1 : Hid (Sd w (w1.setCell ⟨sb, 5, none⟩ (.int .i64 0)) rb #[.slice (some ⟨b, off, none⟩) n c, .int .i64 ax, .int .i64 x] 105 w.heap.size #[.int .i64 0, .int .i64 0, .int .i64 0, .int .i64 0, .slice none 0 0, .int .i64 0, .int .i64 0, .int .i64 0, .int .i64 0] sb #[.int .i64 2, .int .i64 0, .int .i64 0, .int .i64 0, .slice none 0 0, .int .i64 0, .int .i64 0, .int .i64 0, .int .i64 0] 28) := T0.out.store 5 (.int .i64 0)
  have p0 := fun i => S1.out.cell i
  go_wp2_with fail
  clear f0 q0 p0 T0
  generalize w1.setCell ⟨sb, 5, none⟩ (.int .i64 0) = W1 at *
  refine (rnum_stuck rb n c (some ⟨b, off, none⟩) ax _ _ x W1 S1.out.r hx).mono ?_
  rintro e w2 ⟨rfl, rfl⟩
  have T1 := S1
  clear S1
  have f1 := T1.out.fz 6
  have q1 := fun i => T1.out.cell i
  have S2 : Hid (Sd w (W1.setCell ⟨sb, 6, none⟩ (.int .i64 0)) rb #[.slice (some ⟨b, off, none⟩) n c, .int .i64 ax, .int .i64 x] 105 w.heap.size #[.int .i64 0, .int .i64 0, .int .i64 0, .int .i64 0, .slice none 0 0, .int .i64 0, .int .i64 0, .int .i64 0, .int .i64 0] sb #[.int .i64 2, .int .i64 0, .int .i64 0, .int .i64 0, .slice none 0 0, .int .i64 0, .int .i64 0, .int .i64 0, .int .i64 0] 28) := T1.out.store 6 (.int .i64 0)
  have p1 := fun i => S2.out.cell i
  go_wp2_with fail
  clear f1 q1 p1 T1
  generalize W1.setCell ⟨sb, 6, none⟩ (.int .i64 0) = W2 at *
  refine (rnum_stuck rb n c (some ⟨b, off, none⟩) ax _ _ x W2 S2.out.r hx).mono ?_
  rintro e w3 ⟨rfl, rfl⟩
  have T2 := S2
  clear S2
  have f2 := T2.out.fz 7
  have q2 := fun i => T2.out.cell i
  have S3 : Hid (Sd w (W2.setCell ⟨sb, 7, none⟩ (.int .i64 0)) rb #[.slice (some ⟨b, off, none⟩) n c, .int .i64 ax, .int .i64 x] 105 w.heap.size #[.int .i64 0, .int .i64 0, .int .i64 0, .int .i64 0, .slice none 0 0, .int .i64 0, .int .i64 0, .int .i64 0, .int .i64 0] sb #[.int .i64 2, .int .i64 0, .int .i64 0, .int .i64 0, .slice none 0 0, .int .i64 0, .int .i64 0, .int .i64 0, .int .i64 0] 28) := T2.out.store 7 (.int .i64 0)
  have p2 := fun i => S3.out.cell i
  go_wp2_with fail
  clear f2 q2 p2 T2
  generalize W2.setCell ⟨sb, 7, none⟩ (.int .i64 0) = W3 at *
  refine (rnum_stuck rb n c (some ⟨b, off, none⟩) ax _ _ x W3 S3.out.r hx).mono ?_
  rintro e w4 ⟨rfl, rfl⟩
  have T3 := S3
  clear S3
  have f3 := T3.out.fz 8
  have q3 := fun i => T3.out.cell i
  have S4 : Hid (Sd w (W3.setCell ⟨sb, 8, none⟩ (.int .i64 0)) rb #[.slice (some ⟨b, off, none⟩) n c, .int .i64 ax, .int .i64 x] 105 w.heap.size #[.int .i64 0, .int .i64 0, .int .i64 0, .int .i64 0, .slice none 0 0, .int .i64 0, .int .i64 0, .int .i64 0, .int .i64 0] sb #[.int .i64 2, .int .i64 0, .int .i64 0, .int .i64 0, .slice none 0 0, .int .i64 0, .int .i64 0, .int .i64 0, .int .i64 0] 28) := T3.out.store 8 (.int .i64 0)
  have p3 := fun i => S4.out.cell i
  go_wp2_with fail
  clear f3 q3 p3 T3
  generalize W3.setCell ⟨sb, 8, none⟩ (.int .i64 0) = W4 at *
  refine (rend_stuck rb n c (some ⟨b, off, none⟩) ax x W4 S4.out.r hx).mono ?_
  rintro e w9 ⟨rfl, hb1, hk1⟩
  have T9 : Hid (Sd w w9 rb #[.slice (some ⟨b, off, none⟩) n c, .int .i64 ax, .int .i64 x] 105 w.heap.size #[.int .i64 0, .int .i64 0, .int .i64 0, .int .i64 0, .slice none 0 0, .int .i64 0, .int .i64 0, .int .i64 0, .int .i64 0] sb #[.int .i64 2, .int .i64 0, .int .i64 0, .int .i64 0, .slice none 0 0, .int .i64 0, .int .i64 0, .int .i64 0, .int .i64 0] 28) := S4.out.call hb1 hk1
  clear hb1 hk1 S4
  have cr := fun i => T9.out.cellR i
  have qz := fun i => T9.out.cellO i
  have fz := fun i => T9.out.fzO i
  have e0 : w9.setCell ⟨w.heap.size, 0, none⟩ (.int .i64 0) = w9 := setCell_self w9 w.heap.size 0 #[.int .i64 0, .int .i64 0, .int .i64 0, .int .i64 0, .slice none 0 0, .int .i64 0, .int .i64 0, .int .i64 0, .int .i64 0] 28 _ T9.out.o rfl
  have e1 : w9.setCell ⟨w.heap.size, 1, none⟩ (.int .i64 0) = w9 := setCell_self w9 w.heap.size 1 #[.int .i64 0, .int .i64 0, .int .i64 0, .int .i64 0, .slice none 0 0, .int .i64 0, .int .i64 0, .int .i64 0, .int .i64 0] 28 _ T9.out.o rfl
  have e2 : w9.setCell ⟨w.heap.size, 2, none⟩ (.int .i64 0) = w9 := setCell_self w9 w.heap.size 2 #[.int .i64 0, .int .i64 0, .int .i64 0, .int .i64 0, .slice none 0 0, .int .i64 0, .int .i64 0, .int .i64 0, .int .i64 0] 28 _ T9.out.o rfl
  have e3 : w9.setCell ⟨w.heap.size, 3, none⟩ (.int .i64 0) = w9 := setCell_self w9 w.heap.size 3 #[.int .i64 0, .int .i64 0, .int .i64 0, .int .i64 0, .slice none 0 0, .int .i64 0, .int .i64 0, .int .i64 0, .int .i64 0] 28 _ T9.out.o rfl
  have e4 : w9.setCell ⟨w.heap.size, 4, none⟩ (.slice none 0 0) = w9 := setCell_self w9 w.heap.size 4 #[.int .i64 0, .int .i64 0, .int .i64 0, .int .i64 0, .slice none 0 0, .int .i64 0, .int .i64 0, .int .i64 0, .int .i64 0] 28 _ T9.out.o rfl
  have e5 : w9.setCell ⟨w.heap.size, 5, none⟩ (.int .i64 0) = w9 := setCell_self w9 w.heap.size 5 #[.int .i64 0, .int .i64 0, .int .i64 0, .int .i64 0, .slice none 0 0, .int .i64 0, .int .i64 0, .int .i64 0, .int .i64 0] 28 _ T9.out.o rfl
  have e6 : w9.setCell ⟨w.heap.size, 6, none⟩ (.int .i64 0) = w9 := setCell_self w9 w.heap.size 6 #[.int .i64 0, .int .i64 0, .int .i64 0, .int .i64 0, .slice none 0 0, .int .i64 0, .int .i64 0, .int .i64 0, .int .i64 0] 28 _ T9.out.o rfl
  have e7 : w9.setCell ⟨w.heap.size, 7, none⟩ (.int .i64 0) = w9 := setCell_self w9 w.heap.size 7 #[.int .i64 0, .int .i64 0, .int .i64 0, .int .i64 0, .slice none 0 0, .int .i64 0, .int .i64 0, .int .i64 0, .int .i64 0] 28 _ T9.out.o rfl
  have e8 : w9.setCell ⟨w.heap.size, 8, none⟩ (.int .i64 0) = w9 := setCell_self w9 w.heap.size 8 #[.int .i64 0, .int .i64 0, .int .i64 0, .int .i64 0, .slice none 0 0, .int .i64 0, .int .i64 0, .int .i64 0, .int .i64 0] 28 _ T9.out.o rfl
  have c2 : w9.cell? ⟨rb, 2, none⟩ = some (.int .i64 x) := T9.out.cellR 2
  clear cr
  go_wp2_with fail
  go_region_held3 (fun w' => w'.cell? ⟨rb, 2, none⟩ = some (.int .i64 x)) (go_keep) (fail)
  go_wp2_with fail
  exact bodyPost_ret (v := .tuple #[.agg #[.int .i64 0, .int .i64 0, .int .i64 0, .int .i64 0, .slice none 0 0, .int .i64 0, .int .i64 0, .int .i64 0, .int .i64 0], .int .i64 x]) (by simp [results, Try.results25, go_sem, qz]) rfl ⟨rfl, T9.out.b.drew⟩

set_option maxRecDepth 100000 in
set_option maxHeartbeats 8000000 in
theorem rdec_slot_err1 (ao : Option Addr) (n c : Nat) (w : World) (bs : List Int) (hr : Rd w ao n c bs) (h0 : n ≠ 0) (h1 : n ≤ 300) (hnc : n ≤ c) (hk : bs.getD 0 0 = 2) (x : Int) (p : Int) (a1 : Nat) (h2 : Hid (cnt bs 1 1 4611686018427387904 = .ok (p, a1))) (h3 : Hid (cnt bs a1 0 (p - 1) = .error x)) :
    Calls Try.prog 25 #[.slice ao n c] w fun e w' => e = .returned (.tuple #[.agg #[.int .i64 0, .int .i64 0, .int .i64 0, .int .i64 0, .slice none 0 0, .int .i64 0, .int .i64 0, .int .i64 0, .int .i64 0], .int .i64 x]) ∧ Below w.heap.size w w' := by
  have hx : x ≠ 0 := cnt_nz h3.out
  have hx' : (x != 0) = true := by simpa using hx
  have hwp : wrap64 (p - 1) = p - 1 := by have := cnt_ok h2.out; exact w64 _ (by omega)
  obtain ⟨b, off, rfl, hc⟩ := rd_cell0 hr h0
  have HR : Hid (Rd w (some ⟨b, off, none⟩) n c bs) := hr
  have hpos : 0 < n := by omega
  rw [hk] at hc
  have hw1' : wrap64 2 = 2 := w64 _ (by omega)
  have h1' : ¬ (300 : Int) < (n : Int) := by omega
  have h0' : ¬ (n : Int) = 0 := by omega
  have hbl : b < w.heap.size := World.block_lt_of_cell? w _ hc
  clear hr hk
  go_enter Try.func25, Try.ntmps25
  go_wp2_with fail
  have S0 : Hid (Sd w (((w.alloc (.cells #[.int .i64 0, .int .i64 0, .int .i64 0, .int .i64 0, .slice none 0 0, .int .i64 0, .int .i64 0, .int .i64 0, .int .i64 0] 28)).alloc (.cells #[.slice (some ⟨b, off, none⟩) n c, .int .i64 1, .int .i64 0] 105)).alloc (.cells #[.int .i64 2, .int .i64 0, .int .i64 0, .int .i64 0, .slice none 0 0, .int .i64 0, .int .i64 0, .int .i64 0, .int .i64 0] 28)) (w.heap.size + 1) #[.slice (some ⟨b, off, none⟩) n c, .int .i64 1, .int .i64 0] 105 w.heap.size #[.int .i64 0, .int .i64 0, .int .i64 0, .int .i64 0, .slice none 0 0, .int .i64 0, .int .i64 0, .int .i64 0, .int .i64 0] (w.heap.size + 1 + 1) #[.int .i64 2, .int .i64 0, .int .i64 0, .int .i64 0, .slice none 0 0, .int .i64 0, .int .i64 0, .int .i64 0, .int .i64 0] 28) := Sd.new w _ _ _ _ _
  generalize ((w.alloc (.cells #[.int .i64 0, .int .i64 0, .int .i64 0, .int .i64 0, .slice none 0 0, .int .i64 0, .int .i64 0, .int .i64 0, .int .i64 0] 28)).alloc (.cells #[.slice (some ⟨b, off, none⟩) n c, .int .i64 1, .int .i64 0] 105)).alloc (.cells #[.int .i64 2, .int .i64 0, .int .i64 0, .int .i64 0, .slice none 0 0, .int .i64 0, .int .i64 0, .int .i64 0, .int .i64 0] 28) = W0 at *
  have g3 : w.heap.size ≤ w.heap.size + 1 := by omega
  generalize w.heap.size + 1 + 1 = sb at *
  generalize w.heap.size + 1 = rb at *
  refine (rnum_ok rb n c (some ⟨b, off, none⟩) bs 1 a1 1 4611686018427387904 p W0 S0.out.r (HR.out.below S0.out.b) (by omega) h2.out).mono ?_
  rintro e w1 ⟨rfl, hb1, hk1⟩
  have T0 : Hid (Sd w w1 rb #[.slice (some ⟨b, off, none⟩) n c, .int .i64 a1, .int .i64 0] 105 w.heap.size #[.int .i64 0, .int .i64 0, .int .i64 0, .int .i64 0, .slice none 0 0, .int .i64 0, .int .i64 0, .int .i64 0, .int .i64 0] sb #[.int .i64 2, .int .i64 0, .int .i64 0, .int .i64 0, .slice none 0 0, .int .i64 0, .int .i64 0, .int .i64 0, .int .i64 0] 28) := S0.out.call hb1 hk1
  clear hb1 hk1 S0
  have f0 := T0.out.fz 5
  have q0 := fun i => T0.out.cell i
  have S1 : Hid (Sd w (w1.setCell ⟨sb, 5, none⟩ (.int .i64 p)) rb #[.slice (some ⟨b, off, none⟩) n c, .int .i64 a1, .int .i64 0] 105 w.heap.size #[.int .i64 0, .int .i64 0, .int .i64 0, .int .i64 0, .slice none 0 0, .int .i64 0, .int .i64 0, .int .i64 0, .int .i64 0] sb #[.int .i64 2, .int .i64 0, .int .i64 0, .int .i64 0, .slice none 0 0, .int .i64 p, .int .i64 0, .int .i64 0, .int .i64 0] 28) := T0.out.store 5 (.int .i64 p)
  have p0 := fun i => S1.out.cell i
  go_wp2_with fail
  clear f0 q0 p0 T0
  generalize w1.setCell ⟨sb, 5, none⟩ (.int .i64 p) = W1 at *
  refine (rnum_err rb n c (some ⟨b, off, none⟩) bs a1 0 (p - 1) x W1 S1.out.r (HR.out.below S1.out.b) (by omega) h3.out).mono ?_
  rintro e w2 ⟨rfl, ⟨ax, hb1⟩, hk1⟩
  have T1 : Hid (Sd w w2 rb #[.slice (some ⟨b, off, none⟩) n c, .int .i64 ax, .int .i64 x] 105 w.heap.size #[.int .i64 0, .int .i64 0, .int .i64 0, .int .i64 0, .slice none 0 0, .int .i64 0, .int .i64 0, .int .i64 0, .int .i64 0] sb #[.int .i64 2, .int .i64 0, .int .i64 0, .int .i64 0, .slice none 0 0, .int .i64 p, .int .i64 0, .int .i64 0, .int .i64 0] 28) := S1.out.call hb1 hk1
  clear hb1 hk1 S1
  have f1 := T1.out.fz 6
  have q1 := fun i => T1.out.cell i
  have S2 : Hid (Sd w (w2.setCell ⟨sb, 6, none⟩ (.int .i64 0)) rb #[.slice (some ⟨b, off, none⟩) n c, .int .i64 ax, .int .i64 x] 105 w.heap.size #[.int .i64 0, .int .i64 0, .int .i64 0, .int .i64 0, .slice none 0 0, .int .i64 0, .int .i64 0, .int .i64 0, .int .i64 0] sb #[.int .i64 2, .int .i64 0, .int .i64 0, .int .i64 0, .slice none 0 0, .int .i64 p, .int .i64 0, .int .i64 0, .int .i64 0] 28) := T1.out.store 6 (.int .i64 0)
  have p1 := fun i => S2.out.cell i
  go_wp2_with fail
  clear f1 q1 p1 T1
  generalize w2.setCell ⟨sb, 6, none⟩ (.int .i64 0) = W2 at *
  refine (rnum_stuck rb n c (some ⟨b, off, none⟩) ax _ _ x W2 S2.out.r hx).mono ?_
  rintro e w3 ⟨rfl, rfl⟩
  have T2 := S2
  clear S2
  have f2 := T2.out.fz 7
  have q2 := fun i => T2.out.cell i
  have S3 : Hid (Sd w (W2.setCell ⟨sb, 7, none⟩ (.int .i64 0)) rb #[.slice (some ⟨b, off, none⟩) n c, .int .i64 ax, .int .i64 x] 105 w.heap.size #[.int .i64 0, .int .i64 0, .int .i64 0, .int .i64 0, .slice none 0 0, .int .i64 0, .int .i64 0, .int .i64 0, .int .i64 0] sb #[.int .i64 2, .int .i64 0, .int .i64 0, .int .i64 0, .slice none 0 0, .int .i64 p, .int .i64 0, .int .i64 0, .int .i64 0] 28) := T2.out.store 7 (.int .i64 0)
  have p2 := fun i => S3.out.cell i
  go_wp2_with fail
  clear f2 q2 p2 T2
  generalize W2.setCell ⟨sb, 7, none⟩ (.int .i64 0) = W3 at *
  refine (rnum_stuck rb n c (some ⟨b, off, none⟩) ax _ _ x W3 S3.out.r hx).mono ?_
  rintro e w4 ⟨rfl, rfl⟩
  have T3 := S3
  clear S3
  have f3 := T3.out.fz 8
  have q3 := fun i => T3.out.cell i
  have S4 : Hid (Sd w (W3.setCell ⟨sb, 8, none⟩ (.int .i64 0)) rb #[.slice (some ⟨b, off, none⟩) n c, .int .i64 ax, .int .i64 x] 105 w.heap.size #[.int .i64 0, .int .i64 0, .int .i64 0, .int .i64 0, .slice none 0 0, .int .i64 0, .int .i64 0, .int .i64 0, .int .i64 0] sb #[.int .i64 2, .int .i64 0, .int .i64 0, .int .i64 0, .slice none 0 0, .int .i64 p, .int .i64 0, .int .i64 0, .int .i64 0] 28) := T3.out.store 8 (.int .i64 0)
  have p3 := fun i => S4.out.cell i
  go_wp2_with fail
  clear f3 q3 p3 T3
  generalize W3.setCell ⟨sb, 8, none⟩ (.int .i64 0) = W4 at *
  refine (rend_stuck rb n c (some ⟨b, off, none⟩) ax x W4 S4.out.r hx).mono ?_
  rintro e w9 ⟨rfl, hb1, hk1⟩
  have T9 : Hid (Sd w w9 rb #[.slice (some ⟨b, off, none⟩) n c, .int .i64 ax, .int .i64 x] 105 w.heap.size #[.int .i64 0, .int .i64 0, .int .i64 0, .int .i64 0, .slice none 0 0, .int .i64 0, .int .i64 0, .int .i64 0, .int .i64 0] sb #[.int .i64 2, .int .i64 0, .int .i64 0, .int .i64 0, .slice none 0 0, .int .i64 p, .int .i64 0, .int .i64 0, .int .i64 0] 28) := S4.out.call hb1 hk1
  clear hb1 hk1 S4
  have cr := fun i => T9.out.cellR i
  have qz := fun i => T9.out.cellO i
  have fz := fun i => T9.out.fzO i
  have e0 : w9.setCell ⟨w.heap.size, 0, none⟩ (.int .i64 0) = w9 := setCell_self w9 w.heap.size 0 #[.int .i64 0, .int .i64 0, .int .i64 0, .int .i64 0, .slice none 0 0, .int .i64 0, .int .i64 0, .int .i64 0, .int .i64 0] 28 _ T9.out.o rfl
  have e1 : w9.setCell ⟨w.heap.size, 1, none⟩ (.int .i64 0) = w9 := setCell_self w9 w.heap.size 1 #[.int .i64 0, .int .i64 0, .int .i64 0, .int .i64 0, .slice none 0 0, .int .i64 0, .int .i64 0, .int .i64 0, .int .i64 0] 28 _ T9.out.o rfl
  have e2 : w9.setCell ⟨w.heap.size, 2, none⟩ (.int .i64 0) = w9 := setCell_self w9 w.heap.size 2 #[.int .i64 0, .int .i64 0, .int .i64 0, .int .i64 0, .slice none 0 0, .int .i64 0, .int .i64 0, .int .i64 0, .int .i64 0] 28 _ T9.out.o rfl
  have e3 : w9.setCell ⟨w.heap.size, 3, none⟩ (.int .i64 0) = w9 := setCell_self w9 w.heap.size 3 #[.int .i64 0, .int .i64 0, .int .i64 0, .int .i64 0, .slice none 0 0, .int .i64 0, .int .i64 0, .int .i64 0, .int .i64 0] 28 _ T9.out.o rfl
  have e4 : w9.setCell ⟨w.heap.size, 4, none⟩ (.slice none 0 0) = w9 := setCell_self w9 w.heap.size 4 #[.int .i64 0, .int .i64 0, .int .i64 0, .int .i64 0, .slice none 0 0, .int .i64 0, .int .i64 0, .int .i64 0, .int .i64 0] 28 _ T9.out.o rfl
  have e5 : w9.setCell ⟨w.heap.size, 5, none⟩ (.int .i64 0) = w9 := setCell_self w9 w.heap.size 5 #[.int .i64 0, .int .i64 0, .int .i64 0, .int .i64 0, .slice none 0 0, .int .i64 0, .int .i64 0, .int .i64 0, .int .i64 0] 28 _ T9.out.o rfl
  have e6 : w9.setCell ⟨w.heap.size, 6, none⟩ (.int .i64 0) = w9 := setCell_self w9 w.heap.size 6 #[.int .i64 0, .int .i64 0, .int .i64 0, .int .i64 0, .slice none 0 0, .int .i64 0, .int .i64 0, .int .i64 0, .int .i64 0] 28 _ T9.out.o rfl
  have e7 : w9.setCell ⟨w.heap.size, 7, none⟩ (.int .i64 0) = w9 := setCell_self w9 w.heap.size 7 #[.int .i64 0, .int .i64 0, .int .i64 0, .int .i64 0, .slice none 0 0, .int .i64 0, .int .i64 0, .int .i64 0, .int .i64 0] 28 _ T9.out.o rfl
  have e8 : w9.setCell ⟨w.heap.size, 8, none⟩ (.int .i64 0) = w9 := setCell_self w9 w.heap.size 8 #[.int .i64 0, .int .i64 0, .int .i64 0, .int .i64 0, .slice none 0 0, .int .i64 0, .int .i64 0, .int .i64 0, .int .i64 0] 28 _ T9.out.o rfl
  have c2 : w9.cell? ⟨rb, 2, none⟩ = some (.int .i64 x) := T9.out.cellR 2
  clear cr
  go_wp2_with fail
  go_region_held3 (fun w' => w'.cell? ⟨rb, 2, none⟩ = some (.int .i64 x)) (go_keep) (fail)
  go_wp2_with fail
  exact bodyPost_ret (v := .tuple #[.agg #[.int .i64 0, .int .i64 0, .int .i64 0, .int .i64 0, .slice none 0 0, .int .i64 0, .int .i64 0, .int .i64 0, .int .i64 0], .int .i64 x]) (by simp [results, Try.results25, go_sem, qz]) rfl ⟨rfl, T9.out.b.drew⟩

set_option maxRecDepth 100000 in
set_option maxHeartbeats 8000000 in
theorem rdec_slot_err2 (ao : Option Addr) (n c : Nat) (w : World) (bs : List Int) (hr : Rd w ao n c bs) (h0 : n ≠ 0) (h1 : n ≤ 300) (hnc : n ≤ c) (hk : bs.getD 0 0 = 2) (x : Int) (p : Int) (a1 : Nat) (st2 : Int) (a2 : Nat) (h2 : Hid (cnt bs 1 1 4611686018427387904 = .ok (p, a1))) (h3 : Hid (cnt bs a1 0 (p - 1) = .ok (st2, a2))) (h4 : Hid (cnt bs a2 0 15 = .error x)) :
    Calls Try.prog 25 #[.slice ao n c] w fun e w' => e = .returned (.tuple #[.agg #[.int .i64 0, .int .i64 0, .int .i64 0, .int .i64 0, .slice none 0 0, .int .i64 0, .int .i64 0, .int .i64 0, .int .i64 0], .int .i64 x]) ∧ Below w.heap.size w w' := by
  have hx : x ≠ 0 := cnt_nz h4.out
  have hx' : (x != 0) = true := by simpa using hx
  have hwp : wrap64 (p - 1) = p - 1 := by have := cnt_ok h2.out; exact w64 _ (by omega)
  obtain ⟨b, off, rfl, hc⟩ := rd_cell0 hr h0
  have HR : Hid (Rd w (some ⟨b, off, none⟩) n c bs) := hr
  have hpos : 0 < n := by omega
  rw [hk] at hc
  have hw1' : wrap64 2 = 2 := w64 _ (by omega)
  have h1' : ¬ (300 : Int) < (n : Int) := by omega
  have h0' : ¬ (n : Int) = 0 := by omega
  have hbl : b < w.heap.size := World.block_lt_of_cell? w _ hc
  clear hr hk
  go_enter Try.func25, Try.ntmps25
  go_wp2_with fail
  have S0 : Hid (Sd w (((w.alloc (.cells #[.int .i64 0, .int .i64 0, .int .i64 0, .int .i64 0, .slice none 0 0, .int .i64 0, .int .i64 0, .int .i64 0, .int .i64 0] 28)).alloc (.cells #[.slice (some ⟨b, off, none⟩) n c, .int .i64 1, .int .i64 0] 105)).alloc (.cells #[.int .i64 2, .int .i64 0, .int .i64 0, .int .i64 0, .slice none 0 0, .int .i64 0, .int .i64 0, .int .i64 0, .int .i64 0] 28)) (w.heap.size + 1) #[.slice (some ⟨b, off, none⟩) n c, .int .i64 1, .int .i64 0] 105 w.heap.size #[.int .i64 0, .int .i64 0, .int .i64 0, .int .i64 0, .slice none 0 0, .int .i64 0, .int .i64 0, .int .i64 0, .int .i64 0] (w.heap.size + 1 + 1) #[.int .i64 2, .int .i64 0, .int .i64 0, .int .i64 0, .slice none 0 0, .int .i64 0, .int .i64 0, .int .i64 0, .int .i64 0] 28) := Sd.new w _ _ _ _ _
  generalize ((w.alloc (.cells #[.int .i64 0, .int .i64 0, .int .i64 0, .int .i64 0, .slice none 0 0, .int .i64 0, .int .i64 0, .int .i64 0, .int .i64 0] 28)).alloc (.cells #[.slice (some ⟨b, off, none⟩) n c, .int .i64 1, .int .i64 0] 105)).alloc (.cells #[.int .i64 2, .int .i64 0, .int .i64 0, .int .i64 0, .slice none 0 0, .int .i64 0, .int .i64 0, .int .i64 0, .int .i64 0] 28) = W0 at *
  have g3 : w.heap.size ≤ w.heap.size + 1 := by omega
  generalize w.heap.size + 1 + 1 = sb at *
  generalize w.heap.size + 1 = rb at *
  refine (rnum_ok rb n c (some ⟨b, off, none⟩) bs 1 a1 1 4611686018427387904 p W0 S0.out.r (HR.out.below S0.out.b) (by omega) h2.out).mono ?_
  rintro e w1 ⟨rfl, hb1, hk1⟩
  have T0 : Hid (Sd w w1 rb #[.slice (some ⟨b, off, none⟩) n c, .int .i64 a1, .int .i64 0] 105 w.heap.size #[.int .i64 0, .int .i64 0, .int .i64 0, .int .i64 0, .slice none 0 0, .int .i64 0, .int .i64 0, .int .i64 0, .int .i64 0] sb #[.int .i64 2, .int .i64 0, .int .i64 0, .int .i64 0, .slice none 0 0, .int .i64 0, .int .i64 0, .int .i64 0, .int .i64 0] 28) := S0.out.call hb1 hk1
  clear hb1 hk1 S0
  have f0 := T0.out.fz 5
  have q0 := fun i => T0.out.cell i
  have S1 : Hid (Sd w (w1.setCell ⟨sb, 5, none⟩ (.int .i64 p)) rb #[.slice (some ⟨b, off, none⟩) n c, .int .i64 a1, .int .i64 0] 105 w.heap.size #[.int .i64 0, .int .i64 0, .int .i64 0, .int .i64 0, .slice none 0 0, .int .i64 0, .int .i64 0, .int .i64 0, .int .i64 0] sb #[.int .i64 2, .int .i64 0, .int .i64 0, .int .i64 0, .slice none 0 0, .int .i64 p, .int .i64 0, .int .i64 0, .int .i64 0] 28) := T0.out.store 5 (.int .i64 p)
  have p0 := fun i => S1.out.cell i
  go_wp2_with fail
  clear f0 q0 p0 T0
  generalize w1.setCell ⟨sb, 5, none⟩ (.int .i64 p) = W1 at *
  refine (rnum_ok rb n c (some ⟨b, off, none⟩) bs a1 a2 0 (p - 1) st2 W1 S1.out.r (HR.out.below S1.out.b) (by omega) h3.out).mono ?_
  rintro e w2 ⟨rfl, hb1, hk1⟩
  have T1 : Hid (Sd w w2 rb #[.slice (some ⟨b, off, none⟩) n c, .int .i64 a2, .int .i64 0] 105 w.heap.size #[.int .i64 0, .int .i64 0, .int .i64 0, .int .i64 0, .slice none 0 0, .int .i64 0, .int .i64 0, .int .i64 0, .int .i64 0] sb #[.int .i64 2, .int .i64 0, .int .i64 0, .int .i64 0, .slice none 0 0, .int .i64 p, .int .i64 0, .int .i64 0, .int .i64 0] 28) := S1.out.call hb1 hk1
  clear hb1 hk1 S1
  have f1 := T1.out.fz 6
  have q1 := fun i => T1.out.cell i
  have S2 : Hid (Sd w (w2.setCell ⟨sb, 6, none⟩ (.int .i64 st2)) rb #[.slice (some ⟨b, off, none⟩) n c, .int .i64 a2, .int .i64 0] 105 w.heap.size #[.int .i64 0, .int .i64 0, .int .i64 0, .int .i64 0, .slice none 0 0, .int .i64 0, .int .i64 0, .int .i64 0, .int .i64 0] sb #[.int .i64 2, .int .i64 0, .int .i64 0, .int .i64 0, .slice none 0 0, .int .i64 p, .int .i64 st2, .int .i64 0, .int .i64 0] 28) := T1.out.store 6 (.int .i64 st2)
  have p1 := fun i => S2.out.cell i
  go_wp2_with fail
  clear f1 q1 p1 T1
  generalize w2.setCell ⟨sb, 6, none⟩ (.int .i64 st2) = W2 at *
  refine (rnum_err rb n c (some ⟨b, off, none⟩) bs a2 0 15 x W2 S2.out.r (HR.out.below S2.out.b) (by omega) h4.out).mono ?_
  rintro e w3 ⟨rfl, ⟨ax, hb1⟩, hk1⟩
  have T2 : Hid (Sd w w3 rb #[.slice (some ⟨b, off, none⟩) n c, .int .i64 ax, .int .i64 x] 105 w.heap.size #[.int .i64 0, .int .i64 0, .int .i64 0, .int .i64 0, .slice none 0 0, .int .i64 0, .int .i64 0, .int .i64 0, .int .i64 0] sb #[.int .i64 2, .int .i64 0, .int .i64 0, .int .i64 0, .slice none 0 0, .int .i64 p, .int .i64 st2, .int .i64 0, .int .i64 0] 28) := S2.out.call hb1 hk1
  clear hb1 hk1 S2
  have f2 := T2.out.fz 7
  have q2 := fun i => T2.out.cell i
  have S3 : Hid (Sd w (w3.setCell ⟨sb, 7, none⟩ (.int .i64 0)) rb #[.slice (some ⟨b, off, none⟩) n c, .int .i64 ax, .int .i64 x] 105 w.heap.size #[.int .i64 0, .int .i64 0, .int .i64 0, .int .i64 0, .slice none 0 0, .int .i64 0, .int .i64 0, .int .i64 0, .int .i64 0] sb #[.int .i64 2, .int .i64 0, .int .i64 0, .int .i64 0, .slice none 0 0, .int .i64 p, .int .i64 st2, .int .i64 0, .int .i64 0] 28) := T2.out.store 7 (.int .i64 0)
  have p2 := fun i => S3.out.cell i
  go_wp2_with fail
  clear f2 q2 p2 T2
  generalize w3.setCell ⟨sb, 7, none⟩ (.int .i64 0) = W3 at *
  refine (rnum_stuck rb n c (some ⟨b, off, none⟩) ax _ _ x W3 S3.out.r hx).mono ?_
  rintro e w4 ⟨rfl, rfl⟩
  have T3 := S3
  clear S3
  have f3 := T3.out.fz 8
  have q3 := fun i => T3.out.cell i
  have S4 : Hid (Sd w (W3.setCell ⟨sb, 8, none⟩ (.int .i64 0)) rb #[.slice (some ⟨b, off, none⟩) n c, .int .i64 ax, .int .i64 x] 105 w.heap.size #[.int .i64 0, .int .i64 0, .int .i64 0, .int .i64 0, .slice none 0 0, .int .i64 0, .int .i64 0, .int .i64 0, .int .i64 0] sb #[.int .i64 2, .int .i64 0, .int .i64 0, .int .i64 0, .slice none 0 0, .int .i64 p, .int .i64 st2, .int .i64 0, .int .i64 0] 28) := T3.out.store 8 (.int .i64 0)
  have p3 := fun i => S4.out.cell i
  go_wp2_with fail
  clear f3 q3 p3 T3
  generalize W3.setCell ⟨sb, 8, none⟩ (.int .i64 0) = W4 at *
  refine (rend_stuck rb n c (some ⟨b, off, none⟩) ax x W4 S4.out.r hx).mono ?_
  rintro e w9 ⟨rfl, hb1, hk1⟩
  have T9 : Hid (Sd w w9 rb #[.slice (some ⟨b, off, none⟩) n c, .int .i64 ax, .int .i64 x] 105 w.heap.size #[.int .i64 0, .int .i64 0, .int .i64 0, .int .i64 0, .slice none 0 0, .int .i64 0, .int .i64 0, .int .i64 0, .int .i64 0] sb #[.int .i64 2, .int .i64 0, .int .i64 0, .int .i64 0, .slice none 0 0, .int .i64 p, .int .i64 st2, .int .i64 0, .int .i64 0] 28) := S4.out.call hb1 hk1
  clear hb1 hk1 S4
  have cr := fun i => T9.out.cellR i
  have qz := fun i => T9.out.cellO i
  have fz := fun i => T9.out.fzO i
  have e0 : w9.setCell ⟨w.heap.size, 0, none⟩ (.int .i64 0) = w9 := setCell_self w9 w.heap.size 0 #[.int .i64 0, .int .i64 0, .int .i64 0, .int .i64 0, .slice none 0 0, .int .i64 0, .int .i64 0, .int .i64 0, .int .i64 0] 28 _ T9.out.o rfl
  have e1 : w9.setCell ⟨w.heap.size, 1, none⟩ (.int .i64 0) = w9 := setCell_self w9 w.heap.size 1 #[.int .i64 0, .int .i64 0, .int .i64 0, .int .i64 0, .slice none 0 0, .int .i64 0, .int .i64 0, .int .i64 0, .int .i64 0] 28 _ T9.out.o rfl
  have e2 : w9.setCell ⟨w.heap.size, 2, none⟩ (.int .i64 0) = w9 := setCell_self w9 w.heap.size 2 #[.int .i64 0, .int .i64 0, .int .i64 0, .int .i64 0, .slice none 0 0, .int .i64 0, .int .i64 0, .int .i64 0, .int .i64 0] 28 _ T9.out.o rfl
  have e3 : w9.setCell ⟨w.heap.size, 3, none⟩ (.int .i64 0) = w9 := setCell_self w9 w.heap.size 3 #[.int .i64 0, .int .i64 0, .int .i64 0, .int .i64 0, .slice none 0 0, .int .i64 0, .int .i64 0, .int .i64 0, .int .i64 0] 28 _ T9.out.o rfl
  have e4 : w9.setCell ⟨w.heap.size, 4, none⟩ (.slice none 0 0) = w9 := setCell_self w9 w.heap.size 4 #[.int .i64 0, .int .i64 0, .int .i64 0, .int .i64 0, .slice none 0 0, .int .i64 0, .int .i64 0, .int .i64 0, .int .i64 0] 28 _ T9.out.o rfl
  have e5 : w9.setCell ⟨w.heap.size, 5, none⟩ (.int .i64 0) = w9 := setCell_self w9 w.heap.size 5 #[.int .i64 0, .int .i64 0, .int .i64 0, .int .i64 0, .slice none 0 0, .int .i64 0, .int .i64 0, .int .i64 0, .int .i64 0] 28 _ T9.out.o rfl
  have e6 : w9.setCell ⟨w.heap.size, 6, none⟩ (.int .i64 0) = w9 := setCell_self w9 w.heap.size 6 #[.int .i64 0, .int .i64 0, .int .i64 0, .int .i64 0, .slice none 0 0, .int .i64 0, .int .i64 0, .int .i64 0, .int .i64 0] 28 _ T9.out.o rfl
  have e7 : w9.setCell ⟨w.heap.size, 7, none⟩ (.int .i64 0) = w9 := setCell_self w9 w.heap.size 7 #[.int .i64 0, .int .i64 0, .int .i64 0, .int .i64 0, .slice none 0 0, .int .i64 0, .int .i64 0, .int .i64 0, .int .i64 0] 28 _ T9.out.o rfl
  have e8 : w9.setCell ⟨w.heap.size, 8, none⟩ (.int .i64 0) = w9 := setCell_self w9 w.heap.size 8 #[.int .i64 0, .int .i64 0, .int .i64 0, .int .i64 0, .slice none 0 0, .int .i64 0, .int .i64 0, .int .i64 0, .int .i64 0] 28 _ T9.out.o rfl
  have c2 : w9.cell? ⟨rb, 2, none⟩ = some (.int .i64 x) := T9.out.cellR 2
  clear cr
  go_wp2_with fail
  go_region_held3 (fun w' => w'.cell? ⟨rb, 2, none⟩ = some (.int .i64 x)) (go_keep) (fail)
  go_wp2_with fail
  exact bodyPost_ret (v := .tuple #[.agg #[.int .i64 0, .int .i64 0, .int .i64 0, .int .i64 0, .slice none 0 0, .int .i64 0, .int .i64 0, .int .i64 0, .int .i64 0], .int .i64 x]) (by simp [results, Try.results25, go_sem, qz]) rfl ⟨rfl, T9.out.b.drew⟩

set_option maxRecDepth 100000 in
set_option maxHeartbeats 8000000 in
theorem rdec_slot_err3 (ao : Option Addr) (n c : Nat) (w : World) (bs : List Int) (hr : Rd w ao n c bs) (h0 : n ≠ 0) (h1 : n ≤ 300) (hnc : n ≤ c) (hk : bs.getD 0 0 = 2) (x : Int) (p : Int) (a1 : Nat) (st2 : Int) (a2 : Nat) (ss : Int) (a3 : Nat) (h2 : Hid (cnt bs 1 1 4611686018427387904 = .ok (p, a1))) (h3 : Hid (cnt bs a1 0 (p - 1) = .ok (st2, a2))) (h4 : Hid (cnt bs a2 0 15 = .ok (ss, a3))) (h5 : Hid (cnt bs a3 1 4611686018427387904 = .error x)) :
    Calls Try.prog 25 #[.slice ao n c] w fun e w' => e = .returned (.tuple #[.agg #[.int .i64 0, .int .i64 0, .int .i64 0, .int .i64 0, .slice none 0 0, .int .i64 0, .int .i64 0, .int .i64 0, .int .i64 0], .int .i64 x]) ∧ Below w.heap.size w w' := by
  have hx : x ≠ 0 := cnt_nz h5.out
  have hx' : (x != 0) = true := by simpa using hx
  have hwp : wrap64 (p - 1) = p - 1 := by have := cnt_ok h2.out; exact w64 _ (by omega)
  obtain ⟨b, off, rfl, hc⟩ := rd_cell0 hr h0
  have HR : Hid (Rd w (some ⟨b, off, none⟩) n c bs) := hr
  have hpos : 0 < n := by omega
  rw [hk] at hc
  have hw1' : wrap64 2 = 2 := w64 _ (by omega)
  have h1' : ¬ (300 : Int) < (n : Int) := by omega
  have h0' : ¬ (n : Int) = 0 := by omega
  have hbl : b < w.heap.size := World.block_lt_of_cell? w _ hc
  clear hr hk
  go_enter Try.func25, Try.ntmps25
  go_wp2_with fail
  have S0 : Hid (Sd w (((w.alloc (.cells #[.int .i64 0, .int .i64 0, .int .i64 0, .int .i64 0, .slice none 0 0, .int .i64 0, .int .i64 0, .int .i64 0, .int .i64 0] 28)).alloc (.cells #[.slice (some ⟨b, off, none⟩) n c, .int .i64 1, .int .i64 0] 105)).alloc (.cells #[.int .i64 2, .int .i64 0, .int .i64 0, .int .i64 0, .slice none 0 0, .int .i64 0, .int .i64 0, .int .i64 0, .int .i64 0] 28)) (w.heap.size + 1) #[.slice (some ⟨b, off, none⟩) n c, .int .i64 1, .int .i64 0] 105 w.heap.size #[.int .i64 0, .int .i64 0, .int .i64 0, .int .i64 0, .slice none 0 0, .int .i64 0, .int .i64 0, .int .i64 0, .int .i64 0] (w.heap.size + 1 + 1) #[.int .i64 2, .int .i64 0, .int .i64 0, .int .i64 0, .slice none 0 0, .int .i64 0, .int .i64 0, .int .i64 0, .int .i64 0] 28) := Sd.new w _ _ _ _ _
  generalize ((w.alloc (.cells #[.int .i64 0, .int .i64 0, .int .i64 0, .int .i64 0, .slice none 0 0, .int .i64 0, .int .i64 0, .int .i64 0, .int .i64 0] 28)).alloc (.cells #[.slice (some ⟨b, off, none⟩) n c, .int .i64 1, .int .i64 0] 105)).alloc (.cells #[.int .i64 2, .int .i64 0, .int .i64 0, .int .i64 0, .slice none 0 0, .int .i64 0, .int .i64 0, .int .i64 0, .int .i64 0] 28) = W0 at *
  have g3 : w.heap.size ≤ w.heap.size + 1 := by omega
  generalize w.heap.size + 1 + 1 = sb at *
  generalize w.heap.size + 1 = rb at *
  refine (rnum_ok rb n c (some ⟨b, off, none⟩) bs 1 a1 1 4611686018427387904 p W0 S0.out.r (HR.out.below S0.out.b) (by omega) h2.out).mono ?_
  rintro e w1 ⟨rfl, hb1, hk1⟩
  have T0 : Hid (Sd w w1 rb #[.slice (some ⟨b, off, none⟩) n c, .int .i64 a1, .int .i64 0] 105 w.heap.size #[.int .i64 0, .int .i64 0, .int .i64 0, .int .i64 0, .slice none 0 0, .int .i64 0, .int .i64 0, .int .i64 0, .int .i64 0] sb #[.int .i64 2, .int .i64 0, .int .i64 0, .int .i64 0, .slice none 0 0, .int .i64 0, .int .i64 0, .int .i64 0, .int .i64 0] 28) := S0.out.call hb1 hk1
  clear hb1 hk1 S0
  have f0 := T0.out.fz 5
  have q0 := fun i => T0.out.cell i
  have S1 : Hid (Sd w (w1.setCell ⟨sb, 5, none⟩ (.int .i64 p)) rb #[.slice (some ⟨b, off, none⟩) n c, .int .i64 a1, .int .i64 0] 105 w.heap.size #[.int .i64 0, .int .i64 0, .int .i64 0, .int .i64 0, .slice none 0 0, .int .i64 0, .int .i64 0, .int .i64 0, .int .i64 0] sb #[.int .i64 2, .int .i64 0, .int .i64 0, .int .i64 0, .slice none 0 0, .int .i64 p, .int .i64 0, .int .i64 0, .int .i64 0] 28) := T0.out.store 5 (.int .i64 p)
  have p0 := fun i => S1.out.cell i
  go_wp2_with fail
  clear f0 q0 p0 T0
  generalize w1.setCell ⟨sb, 5, none⟩ (.int .i64 p) = W1 at *
  refine (rnum_ok rb n c (some ⟨b, off, none⟩) bs a1 a2 0 (p - 1) st2 W1 S1.out.r (HR.out.below S1.out.b) (by omega) h3.out).mono ?_
  rintro e w2 ⟨rfl, hb1, hk1⟩
  have T1 : Hid (Sd w w2 rb #[.slice (some ⟨b, off, none⟩) n c, .int .i64 a2, .int .i64 0] 105 w.heap.size #[.int .i64 0, .int .i64 0, .int .i64 0, .int .i64 0, .slice none 0 0, .int .i64 0, .int .i64 0, .int .i64 0, .int .i64 0] sb #[.int .i64 2, .int .i64 0, .int .i64 0, .int .i64 0, .slice none 0 0, .int .i64 p, .int .i64 0, .int .i64 0, .int .i64 0] 28) := S1.out.call hb1 hk1
  clear hb1 hk1 S1
  have f1 := T1.out.fz 6
  have q1 := fun i => T1.out.cell i
  have S2 : Hid (Sd w (w2.setCell ⟨sb, 6, none⟩ (.int .i64 st2)) rb #[.slice (some ⟨b, off, none⟩) n c, .int .i64 a2, .int .i64 0] 105 w.heap.size #[.int .i64 0, .int .i64 0, .int .i64 0, .int .i64 0, .slice none 0 0, .int .i64 0, .int .i64 0, .int .i64 0, .int .i64 0] sb #[.int .i64 2, .int .i64 0, .int .i64 0, .int .i64 0, .slice none 0 0, .int .i64 p, .int .i64 st2, .int .i64 0, .int .i64 0] 28) := T1.out.store 6 (.int .i64 st2)
  have p1 := fun i => S2.out.cell i
  go_wp2_with fail
  clear f1 q1 p1 T1
  generalize w2.setCell ⟨sb, 6, none⟩ (.int .i64 st2) = W2 at *
  refine (rnum_ok rb n c (some ⟨b, off, none⟩) bs a2 a3 0 15 ss W2 S2.out.r (HR.out.below S2.out.b) (by omega) h4.out).mono ?_
  rintro e w3 ⟨rfl, hb1, hk1⟩
  have T2 : Hid (Sd w w3 rb #[.slice (some ⟨b, off, none⟩) n c, .int .i64 a3, .int .i64 0] 105 w.heap.size #[.int .i64 0, .int .i64 0, .int .i64 0, .int .i64 0, .slice none 0 0, .int .i64 0, .int .i64 0, .int .i64 0, .int .i64 0] sb #[.int .i64 2, .int .i64 0, .int .i64 0, .int .i64 0, .slice none 0 0, .int .i64 p, .int .i64 st2, .int .i64 0, .int .i64 0] 28) := S2.out.call hb1 hk1
  clear hb1 hk1 S2
  have f2 := T2.out.fz 7
  have q2 := fun i => T2.out.cell i
  have S3 : Hid (Sd w (w3.setCell ⟨sb, 7, none⟩ (.int .i64 ss)) rb #[.slice (some ⟨b, off, none⟩) n c, .int .i64 a3, .int .i64 0] 105 w.heap.size #[.int .i64 0, .int .i64 0, .int .i64 0, .int .i64 0, .slice none 0 0, .int .i64 0, .int .i64 0, .int .i64 0, .int .i64 0] sb #[.int .i64 2, .int .i64 0, .int .i64 0, .int .i64 0, .slice none 0 0, .int .i64 p, .int .i64 st2, .int .i64 ss, .int .i64 0] 28) := T2.out.store 7 (.int .i64 ss)
  have p2 := fun i => S3.out.cell i
  go_wp2_with fail
  clear f2 q2 p2 T2
  generalize w3.setCell ⟨sb, 7, none⟩ (.int .i64 ss) = W3 at *
  refine (rnum_err rb n c (some ⟨b, off, none⟩) bs a3 1 4611686018427387904 x W3 S3.out.r (HR.out.below S3.out.b) (by omega) h5.out).mono ?_
  rintro e w4 ⟨rfl, ⟨ax, hb1⟩, hk1⟩
  have T3 : Hid (Sd w w4 rb #[.slice (some ⟨b, off, none⟩) n c, .int .i64 ax, .int .i64 x] 105 w.heap.size #[.int .i64 0, .int .i64 0, .int .i64 0, .int .i64 0, .slice none 0 0, .int .i64 0, .int .i64 0, .int .i64 0, .int .i64 0] sb #[.int .i64 2, .int .i64 0, .int .i64 0, .int .i64 0, .slice none 0 0, .int .i64 p, .int .i64 st2, .int .i64 ss, .int .i64 0] 28) := S3.out.call hb1 hk1
  clear hb1 hk1 S3
  have f3 := T3.out.fz 8
  have q3 := fun i => T3.out.cell i
  have S4 : Hid (Sd w (w4.setCell ⟨sb, 8, none⟩ (.int .i64 0)) rb #[.slice (some ⟨b, off, none⟩) n c, .int .i64 ax, .int .i64 x] 105 w.heap.size #[.int .i64 0, .int .i64 0, .int .i64 0, .int .i64 0, .slice none 0 0, .int .i64 0, .int .i64 0, .int .i64 0, .int .i64 0] sb #[.int .i64 2, .int .i64 0, .int .i64 0, .int .i64 0, .slice none 0 0, .int .i64 p, .int .i64 st2, .int .i64 ss, .int .i64 0] 28) := T3.out.store 8 (.int .i64 0)
  have p3 := fun i => S4.out.cell i
  go_wp2_with fail
  clear f3 q3 p3 T3
  generalize w4.setCell ⟨sb, 8, none⟩ (.int .i64 0) = W4 at *
  refine (rend_stuck rb n c (some ⟨b, off, none⟩) ax x W4 S4.out.r hx).mono ?_
  rintro e w9 ⟨rfl, hb1, hk1⟩
  have T9 : Hid (Sd w w9 rb #[.slice (some ⟨b, off, none⟩) n c, .int .i64 ax, .int .i64 x] 105 w.heap.size #[.int .i64 0, .int .i64 0, .int .i64 0, .int .i64 0, .slice none 0 0, .int .i64 0, .int .i64 0, .int .i64 0, .int .i64 0] sb #[.int .i64 2, .int .i64 0, .int .i64 0, .int .i64 0, .slice none 0 0, .int .i64 p, .int .i64 st2, .int .i64 ss, .int .i64 0] 28) := S4.out.call hb1 hk1
  clear hb1 hk1 S4
  have cr := fun i => T9.out.cellR i
  have qz := fun i => T9.out.cellO i
  have fz := fun i => T9.out.fzO i
  have e0 : w9.setCell ⟨w.heap.size, 0, none⟩ (.int .i64 0) = w9 := setCell_self w9 w.heap.size 0 #[.int .i64 0, .int .i64 0, .int .i64 0, .int .i64 0, .slice none 0 0, .int .i64 0, .int .i64 0, .int .i64 0, .int .i64 0] 28 _ T9.out.o rfl
  have e1 : w9.setCell ⟨w.heap.size, 1, none⟩ (.int .i64 0) = w9 := setCell_self w9 w.heap.size 1 #[.int .i64 0, .int .i64 0, .int .i64 0, .int .i64 0, .slice none 0 0, .int .i64 0, .int .i64 0, .int .i64 0, .int .i64 0] 28 _ T9.out.o rfl
  have e2 : w9.setCell ⟨w.heap.size, 2, none⟩ (.int .i64 0) = w9 := setCell_self w9 w.heap.size 2 #[.int .i64 0, .int .i64 0, .int .i64 0, .int .i64 0, .slice none 0 0, .int .i64 0, .int .i64 0, .int .i64 0, .int .i64 0] 28 _ T9.out.o rfl
  have e3 : w9.setCell ⟨w.heap.size, 3, none⟩ (.int .i64 0) = w9 := setCell_self w9 w.heap.size 3 #[.int .i64 0, .int .i64 0, .int .i64 0, .int .i64 0, .slice none 0 0, .int .i64 0, .int .i64 0, .int .i64 0, .int .i64 0] 28 _ T9.out.o rfl
  have e4 : w9.setCell ⟨w.heap.size, 4, none⟩ (.slice none 0 0) = w9 := setCell_self w9 w.heap.size 4 #[.int .i64 0, .int .i64 0, .int .i64 0, .int .i64 0, .slice none 0 0, .int .i64 0, .int .i64 0, .int .i64 0, .int .i64 0] 28 _ T9.out.o rfl
  have e5 : w9.setCell ⟨w.heap.size, 5, none⟩ (.int .i64 0) = w9 := setCell_self w9 w.heap.size 5 #[.int .i64 0, .int .i64 0, .int .i64 0, .int .i64 0, .slice none 0 0, .int .i64 0, .int .i64 0, .int .i64 0, .int .i64 0] 28 _ T9.out.o rfl
  have e6 : w9.setCell ⟨w.heap.size, 6, none⟩ (.int .i64 0) = w9 := setCell_self w9 w.heap.size 6 #[.int .i64 0, .int .i64 0, .int .i64 0, .int .i64 0, .slice none 0 0, .int .i64 0, .int .i64 0, .int .i64 0, .int .i64 0] 28 _ T9.out.o rfl
  have e7 : w9.setCell ⟨w.heap.size, 7, none⟩ (.int .i64 0) = w9 := setCell_self w9 w.heap.size 7 #[.int .i64 0, .int .i64 0, .int .i64 0, .int .i64 0, .slice none 0 0, .int .i64 0, .int .i64 0, .int .i64 0, .int .i64 0] 28 _ T9.out.o rfl
  have e8 : w9.setCell ⟨w.heap.size, 8, none⟩ (.int .i64 0) = w9 := setCell_self w9 w.heap.size 8 #[.int .i64 0, .int .i64 0, .int .i64 0, .int .i64 0, .slice none 0 0, .int .i64 0, .int .i64 0, .int .i64 0, .int .i64 0] 28 _ T9.out.o rfl
  have c2 : w9.cell? ⟨rb, 2, none⟩ = some (.int .i64 x) := T9.out.cellR 2
  clear cr
  go_wp2_with fail
  go_region_held3 (fun w' => w'.cell? ⟨rb, 2, none⟩ = some (.int .i64 x)) (go_keep) (fail)
  go_wp2_with fail
  exact bodyPost_ret (v := .tuple #[.agg #[.int .i64 0, .int .i64 0, .int .i64 0, .int .i64 0, .slice none 0 0, .int .i64 0, .int .i64 0, .int .i64 0, .int .i64 0], .int .i64 x]) (by simp [results, Try.results25, go_sem, qz]) rfl ⟨rfl, T9.out.b.drew⟩

set_option maxRecDepth 100000 in
set_option maxHeartbeats 8000000 in
theorem rdec_slot (ao : Option Addr) (n c : Nat) (w : World) (bs : List Int) (hr : Rd w ao n c bs) (h0 : n ≠ 0) (h1 : n ≤ 300) (hnc : n ≤ c) (hk : bs.getD 0 0 = 2) (p st2 ss sq : Int) (a1 a2 a3 a4 : Nat) (h2 : Hid (cnt bs 1 1 4611686018427387904 = .ok (p, a1))) (h3 : Hid (cnt bs a1 0 (p - 1) = .ok (st2, a2))) (h4 : Hid (cnt bs a2 0 15 = .ok (ss, a3))) (h5 : Hid (cnt bs a3 1 4611686018427387904 = .ok (sq, a4))) (hend : a4 = n) :
    Calls Try.prog 25 #[.slice ao n c] w fun e w' => e = .returned (.tuple #[.agg #[.int .i64 2, .int .i64 0, .int .i64 0, .int .i64 0, .slice none 0 0, .int .i64 p, .int .i64 st2, .int .i64 ss, .int .i64 sq], .int .i64 0]) ∧ Below w.heap.size w w' := by
  have hwp : wrap64 (p - 1) = p - 1 := by have := cnt_ok h2.out; exact w64 _ (by omega)
  obtain ⟨b, off, rfl, hc⟩ := rd_cell0 hr h0
  have HR : Hid (Rd w (some ⟨b, off, none⟩) n c bs) := hr
  have hpos : 0 < n := by omega
  rw [hk] at hc
  have hw1' : wrap64 2 = 2 := w64 _ (by omega)
  have h1' : ¬ (300 : Int) < (n : Int) := by omega
  have h0' : ¬ (n : Int) = 0 := by omega
  have hbl : b < w.heap.size := World.block_lt_of_cell? w _ hc
  clear hr hk
  go_enter Try.func25, Try.ntmps25
  go_wp2_with fail
  have S0 : Hid (Sd w (((w.alloc (.cells #[.int .i64 0, .int .i64 0, .int .i64 0, .int .i64 0, .slice none 0 0, .int .i64 0, .int .i64 0, .int .i64 0, .int .i64 0] 28)).alloc (.cells #[.slice (some ⟨b, off, none⟩) n c, .int .i64 1, .int .i64 0] 105)).alloc (.cells #[.int .i64 2, .int .i64 0, .int .i64 0, .int .i64 0, .slice none 0 0, .int .i64 0, .int .i64 0, .int .i64 0, .int .i64 0] 28)) (w.heap.size + 1) #[.slice (some ⟨b, off, none⟩) n c, .int .i64 1, .int .i64 0] 105 w.heap.size #[.int .i64 0, .int .i64 0, .int .i64 0, .int .i64 0, .slice none 0 0, .int .i64 0, .int .i64 0, .int .i64 0, .int .i64 0] (w.heap.size + 1 + 1) #[.int .i64 2, .int .i64 0, .int .i64 0, .int .i64 0, .slice none 0 0, .int .i64 0, .int .i64 0, .int .i64 0, .int .i64 0] 28) := Sd.new w _ _ _ _ _
  generalize ((w.alloc (.cells #[.int .i64 0, .int .i64 0, .int .i64 0, .int .i64 0, .slice none 0 0, .int .i64 0, .int .i64 0, .int .i64 0, .int .i64 0] 28)).alloc (.cells #[.slice (some ⟨b, off, none⟩) n c, .int .i64 1, .int .i64 0] 105)).alloc (.cells #[.int .i64 2, .int .i64 0, .int .i64 0, .int .i64 0, .slice none 0 0, .int .i64 0, .int .i64 0, .int .i64 0, .int .i64 0] 28) = W0 at *
  have g3 : w.heap.size ≤ w.heap.size + 1 := by omega
  generalize w.heap.size + 1 + 1 = sb at *
  generalize w.heap.size + 1 = rb at *
  refine (rnum_ok rb n c (some ⟨b, off, none⟩) bs 1 a1 1 4611686018427387904 p W0 S0.out.r (HR.out.below S0.out.b) (by omega) h2.out).mono ?_
  rintro e w1 ⟨rfl, hb1, hk1⟩
  have T0 : Hid (Sd w w1 rb #[.slice (some ⟨b, off, none⟩) n c, .int .i64 a1, .int .i64 0] 105 w.heap.size #[.int .i64 0, .int .i64 0, .int .i64 0, .int .i64 0, .slice none 0 0, .int .i64 0, .int .i64 0, .int .i64 0, .int .i64 0] sb #[.int .i64 2, .int .i64 0, .int .i64 0, .int .i64 0, .slice none 0 0, .int .i64 0, .int .i64 0, .int .i64 0, .int .i64 0] 28) := S0.out.call hb1 hk1
  clear hb1 hk1 S0
  have f0 := T0.out.fz 5
  have q0 := fun i => T0.out.cell i
  have S1 : Hid (Sd w (w1.setCell ⟨sb, 5, none⟩ (.int .i64 p)) rb #[.slice (some ⟨b, off, none⟩) n c, .int .i64 a1, .int .i64 0] 105 w.heap.size #[.int .i64 0, .int .i64 0, .int .i64 0, .int .i64 0, .slice none 0 0, .int .i64 0, .int .i64 0, .int .i64 0, .int .i64 0] sb #[.int .i64 2, .int .i64 0, .int .i64 0, .int .i64 0, .slice none 0 0, .int .i64 p, .int .i64 0, .int .i64 0, .int .i64 0] 28) := T0.out.store 5 (.int .i64 p)
  have p0 := fun i => S1.out.cell i
  go_wp2_with fail
  clear f0 q0 p0 T0
  generalize w1.setCell ⟨sb, 5, none⟩ (.int .i64 p) = W1 at *
  refine (rnum_ok rb n c (some ⟨b, off, none⟩) bs a1 a2 0 (p - 1) st2 W1 S1.out.r (HR.out.below S1.out.b) (by omega) h3.out).mono ?_
  rintro e w2 ⟨rfl, hb1, hk1⟩
  have T1 : Hid (Sd w w2 rb #[.slice (some ⟨b, off, none⟩) n c, .int .i64 a2, .int .i64 0] 105 w.heap.size #[.int .i64 0, .int .i64 0, .int .i64 0, .int .i64 0, .slice none 0 0, .int .i64 0, .int .i64 0, .int .i64 0, .int .i64 0] sb #[.int .i64 2, .int .i64 0, .int .i64 0, .int .i64 0, .slice none 0 0, .int .i64 p, .int .i64 0, .int .i64 0, .int .i64 0] 28) := S1.out.call hb1 hk1
  clear hb1 hk1 S1
  have f1 := T1.out.fz 6
  have q1 := fun i => T1.out.cell i
  have S2 : Hid (Sd w (w2.setCell ⟨sb, 6, none⟩ (.int .i64 st2)) rb #[.slice (some ⟨b, off, none⟩) n c, .int .i64 a2, .int .i64 0] 105 w.heap.size #[.int .i64 0, .int .i64 0, .int .i64 0, .int .i64 0, .slice none 0 0, .int .i64 0, .int .i64 0, .int .i64 0, .int .i64 0] sb #[.int .i64 2, .int .i64 0, .int .i64 0, .int .i64 0, .slice none 0 0, .int .i64 p, .int .i64 st2, .int .i64 0, .int .i64 0] 28) := T1.out.store 6 (.int .i64 st2)
  have p1 := fun i => S2.out.cell i
  go_wp2_with fail
  clear f1 q1 p1 T1
  generalize w2.setCell ⟨sb, 6, none⟩ (.int .i64 st2) = W2 at *
  refine (rnum_ok rb n c (some ⟨b, off, none⟩) bs a2 a3 0 15 ss W2 S2.out.r (HR.out.below S2.out.b) (by omega) h4.out).mono ?_
  rintro e w3 ⟨rfl, hb1, hk1⟩
  have T2 : Hid (Sd w w3 rb #[.slice (some ⟨b, off, none⟩) n c, .int .i64 a3, .int .i64 0] 105 w.heap.size #[.int .i64 0, .int .i64 0, .int .i64 0, .int .i64 0, .slice none 0 0, .int .i64 0, .int .i64 0, .int .i64 0, .int .i64 0] sb #[.int .i64 2, .int .i64 0, .int .i64 0, .int .i64 0, .slice none 0 0, .int .i64 p, .int .i64 st2, .int .i64 0, .int .i64 0] 28) := S2.out.call hb1 hk1
  clear hb1 hk1 S2
  have f2 := T2.out.fz 7
  have q2 := fun i => T2.out.cell i
  have S3 : Hid (Sd w (w3.setCell ⟨sb, 7, none⟩ (.int .i64 ss)) rb #[.slice (some ⟨b, off, none⟩) n c, .int .i64 a3, .int .i64 0] 105 w.heap.size #[.int .i64 0, .int .i64 0, .int .i64 0, .int .i64 0, .slice none 0 0, .int .i64 0, .int .i64 0, .int .i64 0, .int .i64 0] sb #[.int .i64 2, .int .i64 0, .int .i64 0, .int .i64 0, .slice none 0 0, .int .i64 p, .int .i64 st2, .int .i64 ss, .int .i64 0] 28) := T2.out.store 7 (.int .i64 ss)
  have p2 := fun i => S3.out.cell i
  go_wp2_with fail
  clear f2 q2 p2 T2
  generalize w3.setCell ⟨sb, 7, none⟩ (.int .i64 ss) = W3 at *
  refine (rnum_ok rb n c (some ⟨b, off, none⟩) bs a3 a4 1 4611686018427387904 sq W3 S3.out.r (HR.out.below S3.out.b) (by omega) h5.out).mono ?_
  rintro e w4 ⟨rfl, hb1, hk1⟩
  have T3 : Hid (Sd w w4 rb #[.slice (some ⟨b, off, none⟩) n c, .int .i64 a4, .int .i64 0] 105 w.heap.size #[.int .i64 0, .int .i64 0, .int .i64 0, .int .i64 0, .slice none 0 0, .int .i64 0, .int .i64 0, .int .i64 0, .int .i64 0] sb #[.int .i64 2, .int .i64 0, .int .i64 0, .int .i64 0, .slice none 0 0, .int .i64 p, .int .i64 st2, .int .i64 ss, .int .i64 0] 28) := S3.out.call hb1 hk1
  clear hb1 hk1 S3
  have f3 := T3.out.fz 8
  have q3 := fun i => T3.out.cell i
  have S4 : Hid (Sd w (w4.setCell ⟨sb, 8, none⟩ (.int .i64 sq)) rb #[.slice (some ⟨b, off, none⟩) n c, .int .i64 a4, .int .i64 0] 105 w.heap.size #[.int .i64 0, .int .i64 0, .int .i64 0, .int .i64 0, .slice none 0 0, .int .i64 0, .int .i64 0, .int .i64 0, .int .i64 0] sb #[.int .i64 2, .int .i64 0, .int .i64 0, .int .i64 0, .slice none 0 0, .int .i64 p, .int .i64 st2, .int .i64 ss, .int .i64 sq] 28) := T3.out.store 8 (.int .i64 sq)
  have p3 := fun i => S4.out.cell i
  go_wp2_with fail
  clear f3 q3 p3 T3
  generalize w4.setCell ⟨sb, 8, none⟩ (.int .i64 sq) = W4 at *
  refine (rend_ok rb n c (some ⟨b, off, none⟩) a4 W4 S4.out.r hend).mono ?_
  rintro e w9 ⟨rfl, hb1, hk1⟩
  have T9 : Hid (Sd w w9 rb #[.slice (some ⟨b, off, none⟩) n c, .int .i64 a4, .int .i64 0] 105 w.heap.size #[.int .i64 0, .int .i64 0, .int .i64 0, .int .i64 0, .slice none 0 0, .int .i64 0, .int .i64 0, .int .i64 0, .int .i64 0] sb #[.int .i64 2, .int .i64 0, .int .i64 0, .int .i64 0, .slice none 0 0, .int .i64 p, .int .i64 st2, .int .i64 ss, .int .i64 sq] 28) := S4.out.call hb1 hk1
  have cr := fun i => T9.out.cellR i
  have cz := fun i => T9.out.cell i
  clear hb1 hk1 S4
  have fU0 := T9.out.fzO 0
  have qU0 := fun i => T9.out.cellO i
  have U0 : Hid (Sd w (w9.setCell ⟨w.heap.size, 0, none⟩ (.int .i64 2)) rb #[.slice (some ⟨b, off, none⟩) n c, .int .i64 a4, .int .i64 0] 105 w.heap.size #[.int .i64 2, .int .i64 0, .int .i64 0, .int .i64 0, .slice none 0 0, .int .i64 0, .int .i64 0, .int .i64 0, .int .i64 0] sb #[.int .i64 2, .int .i64 0, .int .i64 0, .int .i64 0, .slice none 0 0, .int .i64 p, .int .i64 st2, .int .i64 ss, .int .i64 sq] 28) := T9.out.storeO 0 (.int .i64 2)
  have fU1 := U0.out.fzO 1
  have qU1 := fun i => U0.out.cellO i
  have U1 : Hid (Sd w ((w9.setCell ⟨w.heap.size, 0, none⟩ (.int .i64 2)).setCell ⟨w.heap.size, 1, none⟩ (.int .i64 0)) rb #[.slice (some ⟨b, off, none⟩) n c, .int .i64 a4, .int .i64 0] 105 w.heap.size #[.int .i64 2, .int .i64 0, .int .i64 0, .int .i64 0, .slice none 0 0, .int .i64 0, .int .i64 0, .int .i64 0, .int .i64 0] sb #[.int .i64 2, .int .i64 0, .int .i64 0, .int .i64 0, .slice none 0 0, .int .i64 p, .int .i64 st2, .int .i64 ss, .int .i64 sq] 28) := U0.out.storeO 1 (.int .i64 0)
  have fU2 := U1.out.fzO 2
  have qU2 := fun i => U1.out.cellO i
  have U2 : Hid (Sd w (((w9.setCell ⟨w.heap.size, 0, none⟩ (.int .i64 2)).setCell ⟨w.heap.size, 1, none⟩ (.int .i64 0)).setCell ⟨w.heap.size, 2, none⟩ (.int .i64 0)) rb #[.slice (some ⟨b, off, none⟩) n c, .int .i64 a4, .int .i64 0] 105 w.heap.size #[.int .i64 2, .int .i64 0, .int .i64 0, .int .i64 0, .slice none 0 0, .int .i64 0, .int .i64 0, .int .i64 0, .int .i64 0] sb #[.int .i64 2, .int .i64 0, .int .i64 0, .int .i64 0, .slice none 0 0, .int .i64 p, .int .i64 st2, .int .i64 ss, .int .i64 sq] 28) := U1.out.storeO 2 (.int .i64 0)
  have fU3 := U2.out.fzO 3
  have qU3 := fun i => U2.out.cellO i
  have U3 : Hid (Sd w ((((w9.setCell ⟨w.heap.size, 0, none⟩ (.int .i64 2)).setCell ⟨w.heap.size, 1, none⟩ (.int .i64 0)).setCell ⟨w.heap.size, 2, none⟩ (.int .i64 0)).setCell ⟨w.heap.size, 3, none⟩ (.int .i64 0)) rb #[.slice (some ⟨b, off, none⟩) n c, .int .i64 a4, .int .i64 0] 105 w.heap.size #[.int .i64 2, .int .i64 0, .int .i64 0, .int .i64 0, .slice none 0 0, .int .i64 0, .int .i64 0, .int .i64 0, .int .i64 0] sb #[.int .i64 2, .int .i64 0, .int .i64 0, .int .i64 0, .slice none 0 0, .int .i64 p, .int .i64 st2, .int .i64 ss, .int .i64 sq] 28) := U2.out.storeO 3 (.int .i64 0)
  have fU4 := U3.out.fzO 4
  have qU4 := fun i => U3.out.cellO i
  have U4 : Hid (Sd w (((((w9.setCell ⟨w.heap.size, 0, none⟩ (.int .i64 2)).setCell ⟨w.heap.size, 1, none⟩ (.int .i64 0)).setCell ⟨w.heap.size, 2, none⟩ (.int .i64 0)).setCell ⟨w.heap.size, 3, none⟩ (.int .i64 0)).setCell ⟨w.heap.size, 4, none⟩ (.slice none 0 0)) rb #[.slice (some ⟨b, off, none⟩) n c, .int .i64 a4, .int .i64 0] 105 w.heap.size #[.int .i64 2, .int .i64 0, .int .i64 0, .int .i64 0, .slice none 0 0, .int .i64 0, .int .i64 0, .int .i64 0, .int .i64 0] sb #[.int .i64 2, .int .i64 0, .int .i64 0, .int .i64 0, .slice none 0 0, .int .i64 p, .int .i64 st2, .int .i64 ss, .int .i64 sq] 28) := U3.out.storeO 4 (.slice none 0 0)
  have fU5 := U4.out.fzO 5
  have qU5 := fun i => U4.out.cellO i
  have U5 : Hid (Sd w ((((((w9.setCell ⟨w.heap.size, 0, none⟩ (.int .i64 2)).setCell ⟨w.heap.size, 1, none⟩ (.int .i64 0)).setCell ⟨w.heap.size, 2, none⟩ (.int .i64 0)).setCell ⟨w.heap.size, 3, none⟩ (.int .i64 0)).setCell ⟨w.heap.size, 4, none⟩ (.slice none 0 0)).setCell ⟨w.heap.size, 5, none⟩ (.int .i64 p)) rb #[.slice (some ⟨b, off, none⟩) n c, .int .i64 a4, .int .i64 0] 105 w.heap.size #[.int .i64 2, .int .i64 0, .int .i64 0, .int .i64 0, .slice none 0 0, .int .i64 p, .int .i64 0, .int .i64 0, .int .i64 0] sb #[.int .i64 2, .int .i64 0, .int .i64 0, .int .i64 0, .slice none 0 0, .int .i64 p, .int .i64 st2, .int .i64 ss, .int .i64 sq] 28) := U4.out.storeO 5 (.int .i64 p)
  have fU6 := U5.out.fzO 6
  have qU6 := fun i => U5.out.cellO i
  have U6 : Hid (Sd w (((((((w9.setCell ⟨w.heap.size, 0, none⟩ (.int .i64 2)).setCell ⟨w.heap.size, 1, none⟩ (.int .i64 0)).setCell ⟨w.heap.size, 2, none⟩ (.int .i64 0)).setCell ⟨w.heap.size, 3, none⟩ (.int .i64 0)).setCell ⟨w.heap.size, 4, none⟩ (.slice none 0 0)).setCell ⟨w.heap.size, 5, none⟩ (.int .i64 p)).setCell ⟨w.heap.size, 6, none⟩ (.int .i64 st2)) rb #[.slice (some ⟨b, off, none⟩) n c, .int .i64 a4, .int .i64 0] 105 w.heap.size #[.int .i64 2, .int .i64 0, .int .i64 0, .int .i64 0, .slice none 0 0, .int .i64 p, .int .i64 st2, .int .i64 0, .int .i64 0] sb #[.int .i64 2, .int .i64 0, .int .i64 0, .int .i64 0, .slice none 0 0, .int .i64 p, .int .i64 st2, .int .i64 ss, .int .i64 sq] 28) := U5.out.storeO 6 (.int .i64 st2)
  have fU7 := U6.out.fzO 7
  have qU7 := fun i => U6.out.cellO i
  have U7 : Hid (Sd w ((((((((w9.setCell ⟨w.heap.size, 0, none⟩ (.int .i64 2)).setCell ⟨w.heap.size, 1, none⟩ (.int .i64 0)).setCell ⟨w.heap.size, 2, none⟩ (.int .i64 0)).setCell ⟨w.heap.size, 3, none⟩ (.int .i64 0)).setCell ⟨w.heap.size, 4, none⟩ (.slice none 0 0)).setCell ⟨w.heap.size, 5, none⟩ (.int .i64 p)).setCell ⟨w.heap.size, 6, none⟩ (.int .i64 st2)).setCell ⟨w.heap.size, 7, none⟩ (.int .i64 ss)) rb #[.slice (some ⟨b, off, none⟩) n c, .int .i64 a4, .int .i64 0] 105 w.heap.size #[.int .i64 2, .int .i64 0, .int .i64 0, .int .i64 0, .slice none 0 0, .int .i64 p, .int .i64 st2, .int .i64 ss, .int .i64 0] sb #[.int .i64 2, .int .i64 0, .int .i64 0, .int .i64 0, .slice none 0 0, .int .i64 p, .int .i64 st2, .int .i64 ss, .int .i64 sq] 28) := U6.out.storeO 7 (.int .i64 ss)
  have fU8 := U7.out.fzO 8
  have qU8 := fun i => U7.out.cellO i
  have U8 : Hid (Sd w (((((((((w9.setCell ⟨w.heap.size, 0, none⟩ (.int .i64 2)).setCell ⟨w.heap.size, 1, none⟩ (.int .i64 0)).setCell ⟨w.heap.size, 2, none⟩ (.int .i64 0)).setCell ⟨w.heap.size, 3, none⟩ (.int .i64 0)).setCell ⟨w.heap.size, 4, none⟩ (.slice none 0 0)).setCell ⟨w.heap.size, 5, none⟩ (.int .i64 p)).setCell ⟨w.heap.size, 6, none⟩ (.int .i64 st2)).setCell ⟨w.heap.size, 7, none⟩ (.int .i64 ss)).setCell ⟨w.heap.size, 8, none⟩ (.int .i64 sq)) rb #[.slice (some ⟨b, off, none⟩) n c, .int .i64 a4, .int .i64 0] 105 w.heap.size #[.int .i64 2, .int .i64 0, .int .i64 0, .int .i64 0, .slice none 0 0, .int .i64 p, .int .i64 st2, .int .i64 ss, .int .i64 sq] sb #[.int .i64 2, .int .i64 0, .int .i64 0, .int .i64 0, .slice none 0 0, .int .i64 p, .int .i64 st2, .int .i64 ss, .int .i64 sq] 28) := U7.out.storeO 8 (.int .i64 sq)
  have qz := fun i => U8.out.cellO i
  go_wp2_with fail
  exact bodyPost_ret (v := .tuple #[.agg #[.int .i64 2, .int .i64 0, .int .i64 0, .int .i64 0, .slice none 0 0, .int .i64 p, .int .i64 st2, .int .i64 ss, .int .i64 sq], .int .i64 0]) (by simp [results, Try.results25, go_sem, qz]) rfl ⟨rfl, U8.out.b⟩

set_option maxRecDepth 100000 in
set_option maxHeartbeats 8000000 in
theorem rdec_slot_tail (ao : Option Addr) (n c : Nat) (w : World) (bs : List Int) (hr : Rd w ao n c bs) (h0 : n ≠ 0) (h1 : n ≤ 300) (hnc : n ≤ c) (hk : bs.getD 0 0 = 2) (p st2 ss sq : Int) (a1 a2 a3 a4 : Nat) (h2 : Hid (cnt bs 1 1 4611686018427387904 = .ok (p, a1))) (h3 : Hid (cnt bs a1 0 (p - 1) = .ok (st2, a2))) (h4 : Hid (cnt bs a2 0 15 = .ok (ss, a3))) (h5 : Hid (cnt bs a3 1 4611686018427387904 = .ok (sq, a4))) (hend : a4 ≠ n) :
    Calls Try.prog 25 #[.slice ao n c] w fun e w' => e = .returned (.tuple #[.agg #[.int .i64 0, .int .i64 0, .int .i64 0, .int .i64 0, .slice none 0 0, .int .i64 0, .int .i64 0, .int .i64 0, .int .i64 0], .int .i64 15]) ∧ Below w.heap.size w w' := by
  have hwp : wrap64 (p - 1) = p - 1 := by have := cnt_ok h2.out; exact w64 _ (by omega)
  obtain ⟨b, off, rfl, hc⟩ := rd_cell0 hr h0
  have HR : Hid (Rd w (some ⟨b, off, none⟩) n c bs) := hr
  have hpos : 0 < n := by omega
  rw [hk] at hc
  have hw1' : wrap64 2 = 2 := w64 _ (by omega)
  have h1' : ¬ (300 : Int) < (n : Int) := by omega
  have h0' : ¬ (n : Int) = 0 := by omega
  have hbl : b < w.heap.size := World.block_lt_of_cell? w _ hc
  clear hr hk
  go_enter Try.func25, Try.ntmps25
  go_wp2_with fail
  have S0 : Hid (Sd w (((w.alloc (.cells #[.int .i64 0, .int .i64 0, .int .i64 0, .int .i64 0, .slice none 0 0, .int .i64 0, .int .i64 0, .int .i64 0, .int .i64 0] 28)).alloc (.cells #[.slice (some ⟨b, off, none⟩) n c, .int .i64 1, .int .i64 0] 105)).alloc (.cells #[.int .i64 2, .int .i64 0, .int .i64 0, .int .i64 0, .slice none 0 0, .int .i64 0, .int .i64 0, .int .i64 0, .int .i64 0] 28)) (w.heap.size + 1) #[.slice (some ⟨b, off, none⟩) n c, .int .i64 1, .int .i64 0] 105 w.heap.size #[.int .i64 0, .int .i64 0, .int .i64 0, .int .i64 0, .slice none 0 0, .int .i64 0, .int .i64 0, .int .i64 0, .int .i64 0] (w.heap.size + 1 + 1) #[.int .i64 2, .int .i64 0, .int .i64 0, .int .i64 0, .slice none 0 0, .int .i64 0, .int .i64 0, .int .i64 0, .int .i64 0] 28) := Sd.new w _ _ _ _ _
  generalize ((w.alloc (.cells #[.int .i64 0, .int .i64 0, .int .i64 0, .int .i64 0, .slice none 0 0, .int .i64 0, .int .i64 0, .int .i64 0, .int .i64 0] 28)).alloc (.cells #[.slice (some ⟨b, off, none⟩) n c, .int .i64 1, .int .i64 0] 105)).alloc (.cells #[.int .i64 2, .int .i64 0, .int .i64 0, .int .i64 0, .slice none 0 0, .int .i64 0, .int .i64 0, .int .i64 0, .int .i64 0] 28) = W0 at *
  have g3 : w.heap.size ≤ w.heap.size + 1 := by omega
  generalize w.heap.size + 1 + 1 = sb at *
  generalize w.heap.size + 1 = rb at *
  refine (rnum_ok rb n c (some ⟨b, off, none⟩) bs 1 a1 1 4611686018427387904 p W0 S0.out.r (HR.out.below S0.out.b) (by omega) h2.out).mono ?_
  rintro e w1 ⟨rfl, hb1, hk1⟩
  have T0 : Hid (Sd w w1 rb #[.slice (some ⟨b, off, none⟩) n c, .int .i64 a1, .int .i64 0] 105 w.heap.size #[.int .i64 0, .int .i64 0, .int .i64 0, .int .i64 0, .slice none 0 0, .int .i64 0, .int .i64 0, .int .i64 0, .int .i64 0] sb #[.int .i64 2, .int .i64 0, .int .i64 0, .int .i64 0, .slice none 0 0, .int .i64 0, .int .i64 0, .int .i64 0, .int .i64 0] 28) := S0.out.call hb1 hk1
  clear hb1 hk1 S0
  have f0 := T0.out.fz 5
  have q0 := fun i => T0.out.cell i
  have S1 : Hid (Sd w (w1.setCell ⟨sb, 5, none⟩ (.int .i64 p)) rb #[.slice (some ⟨b, off, none⟩) n c, .int .i64 a1, .int .i64 0] 105 w.heap.size #[.int .i64 0, .int .i64 0, .int .i64 0, .int .i64 0, .slice none 0 0, .int .i64 0, .int .i64 0, .int .i64 0, .int .i64 0] sb #[.int .i64 2, .int .i64 0, .int .i64 0, .int .i64 0, .slice none 0 0, .int .i64 p, .int .i64 0, .int .i64 0, .int .i64 0] 28) := T0.out.store 5 (.int .i64 p)
  have p0 := fun i => S1.out.cell i
  go_wp2_with fail
  clear f0 q0 p0 T0
  generalize w1.setCell ⟨sb, 5, none⟩ (.int .i64 p) = W1 at *
  refine (rnum_ok rb n c (some ⟨b, off, none⟩) bs a1 a2 0 (p - 1) st2 W1 S1.out.r (HR.out.below S1.out.b) (by omega) h3.out).mono ?_
  rintro e w2 ⟨rfl, hb1, hk1⟩
  have T1 : Hid (Sd w w2 rb #[.slice (some ⟨b, off, none⟩) n c, .int .i64 a2, .int .i64 0] 105 w.heap.size #[.int .i64 0, .int .i64 0, .int .i64 0, .int .i64 0, .slice none 0 0, .int .i64 0, .int .i64 0, .int .i64 0, .int .i64 0] sb #[.int .i64 2, .int .i64 0, .int .i64 0, .int .i64 0, .slice none 0 0, .int .i64 p, .int .i64 0, .int .i64 0, .int .i64 0] 28) := S1.out.call hb1 hk1
  clear hb1 hk1 S1
  have f1 := T1.out.fz 6
  have q1 := fun i => T1.out.cell i
  have S2 : Hid (Sd w (w2.setCell ⟨sb, 6, none⟩ (.int .i64 st2)) rb #[.slice (some ⟨b, off, none⟩) n c, .int .i64 a2, .int .i64 0] 105 w.heap.size #[.int .i64 0, .int .i64 0, .int .i64 0, .int .i64 0, .slice none 0 0, .int .i64 0, .int .i64 0, .int .i64 0, .int .i64 0] sb #[.int .i64 2, .int .i64 0, .int .i64 0, .int .i64 0, .slice none 0 0, .int .i64 p, .int .i64 st2, .int .i64 0, .int .i64 0] 28) := T1.out.store 6 (.int .i64 st2)
  have p1 := fun i => S2.out.cell i
  go_wp2_with fail
  clear f1 q1 p1 T1
  generalize w2.setCell ⟨sb, 6, none⟩ (.int .i64 st2) = W2 at *
  refine (rnum_ok rb n c (some ⟨b, off, none⟩) bs a2 a3 0 15 ss W2 S2.out.r (HR.out.below S2.out.b) (by omega) h4.out).mono ?_
  rintro e w3 ⟨rfl, hb1, hk1⟩
  have T2 : Hid (Sd w w3 rb #[.slice (some ⟨b, off, none⟩) n c, .int .i64 a3, .int .i64 0] 105 w.heap.size #[.int .i64 0, .int .i64 0, .int .i64 0, .int .i64 0, .slice none 0 0, .int .i64 0, .int .i64 0, .int .i64 0, .int .i64 0] sb #[.int .i64 2, .int .i64 0, .int .i64 0, .int .i64 0, .slice none 0 0, .int .i64 p, .int .i64 st2, .int .i64 0, .int .i64 0] 28) := S2.out.call hb1 hk1
  clear hb1 hk1 S2
  have f2 := T2.out.fz 7
  have q2 := fun i => T2.out.cell i
  have S3 : Hid (Sd w (w3.setCell ⟨sb, 7, none⟩ (.int .i64 ss)) rb #[.slice (some ⟨b, off, none⟩) n c, .int .i64 a3, .int .i64 0] 105 w.heap.size #[.int .i64 0, .int .i64 0, .int .i64 0, .int .i64 0, .slice none 0 0, .int .i64 0, .int .i64 0, .int .i64 0, .int .i64 0] sb #[.int .i64 2, .int .i64 0, .int .i64 0, .int .i64 0, .slice none 0 0, .int .i64 p, .int .i64 st2, .int .i64 ss, .int .i64 0] 28) := T2.out.store 7 (.int .i64 ss)
  have p2 := fun i => S3.out.cell i
  go_wp2_with fail
  clear f2 q2 p2 T2
  generalize w3.setCell ⟨sb, 7, none⟩ (.int .i64 ss) = W3 at *
  refine (rnum_ok rb n c (some ⟨b, off, none⟩) bs a3 a4 1 4611686018427387904 sq W3 S3.out.r (HR.out.below S3.out.b) (by omega) h5.out).mono ?_
  rintro e w4 ⟨rfl, hb1, hk1⟩
  have T3 : Hid (Sd w w4 rb #[.slice (some ⟨b, off, none⟩) n c, .int .i64 a4, .int .i64 0] 105 w.heap.size #[.int .i64 0, .int .i64 0, .int .i64 0, .int .i64 0, .slice none 0 0, .int .i64 0, .int .i64 0, .int .i64 0, .int .i64 0] sb #[.int .i64 2, .int .i64 0, .int .i64 0, .int .i64 0, .slice none 0 0, .int .i64 p, .int .i64 st2, .int .i64 ss, .int .i64 0] 28) := S3.out.call hb1 hk1
  clear hb1 hk1 S3
  have f3 := T3.out.fz 8
  have q3 := fun i => T3.out.cell i
  have S4 : Hid (Sd w (w4.setCell ⟨sb, 8, none⟩ (.int .i64 sq)) rb #[.slice (some ⟨b, off, none⟩) n c, .int .i64 a4, .int .i64 0] 105 w.heap.size #[.int .i64 0, .int .i64 0, .int .i64 0, .int .i64 0, .slice none 0 0, .int .i64 0, .int .i64 0, .int .i64 0, .int .i64 0] sb #[.int .i64 2, .int .i64 0, .int .i64 0, .int .i64 0, .slice none 0 0, .int .i64 p, .int .i64 st2, .int .i64 ss, .int .i64 sq] 28) := T3.out.store 8 (.int .i64 sq)
  have p3 := fun i => S4.out.cell i
  go_wp2_with fail
  clear f3 q3 p3 T3
  generalize w4.setCell ⟨sb, 8, none⟩ (.int .i64 sq) = W4 at *
  refine (rend_tail rb n c (some ⟨b, off, none⟩) a4 W4 S4.out.r hend).mono ?_
  rintro e w9 ⟨rfl, ⟨ax, hb1⟩, hk1⟩
  have T9 : Hid (Sd w w9 rb #[.slice (some ⟨b, off, none⟩) n c, .int .i64 ax, .int .i64 15] 105 w.heap.size #[.int .i64 0, .int .i64 0, .int .i64 0, .int .i64 0, .slice none 0 0, .int .i64 0, .int .i64 0, .int .i64 0, .int .i64 0] sb #[.int .i64 2, .int .i64 0, .int .i64 0, .int .i64 0, .slice none 0 0, .int .i64 p, .int .i64 st2, .int .i64 ss, .int .i64 sq] 28) := S4.out.call hb1 hk1
  clear hb1 hk1 S4
  have cr := fun i => T9.out.cellR i
  have qz := fun i => T9.out.cellO i
  have fz := fun i => T9.out.fzO i
  have e0 : w9.setCell ⟨w.heap.size, 0, none⟩ (.int .i64 0) = w9 := setCell_self w9 w.heap.size 0 #[.int .i64 0, .int .i64 0, .int .i64 0, .int .i64 0, .slice none 0 0, .int .i64 0, .int .i64 0, .int .i64 0, .int .i64 0] 28 _ T9.out.o rfl
  have e1 : w9.setCell ⟨w.heap.size, 1, none⟩ (.int .i64 0) = w9 := setCell_self w9 w.heap.size 1 #[.int .i64 0, .int .i64 0, .int .i64 0, .int .i64 0, .slice none 0 0, .int .i64 0, .int .i64 0, .int .i64 0, .int .i64 0] 28 _ T9.out.o rfl
  have e2 : w9.setCell ⟨w.heap.size, 2, none⟩ (.int .i64 0) = w9 := setCell_self w9 w.heap.size 2 #[.int .i64 0, .int .i64 0, .int .i64 0, .int .i64 0, .slice none 0 0, .int .i64 0, .int .i64 0, .int .i64 0, .int .i64 0] 28 _ T9.out.o rfl
  have e3 : w9.setCell ⟨w.heap.size, 3, none⟩ (.int .i64 0) = w9 := setCell_self w9 w.heap.size 3 #[.int .i64 0, .int .i64 0, .int .i64 0, .int .i64 0, .slice none 0 0, .int .i64 0, .int .i64 0, .int .i64 0, .int .i64 0] 28 _ T9.out.o rfl
  have e4 : w9.setCell ⟨w.heap.size, 4, none⟩ (.slice none 0 0) = w9 := setCell_self w9 w.heap.size 4 #[.int .i64 0, .int .i64 0, .int .i64 0, .int .i64 0, .slice none 0 0, .int .i64 0, .int .i64 0, .int .i64 0, .int .i64 0] 28 _ T9.out.o rfl
  have e5 : w9.setCell ⟨w.heap.size, 5, none⟩ (.int .i64 0) = w9 := setCell_self w9 w.heap.size 5 #[.int .i64 0, .int .i64 0, .int .i64 0, .int .i64 0, .slice none 0 0, .int .i64 0, .int .i64 0, .int .i64 0, .int .i64 0] 28 _ T9.out.o rfl
  have e6 : w9.setCell ⟨w.heap.size, 6, none⟩ (.int .i64 0) = w9 := setCell_self w9 w.heap.size 6 #[.int .i64 0, .int .i64 0, .int .i64 0, .int .i64 0, .slice none 0 0, .int .i64 0, .int .i64 0, .int .i64 0, .int .i64 0] 28 _ T9.out.o rfl
  have e7 : w9.setCell ⟨w.heap.size, 7, none⟩ (.int .i64 0) = w9 := setCell_self w9 w.heap.size 7 #[.int .i64 0, .int .i64 0, .int .i64 0, .int .i64 0, .slice none 0 0, .int .i64 0, .int .i64 0, .int .i64 0, .int .i64 0] 28 _ T9.out.o rfl
  have e8 : w9.setCell ⟨w.heap.size, 8, none⟩ (.int .i64 0) = w9 := setCell_self w9 w.heap.size 8 #[.int .i64 0, .int .i64 0, .int .i64 0, .int .i64 0, .slice none 0 0, .int .i64 0, .int .i64 0, .int .i64 0, .int .i64 0] 28 _ T9.out.o rfl
  have c2 : w9.cell? ⟨rb, 2, none⟩ = some (.int .i64 15) := T9.out.cellR 2
  clear cr
  go_wp2_with fail
  go_region_held3 (fun w' => w'.cell? ⟨rb, 2, none⟩ = some (.int .i64 15)) (go_keep) (fail)
  go_wp2_with fail
  exact bodyPost_ret (v := .tuple #[.agg #[.int .i64 0, .int .i64 0, .int .i64 0, .int .i64 0, .slice none 0 0, .int .i64 0, .int .i64 0, .int .i64 0, .int .i64 0], .int .i64 15]) (by simp [results, Try.results25, go_sem, qz]) rfl ⟨rfl, T9.out.b.drew⟩

end Go.Proofs.Ytbjpbcanmpimnab.Lo
