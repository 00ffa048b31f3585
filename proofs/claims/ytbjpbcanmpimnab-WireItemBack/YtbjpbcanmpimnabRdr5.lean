import Derived.Test.YtbjpbcanmpimnabRdr4
namespace Go.Proofs.Ytbjpbcanmpimnab.Lo
open Go.RowKit Bk
set_option linter.unusedVariables false

set_option maxRecDepth 100000 in
set_option maxHeartbeats 8000000 in
theorem witem_data (w0 : World) (rb n c : Nat) (ao : Option Addr) (bs : List Int) (a : Nat) (w : World) (hb : Rb w rb ao n c a) (hr0 : Rd w0 ao n c bs) (hw : Below w0.heap.size w0 w) (hrb : w0.heap.size ≤ rb) (hlen : n ≤ 300) (hnc : n ≤ c) (a' : Nat) (s q st : Int) (body : List Int) (h : Hid (decD bs a = .ok ((s, q, st, body), a'))) :
    Calls Try.prog 36 #[.pointer (some ⟨rb, 0, none⟩), .int .i64 1] w fun e w' => ∃ ab cb, e = .returned (.agg #[.int .i64 1, .int .i64 s, .int .i64 q, .int .i64 st, .slice ab body.length cb, .int .i64 0, .int .i64 0, .int .i64 0, .int .i64 0]) ∧ Own w' w.heap.size (.slice ab body.length cb) body ∧ Rb w' rb ao n c a' ∧ Kept w w' (fun j => j = rb) := by
  have H : Hid (Rb w rb ao n c a ∧ Rd w0 ao n c bs ∧ Below w0.heap.size w0 w) := ⟨hb, hr0, hw⟩
  clear hb hr0 hw
  go_enter Try.func36, Try.ntmps36
  go_wp2_with fail
  have S0 : Hid (St w ((w.alloc (.cells #[.int .i64 0, .int .i64 0, .int .i64 0, .int .i64 0, .slice none 0 0, .int .i64 0, .int .i64 0, .int .i64 0, .int .i64 0] 28)).alloc (.cells #[.int .i64 1, .int .i64 0, .int .i64 0, .int .i64 0, .slice none 0 0, .int .i64 0, .int .i64 0, .int .i64 0, .int .i64 0] 28)) rb #[.slice ao n c, .int .i64 a] 114 w.heap.size #[.int .i64 0, .int .i64 0, .int .i64 0, .int .i64 0, .slice none 0 0, .int .i64 0, .int .i64 0, .int .i64 0, .int .i64 0] (w.heap.size + 1) #[.int .i64 1, .int .i64 0, .int .i64 0, .int .i64 0, .slice none 0 0, .int .i64 0, .int .i64 0, .int .i64 0, .int .i64 0] 28) := St.two H.out.1
  generalize (w.alloc (.cells #[.int .i64 0, .int .i64 0, .int .i64 0, .int .i64 0, .slice none 0 0, .int .i64 0, .int .i64 0, .int .i64 0, .int .i64 0] 28)).alloc (.cells #[.int .i64 1, .int .i64 0, .int .i64 0, .int .i64 0, .slice none 0 0, .int .i64 0, .int .i64 0, .int .i64 0, .int .i64 0] 28) = W0 at *
  generalize w.heap.size + 1 = sb at *
  refine (wdata_ok w0 rb n c ao bs a W0 S0.out.r H.out.2.1 (S0.out.below H.out.2.2 hrb) hrb hlen hnc a' s q st body h.out).mono ?_
  rintro e w1 ⟨ab, cb, rfl, ho, hb1, hk1⟩
  have T0 : Hid (St w w1 rb #[.slice ao n c, .int .i64 a'] 114 w.heap.size #[.int .i64 0, .int .i64 0, .int .i64 0, .int .i64 0, .slice none 0 0, .int .i64 0, .int .i64 0, .int .i64 0, .int .i64 0] sb #[.int .i64 1, .int .i64 0, .int .i64 0, .int .i64 0, .slice none 0 0, .int .i64 0, .int .i64 0, .int .i64 0, .int .i64 0] 28) := S0.out.call hb1 hk1
  have HO : Hid (Own w1 W0.heap.size (.slice ab body.length cb) body) := ho
  have hz := S0.out.k.size
  have hso := lt_heap S0.out.o
  have hss := lt_heap S0.out.s
  clear hb1 hk1 ho S0
  have fV0 := T0.out.fz 1
  have qV0 := fun i => T0.out.cell i
  have V0 : Hid (St w (w1.setCell ⟨sb, 1, none⟩ (.int .i64 s)) rb #[.slice ao n c, .int .i64 a'] 114 w.heap.size #[.int .i64 0, .int .i64 0, .int .i64 0, .int .i64 0, .slice none 0 0, .int .i64 0, .int .i64 0, .int .i64 0, .int .i64 0] sb #[.int .i64 1, .int .i64 s, .int .i64 0, .int .i64 0, .slice none 0 0, .int .i64 0, .int .i64 0, .int .i64 0, .int .i64 0] 28) := T0.out.store 1 (.int .i64 s)
  have fV1 := V0.out.fz 2
  have qV1 := fun i => V0.out.cell i
  have V1 : Hid (St w ((w1.setCell ⟨sb, 1, none⟩ (.int .i64 s)).setCell ⟨sb, 2, none⟩ (.int .i64 q)) rb #[.slice ao n c, .int .i64 a'] 114 w.heap.size #[.int .i64 0, .int .i64 0, .int .i64 0, .int .i64 0, .slice none 0 0, .int .i64 0, .int .i64 0, .int .i64 0, .int .i64 0] sb #[.int .i64 1, .int .i64 s, .int .i64 q, .int .i64 0, .slice none 0 0, .int .i64 0, .int .i64 0, .int .i64 0, .int .i64 0] 28) := V0.out.store 2 (.int .i64 q)
  have fV2 := V1.out.fz 3
  have qV2 := fun i => V1.out.cell i
  have V2 : Hid (St w (((w1.setCell ⟨sb, 1, none⟩ (.int .i64 s)).setCell ⟨sb, 2, none⟩ (.int .i64 q)).setCell ⟨sb, 3, none⟩ (.int .i64 st)) rb #[.slice ao n c, .int .i64 a'] 114 w.heap.size #[.int .i64 0, .int .i64 0, .int .i64 0, .int .i64 0, .slice none 0 0, .int .i64 0, .int .i64 0, .int .i64 0, .int .i64 0] sb #[.int .i64 1, .int .i64 s, .int .i64 q, .int .i64 st, .slice none 0 0, .int .i64 0, .int .i64 0, .int .i64 0, .int .i64 0] 28) := V1.out.store 3 (.int .i64 st)
  have fV3 := V2.out.fz 4
  have qV3 := fun i => V2.out.cell i
  have V3 : Hid (St w ((((w1.setCell ⟨sb, 1, none⟩ (.int .i64 s)).setCell ⟨sb, 2, none⟩ (.int .i64 q)).setCell ⟨sb, 3, none⟩ (.int .i64 st)).setCell ⟨sb, 4, none⟩ (.slice ab body.length cb)) rb #[.slice ao n c, .int .i64 a'] 114 w.heap.size #[.int .i64 0, .int .i64 0, .int .i64 0, .int .i64 0, .slice none 0 0, .int .i64 0, .int .i64 0, .int .i64 0, .int .i64 0] sb #[.int .i64 1, .int .i64 s, .int .i64 q, .int .i64 st, .slice ab body.length cb, .int .i64 0, .int .i64 0, .int .i64 0, .int .i64 0] 28) := V2.out.store 4 (.slice ab body.length cb)
  have pz := fun i => V3.out.cell i
  have fU0 := V3.out.fzO 0
  have qU0 := fun i => V3.out.cellO i
  have U0 : Hid (St w (((((w1.setCell ⟨sb, 1, none⟩ (.int .i64 s)).setCell ⟨sb, 2, none⟩ (.int .i64 q)).setCell ⟨sb, 3, none⟩ (.int .i64 st)).setCell ⟨sb, 4, none⟩ (.slice ab body.length cb)).setCell ⟨w.heap.size, 0, none⟩ (.int .i64 1)) rb #[.slice ao n c, .int .i64 a'] 114 w.heap.size #[.int .i64 1, .int .i64 0, .int .i64 0, .int .i64 0, .slice none 0 0, .int .i64 0, .int .i64 0, .int .i64 0, .int .i64 0] sb #[.int .i64 1, .int .i64 s, .int .i64 q, .int .i64 st, .slice ab body.length cb, .int .i64 0, .int .i64 0, .int .i64 0, .int .i64 0] 28) := V3.out.storeO 0 (.int .i64 1)
  have fU1 := U0.out.fzO 1
  have qU1 := fun i => U0.out.cellO i
  have U1 : Hid (St w ((((((w1.setCell ⟨sb, 1, none⟩ (.int .i64 s)).setCell ⟨sb, 2, none⟩ (.int .i64 q)).setCell ⟨sb, 3, none⟩ (.int .i64 st)).setCell ⟨sb, 4, none⟩ (.slice ab body.length cb)).setCell ⟨w.heap.size, 0, none⟩ (.int .i64 1)).setCell ⟨w.heap.size, 1, none⟩ (.int .i64 s)) rb #[.slice ao n c, .int .i64 a'] 114 w.heap.size #[.int .i64 1, .int .i64 s, .int .i64 0, .int .i64 0, .slice none 0 0, .int .i64 0, .int .i64 0, .int .i64 0, .int .i64 0] sb #[.int .i64 1, .int .i64 s, .int .i64 q, .int .i64 st, .slice ab body.length cb, .int .i64 0, .int .i64 0, .int .i64 0, .int .i64 0] 28) := U0.out.storeO 1 (.int .i64 s)
  have fU2 := U1.out.fzO 2
  have qU2 := fun i => U1.out.cellO i
  have U2 : Hid (St w (((((((w1.setCell ⟨sb, 1, none⟩ (.int .i64 s)).setCell ⟨sb, 2, none⟩ (.int .i64 q)).setCell ⟨sb, 3, none⟩ (.int .i64 st)).setCell ⟨sb, 4, none⟩ (.slice ab body.length cb)).setCell ⟨w.heap.size, 0, none⟩ (.int .i64 1)).setCell ⟨w.heap.size, 1, none⟩ (.int .i64 s)).setCell ⟨w.heap.size, 2, none⟩ (.int .i64 q)) rb #[.slice ao n c, .int .i64 a'] 114 w.heap.size #[.int .i64 1, .int .i64 s, .int .i64 q, .int .i64 0, .slice none 0 0, .int .i64 0, .int .i64 0, .int .i64 0, .int .i64 0] sb #[.int .i64 1, .int .i64 s, .int .i64 q, .int .i64 st, .slice ab body.length cb, .int .i64 0, .int .i64 0, .int .i64 0, .int .i64 0] 28) := U1.out.storeO 2 (.int .i64 q)
  have fU3 := U2.out.fzO 3
  have qU3 := fun i => U2.out.cellO i
  have U3 : Hid (St w ((((((((w1.setCell ⟨sb, 1, none⟩ (.int .i64 s)).setCell ⟨sb, 2, none⟩ (.int .i64 q)).setCell ⟨sb, 3, none⟩ (.int .i64 st)).setCell ⟨sb, 4, none⟩ (.slice ab body.length cb)).setCell ⟨w.heap.size, 0, none⟩ (.int .i64 1)).setCell ⟨w.heap.size, 1, none⟩ (.int .i64 s)).setCell ⟨w.heap.size, 2, none⟩ (.int .i64 q)).setCell ⟨w.heap.size, 3, none⟩ (.int .i64 st)) rb #[.slice ao n c, .int .i64 a'] 114 w.heap.size #[.int .i64 1, .int .i64 s, .int .i64 q, .int .i64 st, .slice none 0 0, .int .i64 0, .int .i64 0, .int .i64 0, .int .i64 0] sb #[.int .i64 1, .int .i64 s, .int .i64 q, .int .i64 st, .slice ab body.length cb, .int .i64 0, .int .i64 0, .int .i64 0, .int .i64 0] 28) := U2.out.storeO 3 (.int .i64 st)
  have fU4 := U3.out.fzO 4
  have qU4 := fun i => U3.out.cellO i
  have U4 : Hid (St w (((((((((w1.setCell ⟨sb, 1, none⟩ (.int .i64 s)).setCell ⟨sb, 2, none⟩ (.int .i64 q)).setCell ⟨sb, 3, none⟩ (.int .i64 st)).setCell ⟨sb, 4, none⟩ (.slice ab body.length cb)).setCell ⟨w.heap.size, 0, none⟩ (.int .i64 1)).setCell ⟨w.heap.size, 1, none⟩ (.int .i64 s)).setCell ⟨w.heap.size, 2, none⟩ (.int .i64 q)).setCell ⟨w.heap.size, 3, none⟩ (.int .i64 st)).setCell ⟨w.heap.size, 4, none⟩ (.slice ab body.length cb)) rb #[.slice ao n c, .int .i64 a'] 114 w.heap.size #[.int .i64 1, .int .i64 s, .int .i64 q, .int .i64 st, .slice ab body.length cb, .int .i64 0, .int .i64 0, .int .i64 0, .int .i64 0] sb #[.int .i64 1, .int .i64 s, .int .i64 q, .int .i64 st, .slice ab body.length cb, .int .i64 0, .int .i64 0, .int .i64 0, .int .i64 0] 28) := U3.out.storeO 4 (.slice ab body.length cb)
  have fU5 := U4.out.fzO 5
  have qU5 := fun i => U4.out.cellO i
  have U5 : Hid (St w ((((((((((w1.setCell ⟨sb, 1, none⟩ (.int .i64 s)).setCell ⟨sb, 2, none⟩ (.int .i64 q)).setCell ⟨sb, 3, none⟩ (.int .i64 st)).setCell ⟨sb, 4, none⟩ (.slice ab body.length cb)).setCell ⟨w.heap.size, 0, none⟩ (.int .i64 1)).setCell ⟨w.heap.size, 1, none⟩ (.int .i64 s)).setCell ⟨w.heap.size, 2, none⟩ (.int .i64 q)).setCell ⟨w.heap.size, 3, none⟩ (.int .i64 st)).setCell ⟨w.heap.size, 4, none⟩ (.slice ab body.length cb)).setCell ⟨w.heap.size, 5, none⟩ (.int .i64 0)) rb #[.slice ao n c, .int .i64 a'] 114 w.heap.size #[.int .i64 1, .int .i64 s, .int .i64 q, .int .i64 st, .slice ab body.length cb, .int .i64 0, .int .i64 0, .int .i64 0, .int .i64 0] sb #[.int .i64 1, .int .i64 s, .int .i64 q, .int .i64 st, .slice ab body.length cb, .int .i64 0, .int .i64 0, .int .i64 0, .int .i64 0] 28) := U4.out.storeO 5 (.int .i64 0)
  have fU6 := U5.out.fzO 6
  have qU6 := fun i => U5.out.cellO i
  have U6 : Hid (St w (((((((((((w1.setCell ⟨sb, 1, none⟩ (.int .i64 s)).setCell ⟨sb, 2, none⟩ (.int .i64 q)).setCell ⟨sb, 3, none⟩ (.int .i64 st)).setCell ⟨sb, 4, none⟩ (.slice ab body.length cb)).setCell ⟨w.heap.size, 0, none⟩ (.int .i64 1)).setCell ⟨w.heap.size, 1, none⟩ (.int .i64 s)).setCell ⟨w.heap.size, 2, none⟩ (.int .i64 q)).setCell ⟨w.heap.size, 3, none⟩ (.int .i64 st)).setCell ⟨w.heap.size, 4, none⟩ (.slice ab body.length cb)).setCell ⟨w.heap.size, 5, none⟩ (.int .i64 0)).setCell ⟨w.heap.size, 6, none⟩ (.int .i64 0)) rb #[.slice ao n c, .int .i64 a'] 114 w.heap.size #[.int .i64 1, .int .i64 s, .int .i64 q, .int .i64 st, .slice ab body.length cb, .int .i64 0, .int .i64 0, .int .i64 0, .int .i64 0] sb #[.int .i64 1, .int .i64 s, .int .i64 q, .int .i64 st, .slice ab body.length cb, .int .i64 0, .int .i64 0, .int .i64 0, .int .i64 0] 28) := U5.out.storeO 6 (.int .i64 0)
  have fU7 := U6.out.fzO 7
  have qU7 := fun i => U6.out.cellO i
  have U7 : Hid (St w ((((((((((((w1.setCell ⟨sb, 1, none⟩ (.int .i64 s)).setCell ⟨sb, 2, none⟩ (.int .i64 q)).setCell ⟨sb, 3, none⟩ (.int .i64 st)).setCell ⟨sb, 4, none⟩ (.slice ab body.length cb)).setCell ⟨w.heap.size, 0, none⟩ (.int .i64 1)).setCell ⟨w.heap.size, 1, none⟩ (.int .i64 s)).setCell ⟨w.heap.size, 2, none⟩ (.int .i64 q)).setCell ⟨w.heap.size, 3, none⟩ (.int .i64 st)).setCell ⟨w.heap.size, 4, none⟩ (.slice ab body.length cb)).setCell ⟨w.heap.size, 5, none⟩ (.int .i64 0)).setCell ⟨w.heap.size, 6, none⟩ (.int .i64 0)).setCell ⟨w.heap.size, 7, none⟩ (.int .i64 0)) rb #[.slice ao n c, .int .i64 a'] 114 w.heap.size #[.int .i64 1, .int .i64 s, .int .i64 q, .int .i64 st, .slice ab body.length cb, .int .i64 0, .int .i64 0, .int .i64 0, .int .i64 0] sb #[.int .i64 1, .int .i64 s, .int .i64 q, .int .i64 st, .slice ab body.length cb, .int .i64 0, .int .i64 0, .int .i64 0, .int .i64 0] 28) := U6.out.storeO 7 (.int .i64 0)
  have fU8 := U7.out.fzO 8
  have qU8 := fun i => U7.out.cellO i
  have U8 : Hid (St w (((((((((((((w1.setCell ⟨sb, 1, none⟩ (.int .i64 s)).setCell ⟨sb, 2, none⟩ (.int .i64 q)).setCell ⟨sb, 3, none⟩ (.int .i64 st)).setCell ⟨sb, 4, none⟩ (.slice ab body.length cb)).setCell ⟨w.heap.size, 0, none⟩ (.int .i64 1)).setCell ⟨w.heap.size, 1, none⟩ (.int .i64 s)).setCell ⟨w.heap.size, 2, none⟩ (.int .i64 q)).setCell ⟨w.heap.size, 3, none⟩ (.int .i64 st)).setCell ⟨w.heap.size, 4, none⟩ (.slice ab body.length cb)).setCell ⟨w.heap.size, 5, none⟩ (.int .i64 0)).setCell ⟨w.heap.size, 6, none⟩ (.int .i64 0)).setCell ⟨w.heap.size, 7, none⟩ (.int .i64 0)).setCell ⟨w.heap.size, 8, none⟩ (.int .i64 0)) rb #[.slice ao n c, .int .i64 a'] 114 w.heap.size #[.int .i64 1, .int .i64 s, .int .i64 q, .int .i64 st, .slice ab body.length cb, .int .i64 0, .int .i64 0, .int .i64 0, .int .i64 0] sb #[.int .i64 1, .int .i64 s, .int .i64 q, .int .i64 st, .slice ab body.length cb, .int .i64 0, .int .i64 0, .int .i64 0, .int .i64 0] 28) := U7.out.storeO 8 (.int .i64 0)
  have qz := fun i => U8.out.cellO i
  have HOF : Hid (Own (((((((((((((w1.setCell ⟨sb, 1, none⟩ (.int .i64 s)).setCell ⟨sb, 2, none⟩ (.int .i64 q)).setCell ⟨sb, 3, none⟩ (.int .i64 st)).setCell ⟨sb, 4, none⟩ (.slice ab body.length cb)).setCell ⟨w.heap.size, 0, none⟩ (.int .i64 1)).setCell ⟨w.heap.size, 1, none⟩ (.int .i64 s)).setCell ⟨w.heap.size, 2, none⟩ (.int .i64 q)).setCell ⟨w.heap.size, 3, none⟩ (.int .i64 st)).setCell ⟨w.heap.size, 4, none⟩ (.slice ab body.length cb)).setCell ⟨w.heap.size, 5, none⟩ (.int .i64 0)).setCell ⟨w.heap.size, 6, none⟩ (.int .i64 0)).setCell ⟨w.heap.size, 7, none⟩ (.int .i64 0)).setCell ⟨w.heap.size, 8, none⟩ (.int .i64 0)) w.heap.size (.slice ab body.length cb) body) := by
    refine Own.mono (own_set (own_set (own_set (own_set (own_set (own_set (own_set (own_set (own_set (own_set (own_set (own_set (own_set HO.out ?_ _ _) ?_ _ _) ?_ _ _) ?_ _ _) ?_ _ _) ?_ _ _) ?_ _ _) ?_ _ _) ?_ _ _) ?_ _ _) ?_ _ _) ?_ _ _) ?_ _ _) hz <;> omega
  clear HO
  go_wp2_with fail
  exact bodyPost_ret (v := .agg #[.int .i64 1, .int .i64 s, .int .i64 q, .int .i64 st, .slice ab body.length cb, .int .i64 0, .int .i64 0, .int .i64 0, .int .i64 0]) (by simp [results, Try.results36, go_sem, qz]) rfl ⟨ab, cb, rfl, HOF.out, U8.out.r, U8.out.k⟩

set_option maxRecDepth 100000 in
set_option maxHeartbeats 8000000 in
theorem witem_data_err (w0 : World) (rb n c : Nat) (ao : Option Addr) (bs : List Int) (a : Nat) (w : World) (hb : Rb w rb ao n c a) (hr0 : Rd w0 ao n c bs) (hw : Below w0.heap.size w0 w) (hrb : w0.heap.size ≤ rb) (hlen : n ≤ 300) (hnc : n ≤ c) (x : Int) (h : Hid (decD bs a = .error x)) :
    Calls Try.prog 36 #[.pointer (some ⟨rb, 0, none⟩), .int .i64 1] w fun e w' => e = boom x ∧ Kept w w' (fun j => j = rb) := by
  have H : Hid (Rb w rb ao n c a ∧ Rd w0 ao n c bs ∧ Below w0.heap.size w0 w) := ⟨hb, hr0, hw⟩
  clear hb hr0 hw
  go_enter Try.func36, Try.ntmps36
  go_wp2_with fail
  have S0 : Hid (St w ((w.alloc (.cells #[.int .i64 0, .int .i64 0, .int .i64 0, .int .i64 0, .slice none 0 0, .int .i64 0, .int .i64 0, .int .i64 0, .int .i64 0] 28)).alloc (.cells #[.int .i64 1, .int .i64 0, .int .i64 0, .int .i64 0, .slice none 0 0, .int .i64 0, .int .i64 0, .int .i64 0, .int .i64 0] 28)) rb #[.slice ao n c, .int .i64 a] 114 w.heap.size #[.int .i64 0, .int .i64 0, .int .i64 0, .int .i64 0, .slice none 0 0, .int .i64 0, .int .i64 0, .int .i64 0, .int .i64 0] (w.heap.size + 1) #[.int .i64 1, .int .i64 0, .int .i64 0, .int .i64 0, .slice none 0 0, .int .i64 0, .int .i64 0, .int .i64 0, .int .i64 0] 28) := St.two H.out.1
  generalize (w.alloc (.cells #[.int .i64 0, .int .i64 0, .int .i64 0, .int .i64 0, .slice none 0 0, .int .i64 0, .int .i64 0, .int .i64 0, .int .i64 0] 28)).alloc (.cells #[.int .i64 1, .int .i64 0, .int .i64 0, .int .i64 0, .slice none 0 0, .int .i64 0, .int .i64 0, .int .i64 0, .int .i64 0] 28) = W0 at *
  generalize w.heap.size + 1 = sb at *
  refine (wdata_err w0 rb n c ao bs a W0 S0.out.r H.out.2.1 (S0.out.below H.out.2.2 hrb) hrb hlen hnc x h.out).mono ?_
  rintro e w1 ⟨rfl, hk1⟩
  have HF : Hid (Kept w w1 (fun j => j = rb)) := S0.out.k.trans hk1
  clear hk1 S0
  unfold boom
  go_wp2_with fail
  exact ⟨rfl, rfl, HF.out⟩

set_option maxRecDepth 100000 in
set_option maxHeartbeats 8000000 in
theorem witem_slot_err0 (w0 : World) (rb n c : Nat) (ao : Option Addr) (bs : List Int) (a : Nat) (w : World) (hb : Rb w rb ao n c a) (hr0 : Rd w0 ao n c bs) (hw : Below w0.heap.size w0 w) (hrb : w0.heap.size ≤ rb) (hlen : n ≤ 300) (hnc : n ≤ c) (x : Int) (h1 : Hid (cnt bs a 1 4611686018427387904 = .error x)) :
    Calls Try.prog 36 #[.pointer (some ⟨rb, 0, none⟩), .int .i64 2] w fun e w' => e = boom x ∧ Kept w w' (fun j => j = rb) := by
  have H : Hid (Rb w rb ao n c a ∧ Rd w0 ao n c bs ∧ Below w0.heap.size w0 w) := ⟨hb, hr0, hw⟩
  clear hb hr0 hw
  go_enter Try.func36, Try.ntmps36
  go_wp2_with fail
  have S0 : Hid (St w ((w.alloc (.cells #[.int .i64 0, .int .i64 0, .int .i64 0, .int .i64 0, .slice none 0 0, .int .i64 0, .int .i64 0, .int .i64 0, .int .i64 0] 28)).alloc (.cells #[.int .i64 2, .int .i64 0, .int .i64 0, .int .i64 0, .slice none 0 0, .int .i64 0, .int .i64 0, .int .i64 0, .int .i64 0] 28)) rb #[.slice ao n c, .int .i64 a] 114 w.heap.size #[.int .i64 0, .int .i64 0, .int .i64 0, .int .i64 0, .slice none 0 0, .int .i64 0, .int .i64 0, .int .i64 0, .int .i64 0] (w.heap.size + 1) #[.int .i64 2, .int .i64 0, .int .i64 0, .int .i64 0, .slice none 0 0, .int .i64 0, .int .i64 0, .int .i64 0, .int .i64 0] 28) := St.two H.out.1
  generalize (w.alloc (.cells #[.int .i64 0, .int .i64 0, .int .i64 0, .int .i64 0, .slice none 0 0, .int .i64 0, .int .i64 0, .int .i64 0, .int .i64 0] 28)).alloc (.cells #[.int .i64 2, .int .i64 0, .int .i64 0, .int .i64 0, .slice none 0 0, .int .i64 0, .int .i64 0, .int .i64 0, .int .i64 0] 28) = W0 at *
  generalize w.heap.size + 1 = sb at *
  refine (count_err rb n c ao bs a 1 4611686018427387904 x W0 S0.out.r (H.out.2.1.below (S0.out.below H.out.2.2 hrb)) (by omega) h1.out).mono ?_
  rintro e w1 ⟨rfl, hk1⟩
  have HF : Hid (Kept w w1 (fun j => j = rb)) := S0.out.k.trans hk1
  clear hk1 S0
  unfold boom
  go_wp2_with fail
  exact ⟨rfl, rfl, HF.out⟩

set_option maxRecDepth 100000 in
set_option maxHeartbeats 8000000 in
theorem witem_slot_err1 (w0 : World) (rb n c : Nat) (ao : Option Addr) (bs : List Int) (a : Nat) (w : World) (hb : Rb w rb ao n c a) (hr0 : Rd w0 ao n c bs) (hw : Below w0.heap.size w0 w) (hrb : w0.heap.size ≤ rb) (hlen : n ≤ 300) (hnc : n ≤ c) (x : Int) (p : Int) (a1 : Nat) (h1 : Hid (cnt bs a 1 4611686018427387904 = .ok (p, a1))) (h2 : Hid (cnt bs a1 0 (p - 1) = .error x)) :
    Calls Try.prog 36 #[.pointer (some ⟨rb, 0, none⟩), .int .i64 2] w fun e w' => e = boom x ∧ Kept w w' (fun j => j = rb) := by
  have H : Hid (Rb w rb ao n c a ∧ Rd w0 ao n c bs ∧ Below w0.heap.size w0 w) := ⟨hb, hr0, hw⟩
  clear hb hr0 hw
  have hwp : wrap64 (p - 1) = p - 1 := by have := cnt_ok h1.out; exact w64 _ (by omega)
  go_enter Try.func36, Try.ntmps36
  go_wp2_with fail
  have S0 : Hid (St w ((w.alloc (.cells #[.int .i64 0, .int .i64 0, .int .i64 0, .int .i64 0, .slice none 0 0, .int .i64 0, .int .i64 0, .int .i64 0, .int .i64 0] 28)).alloc (.cells #[.int .i64 2, .int .i64 0, .int .i64 0, .int .i64 0, .slice none 0 0, .int .i64 0, .int .i64 0, .int .i64 0, .int .i64 0] 28)) rb #[.slice ao n c, .int .i64 a] 114 w.heap.size #[.int .i64 0, .int .i64 0, .int .i64 0, .int .i64 0, .slice none 0 0, .int .i64 0, .int .i64 0, .int .i64 0, .int .i64 0] (w.heap.size + 1) #[.int .i64 2, .int .i64 0, .int .i64 0, .int .i64 0, .slice none 0 0, .int .i64 0, .int .i64 0, .int .i64 0, .int .i64 0] 28) := St.two H.out.1
  generalize (w.alloc (.cells #[.int .i64 0, .int .i64 0, .int .i64 0, .int .i64 0, .slice none 0 0, .int .i64 0, .int .i64 0, .int .i64 0, .int .i64 0] 28)).alloc (.cells #[.int .i64 2, .int .i64 0, .int .i64 0, .int .i64 0, .slice none 0 0, .int .i64 0, .int .i64 0, .int .i64 0, .int .i64 0] 28) = W0 at *
  generalize w.heap.size + 1 = sb at *
  refine (count_ok rb n c ao bs a a1 1 4611686018427387904 p W0 S0.out.r (H.out.2.1.below (S0.out.below H.out.2.2 hrb)) (by omega) h1.out).mono ?_
  rintro e w1 ⟨rfl, hb1, hk1⟩
  have T0 : Hid (St w w1 rb #[.slice ao n c, .int .i64 a1] 114 w.heap.size #[.int .i64 0, .int .i64 0, .int .i64 0, .int .i64 0, .slice none 0 0, .int .i64 0, .int .i64 0, .int .i64 0, .int .i64 0] sb #[.int .i64 2, .int .i64 0, .int .i64 0, .int .i64 0, .slice none 0 0, .int .i64 0, .int .i64 0, .int .i64 0, .int .i64 0] 28) := S0.out.call hb1 hk1
  have f0 := T0.out.fz 5
  have q0 := fun i => T0.out.cell i
  have S1 : Hid (St w (w1.setCell ⟨sb, 5, none⟩ (.int .i64 p)) rb #[.slice ao n c, .int .i64 a1] 114 w.heap.size #[.int .i64 0, .int .i64 0, .int .i64 0, .int .i64 0, .slice none 0 0, .int .i64 0, .int .i64 0, .int .i64 0, .int .i64 0] sb #[.int .i64 2, .int .i64 0, .int .i64 0, .int .i64 0, .slice none 0 0, .int .i64 p, .int .i64 0, .int .i64 0, .int .i64 0] 28) := T0.out.store 5 (.int .i64 p)
  have p0 := fun i => S1.out.cell i
  clear hb1 hk1 S0
  go_wp2_with fail
  clear f0 q0 p0 T0
  generalize w1.setCell ⟨sb, 5, none⟩ (.int .i64 p) = W1 at *
  refine (count_err rb n c ao bs a1 0 (p - 1) x W1 S1.out.r (H.out.2.1.below (S1.out.below H.out.2.2 hrb)) (by omega) h2.out).mono ?_
  rintro e w2 ⟨rfl, hk1⟩
  have HF : Hid (Kept w w2 (fun j => j = rb)) := S1.out.k.trans hk1
  clear hk1 S1
  unfold boom
  go_wp2_with fail
  exact ⟨rfl, rfl, HF.out⟩

set_option maxRecDepth 100000 in
set_option maxHeartbeats 8000000 in
theorem witem_slot_err2 (w0 : World) (rb n c : Nat) (ao : Option Addr) (bs : List Int) (a : Nat) (w : World) (hb : Rb w rb ao n c a) (hr0 : Rd w0 ao n c bs) (hw : Below w0.heap.size w0 w) (hrb : w0.heap.size ≤ rb) (hlen : n ≤ 300) (hnc : n ≤ c) (x : Int) (p st2 : Int) (a1 a2 : Nat) (h1 : Hid (cnt bs a 1 4611686018427387904 = .ok (p, a1))) (h2 : Hid (cnt bs a1 0 (p - 1) = .ok (st2, a2))) (h3 : cnt bs a2 0 15 = .error x ∨ ∃ (s : Int) (a1 : Nat), cnt bs a2 0 15 = .ok (s, a1) ∧ cnt bs a1 1 4611686018427387904 = .error x) :
    Calls Try.prog 36 #[.pointer (some ⟨rb, 0, none⟩), .int .i64 2] w fun e w' => e = boom x ∧ Kept w w' (fun j => j = rb) := by
  have H : Hid (Rb w rb ao n c a ∧ Rd w0 ao n c bs ∧ Below w0.heap.size w0 w) := ⟨hb, hr0, hw⟩
  clear hb hr0 hw
  have H3 : Hid (cnt bs a2 0 15 = .error x ∨ ∃ (s : Int) (a1 : Nat), cnt bs a2 0 15 = .ok (s, a1) ∧ cnt bs a1 1 4611686018427387904 = .error x) := h3
  clear h3
  have hwp : wrap64 (p - 1) = p - 1 := by have := cnt_ok h1.out; exact w64 _ (by omega)
  go_enter Try.func36, Try.ntmps36
  go_wp2_with fail
  have S0 : Hid (St w ((w.alloc (.cells #[.int .i64 0, .int .i64 0, .int .i64 0, .int .i64 0, .slice none 0 0, .int .i64 0, .int .i64 0, .int .i64 0, .int .i64 0] 28)).alloc (.cells #[.int .i64 2, .int .i64 0, .int .i64 0, .int .i64 0, .slice none 0 0, .int .i64 0, .int .i64 0, .int .i64 0, .int .i64 0] 28)) rb #[.slice ao n c, .int .i64 a] 114 w.heap.size #[.int .i64 0, .int .i64 0, .int .i64 0, .int .i64 0, .slice none 0 0, .int .i64 0, .int .i64 0, .int .i64 0, .int .i64 0] (w.heap.size + 1) #[.int .i64 2, .int .i64 0, .int .i64 0, .int .i64 0, .slice none 0 0, .int .i64 0, .int .i64 0, .int .i64 0, .int .i64 0] 28) := St.two H.out.1
  generalize (w.alloc (.cells #[.int .i64 0, .int .i64 0, .int .i64 0, .int .i64 0, .slice none 0 0, .int .i64 0, .int .i64 0, .int .i64 0, .int .i64 0] 28)).alloc (.cells #[.int .i64 2, .int .i64 0, .int .i64 0, .int .i64 0, .slice none 0 0, .int .i64 0, .int .i64 0, .int .i64 0, .int .i64 0] 28) = W0 at *
  generalize w.heap.size + 1 = sb at *
  refine (count_ok rb n c ao bs a a1 1 4611686018427387904 p W0 S0.out.r (H.out.2.1.below (S0.out.below H.out.2.2 hrb)) (by omega) h1.out).mono ?_
  rintro e w1 ⟨rfl, hb1, hk1⟩
  have T0 : Hid (St w w1 rb #[.slice ao n c, .int .i64 a1] 114 w.heap.size #[.int .i64 0, .int .i64 0, .int .i64 0, .int .i64 0, .slice none 0 0, .int .i64 0, .int .i64 0, .int .i64 0, .int .i64 0] sb #[.int .i64 2, .int .i64 0, .int .i64 0, .int .i64 0, .slice none 0 0, .int .i64 0, .int .i64 0, .int .i64 0, .int .i64 0] 28) := S0.out.call hb1 hk1
  have f0 := T0.out.fz 5
  have q0 := fun i => T0.out.cell i
  have S1 : Hid (St w (w1.setCell ⟨sb, 5, none⟩ (.int .i64 p)) rb #[.slice ao n c, .int .i64 a1] 114 w.heap.size #[.int .i64 0, .int .i64 0, .int .i64 0, .int .i64 0, .slice none 0 0, .int .i64 0, .int .i64 0, .int .i64 0, .int .i64 0] sb #[.int .i64 2, .int .i64 0, .int .i64 0, .int .i64 0, .slice none 0 0, .int .i64 p, .int .i64 0, .int .i64 0, .int .i64 0] 28) := T0.out.store 5 (.int .i64 p)
  have p0 := fun i => S1.out.cell i
  clear hb1 hk1 S0
  go_wp2_with fail
  clear f0 q0 p0 T0
  generalize w1.setCell ⟨sb, 5, none⟩ (.int .i64 p) = W1 at *
  refine (count_ok rb n c ao bs a1 a2 0 (p - 1) st2 W1 S1.out.r (H.out.2.1.below (S1.out.below H.out.2.2 hrb)) (by omega) h2.out).mono ?_
  rintro e w2 ⟨rfl, hb1, hk1⟩
  have T1 : Hid (St w w2 rb #[.slice ao n c, .int .i64 a2] 114 w.heap.size #[.int .i64 0, .int .i64 0, .int .i64 0, .int .i64 0, .slice none 0 0, .int .i64 0, .int .i64 0, .int .i64 0, .int .i64 0] sb #[.int .i64 2, .int .i64 0, .int .i64 0, .int .i64 0, .slice none 0 0, .int .i64 p, .int .i64 0, .int .i64 0, .int .i64 0] 28) := S1.out.call hb1 hk1
  have f1 := T1.out.fz 6
  have q1 := fun i => T1.out.cell i
  have S2 : Hid (St w (w2.setCell ⟨sb, 6, none⟩ (.int .i64 st2)) rb #[.slice ao n c, .int .i64 a2] 114 w.heap.size #[.int .i64 0, .int .i64 0, .int .i64 0, .int .i64 0, .slice none 0 0, .int .i64 0, .int .i64 0, .int .i64 0, .int .i64 0] sb #[.int .i64 2, .int .i64 0, .int .i64 0, .int .i64 0, .slice none 0 0, .int .i64 p, .int .i64 st2, .int .i64 0, .int .i64 0] 28) := T1.out.store 6 (.int .i64 st2)
  have p1 := fun i => S2.out.cell i
  clear hb1 hk1 S1
  go_wp2_with fail
  clear f1 q1 p1 T1
  generalize w2.setCell ⟨sb, 6, none⟩ (.int .i64 st2) = W2 at *
  refine (wslot_err w0 rb n c ao bs a2 x W2 S2.out.r H.out.2.1 (S2.out.below H.out.2.2 hrb) hrb hlen H3.out).mono ?_
  rintro e w3 ⟨rfl, hk1⟩
  have HF : Hid (Kept w w3 (fun j => j = rb)) := S2.out.k.trans hk1
  clear hk1 S2
  unfold boom
  go_wp2_with fail
  exact ⟨rfl, rfl, HF.out⟩

set_option maxRecDepth 100000 in
set_option maxHeartbeats 8000000 in
theorem witem_slot (w0 : World) (rb n c : Nat) (ao : Option Addr) (bs : List Int) (a : Nat) (w : World) (hb : Rb w rb ao n c a) (hr0 : Rd w0 ao n c bs) (hw : Below w0.heap.size w0 w) (hrb : w0.heap.size ≤ rb) (hlen : n ≤ 300) (hnc : n ≤ c) (p st2 ss sq : Int) (a1 a2 a3 a4 : Nat) (h1 : Hid (cnt bs a 1 4611686018427387904 = .ok (p, a1))) (h2 : Hid (cnt bs a1 0 (p - 1) = .ok (st2, a2))) (h3 : Hid (cnt bs a2 0 15 = .ok (ss, a3))) (h4 : Hid (cnt bs a3 1 4611686018427387904 = .ok (sq, a4))) :
    Calls Try.prog 36 #[.pointer (some ⟨rb, 0, none⟩), .int .i64 2] w fun e w' => e = .returned (.agg #[.int .i64 2, .int .i64 0, .int .i64 0, .int .i64 0, .slice none 0 0, .int .i64 p, .int .i64 st2, .int .i64 ss, .int .i64 sq]) ∧ Rb w' rb ao n c a4 ∧ Kept w w' (fun j => j = rb) := by
  have H : Hid (Rb w rb ao n c a ∧ Rd w0 ao n c bs ∧ Below w0.heap.size w0 w) := ⟨hb, hr0, hw⟩
  clear hb hr0 hw
  have hwp : wrap64 (p - 1) = p - 1 := by have := cnt_ok h1.out; exact w64 _ (by omega)
  go_enter Try.func36, Try.ntmps36
  go_wp2_with fail
  have S0 : Hid (St w ((w.alloc (.cells #[.int .i64 0, .int .i64 0, .int .i64 0, .int .i64 0, .slice none 0 0, .int .i64 0, .int .i64 0, .int .i64 0, .int .i64 0] 28)).alloc (.cells #[.int .i64 2, .int .i64 0, .int .i64 0, .int .i64 0, .slice none 0 0, .int .i64 0, .int .i64 0, .int .i64 0, .int .i64 0] 28)) rb #[.slice ao n c, .int .i64 a] 114 w.heap.size #[.int .i64 0, .int .i64 0, .int .i64 0, .int .i64 0, .slice none 0 0, .int .i64 0, .int .i64 0, .int .i64 0, .int .i64 0] (w.heap.size + 1) #[.int .i64 2, .int .i64 0, .int .i64 0, .int .i64 0, .slice none 0 0, .int .i64 0, .int .i64 0, .int .i64 0, .int .i64 0] 28) := St.two H.out.1
  generalize (w.alloc (.cells #[.int .i64 0, .int .i64 0, .int .i64 0, .int .i64 0, .slice none 0 0, .int .i64 0, .int .i64 0, .int .i64 0, .int .i64 0] 28)).alloc (.cells #[.int .i64 2, .int .i64 0, .int .i64 0, .int .i64 0, .slice none 0 0, .int .i64 0, .int .i64 0, .int .i64 0, .int .i64 0] 28) = W0 at *
  generalize w.heap.size + 1 = sb at *
  refine (count_ok rb n c ao bs a a1 1 4611686018427387904 p W0 S0.out.r (H.out.2.1.below (S0.out.below H.out.2.2 hrb)) (by omega) h1.out).mono ?_
  rintro e w1 ⟨rfl, hb1, hk1⟩
  have T0 : Hid (St w w1 rb #[.slice ao n c, .int .i64 a1] 114 w.heap.size #[.int .i64 0, .int .i64 0, .int .i64 0, .int .i64 0, .slice none 0 0, .int .i64 0, .int .i64 0, .int .i64 0, .int .i64 0] sb #[.int .i64 2, .int .i64 0, .int .i64 0, .int .i64 0, .slice none 0 0, .int .i64 0, .int .i64 0, .int .i64 0, .int .i64 0] 28) := S0.out.call hb1 hk1
  have f0 := T0.out.fz 5
  have q0 := fun i => T0.out.cell i
  have S1 : Hid (St w (w1.setCell ⟨sb, 5, none⟩ (.int .i64 p)) rb #[.slice ao n c, .int .i64 a1] 114 w.heap.size #[.int .i64 0, .int .i64 0, .int .i64 0, .int .i64 0, .slice none 0 0, .int .i64 0, .int .i64 0, .int .i64 0, .int .i64 0] sb #[.int .i64 2, .int .i64 0, .int .i64 0, .int .i64 0, .slice none 0 0, .int .i64 p, .int .i64 0, .int .i64 0, .int .i64 0] 28) := T0.out.store 5 (.int .i64 p)
  have p0 := fun i => S1.out.cell i
  clear hb1 hk1 S0
  go_wp2_with fail
  clear f0 q0 p0 T0
  generalize w1.setCell ⟨sb, 5, none⟩ (.int .i64 p) = W1 at *
  refine (count_ok rb n c ao bs a1 a2 0 (p - 1) st2 W1 S1.out.r (H.out.2.1.below (S1.out.below H.out.2.2 hrb)) (by omega) h2.out).mono ?_
  rintro e w2 ⟨rfl, hb1, hk1⟩
  have T1 : Hid (St w w2 rb #[.slice ao n c, .int .i64 a2] 114 w.heap.size #[.int .i64 0, .int .i64 0, .int .i64 0, .int .i64 0, .slice none 0 0, .int .i64 0, .int .i64 0, .int .i64 0, .int .i64 0] sb #[.int .i64 2, .int .i64 0, .int .i64 0, .int .i64 0, .slice none 0 0, .int .i64 p, .int .i64 0, .int .i64 0, .int .i64 0] 28) := S1.out.call hb1 hk1
  have f1 := T1.out.fz 6
  have q1 := fun i => T1.out.cell i
  have S2 : Hid (St w (w2.setCell ⟨sb, 6, none⟩ (.int .i64 st2)) rb #[.slice ao n c, .int .i64 a2] 114 w.heap.size #[.int .i64 0, .int .i64 0, .int .i64 0, .int .i64 0, .slice none 0 0, .int .i64 0, .int .i64 0, .int .i64 0, .int .i64 0] sb #[.int .i64 2, .int .i64 0, .int .i64 0, .int .i64 0, .slice none 0 0, .int .i64 p, .int .i64 st2, .int .i64 0, .int .i64 0] 28) := T1.out.store 6 (.int .i64 st2)
  have p1 := fun i => S2.out.cell i
  clear hb1 hk1 S1
  go_wp2_with fail
  clear f1 q1 p1 T1
  generalize w2.setCell ⟨sb, 6, none⟩ (.int .i64 st2) = W2 at *
  refine (wslot_ok w0 rb n c ao bs a2 a3 a4 ss sq W2 S2.out.r H.out.2.1 (S2.out.below H.out.2.2 hrb) hrb hlen h3.out h4.out).mono ?_
  rintro e w3 ⟨rfl, hb1, hk1⟩
  have T2 : Hid (St w w3 rb #[.slice ao n c, .int .i64 a4] 114 w.heap.size #[.int .i64 0, .int .i64 0, .int .i64 0, .int .i64 0, .slice none 0 0, .int .i64 0, .int .i64 0, .int .i64 0, .int .i64 0] sb #[.int .i64 2, .int .i64 0, .int .i64 0, .int .i64 0, .slice none 0 0, .int .i64 p, .int .i64 st2, .int .i64 0, .int .i64 0] 28) := S2.out.call hb1 hk1
  clear hb1 hk1 S2
  have fV0 := T2.out.fz 7
  have qV0 := fun i => T2.out.cell i
  have V0 : Hid (St w (w3.setCell ⟨sb, 7, none⟩ (.int .i64 ss)) rb #[.slice ao n c, .int .i64 a4] 114 w.heap.size #[.int .i64 0, .int .i64 0, .int .i64 0, .int .i64 0, .slice none 0 0, .int .i64 0, .int .i64 0, .int .i64 0, .int .i64 0] sb #[.int .i64 2, .int .i64 0, .int .i64 0, .int .i64 0, .slice none 0 0, .int .i64 p, .int .i64 st2, .int .i64 ss, .int .i64 0] 28) := T2.out.store 7 (.int .i64 ss)
  have fV1 := V0.out.fz 8
  have qV1 := fun i => V0.out.cell i
  have V1 : Hid (St w ((w3.setCell ⟨sb, 7, none⟩ (.int .i64 ss)).setCell ⟨sb, 8, none⟩ (.int .i64 sq)) rb #[.slice ao n c, .int .i64 a4] 114 w.heap.size #[.int .i64 0, .int .i64 0, .int .i64 0, .int .i64 0, .slice none 0 0, .int .i64 0, .int .i64 0, .int .i64 0, .int .i64 0] sb #[.int .i64 2, .int .i64 0, .int .i64 0, .int .i64 0, .slice none 0 0, .int .i64 p, .int .i64 st2, .int .i64 ss, .int .i64 sq] 28) := V0.out.store 8 (.int .i64 sq)
  have pz := fun i => V1.out.cell i
  have fU0 := V1.out.fzO 0
  have qU0 := fun i => V1.out.cellO i
  have U0 : Hid (St w (((w3.setCell ⟨sb, 7, none⟩ (.int .i64 ss)).setCell ⟨sb, 8, none⟩ (.int .i64 sq)).setCell ⟨w.heap.size, 0, none⟩ (.int .i64 2)) rb #[.slice ao n c, .int .i64 a4] 114 w.heap.size #[.int .i64 2, .int .i64 0, .int .i64 0, .int .i64 0, .slice none 0 0, .int .i64 0, .int .i64 0, .int .i64 0, .int .i64 0] sb #[.int .i64 2, .int .i64 0, .int .i64 0, .int .i64 0, .slice none 0 0, .int .i64 p, .int .i64 st2, .int .i64 ss, .int .i64 sq] 28) := V1.out.storeO 0 (.int .i64 2)
  have fU1 := U0.out.fzO 1
  have qU1 := fun i => U0.out.cellO i
  have U1 : Hid (St w ((((w3.setCell ⟨sb, 7, none⟩ (.int .i64 ss)).setCell ⟨sb, 8, none⟩ (.int .i64 sq)).setCell ⟨w.heap.size, 0, none⟩ (.int .i64 2)).setCell ⟨w.heap.size, 1, none⟩ (.int .i64 0)) rb #[.slice ao n c, .int .i64 a4] 114 w.heap.size #[.int .i64 2, .int .i64 0, .int .i64 0, .int .i64 0, .slice none 0 0, .int .i64 0, .int .i64 0, .int .i64 0, .int .i64 0] sb #[.int .i64 2, .int .i64 0, .int .i64 0, .int .i64 0, .slice none 0 0, .int .i64 p, .int .i64 st2, .int .i64 ss, .int .i64 sq] 28) := U0.out.storeO 1 (.int .i64 0)
  have fU2 := U1.out.fzO 2
  have qU2 := fun i => U1.out.cellO i
  have U2 : Hid (St w (((((w3.setCell ⟨sb, 7, none⟩ (.int .i64 ss)).setCell ⟨sb, 8, none⟩ (.int .i64 sq)).setCell ⟨w.heap.size, 0, none⟩ (.int .i64 2)).setCell ⟨w.heap.size, 1, none⟩ (.int .i64 0)).setCell ⟨w.heap.size, 2, none⟩ (.int .i64 0)) rb #[.slice ao n c, .int .i64 a4] 114 w.heap.size #[.int .i64 2, .int .i64 0, .int .i64 0, .int .i64 0, .slice none 0 0, .int .i64 0, .int .i64 0, .int .i64 0, .int .i64 0] sb #[.int .i64 2, .int .i64 0, .int .i64 0, .int .i64 0, .slice none 0 0, .int .i64 p, .int .i64 st2, .int .i64 ss, .int .i64 sq] 28) := U1.out.storeO 2 (.int .i64 0)
  have fU3 := U2.out.fzO 3
  have qU3 := fun i => U2.out.cellO i
  have U3 : Hid (St w ((((((w3.setCell ⟨sb, 7, none⟩ (.int .i64 ss)).setCell ⟨sb, 8, none⟩ (.int .i64 sq)).setCell ⟨w.heap.size, 0, none⟩ (.int .i64 2)).setCell ⟨w.heap.size, 1, none⟩ (.int .i64 0)).setCell ⟨w.heap.size, 2, none⟩ (.int .i64 0)).setCell ⟨w.heap.size, 3, none⟩ (.int .i64 0)) rb #[.slice ao n c, .int .i64 a4] 114 w.heap.size #[.int .i64 2, .int .i64 0, .int .i64 0, .int .i64 0, .slice none 0 0, .int .i64 0, .int .i64 0, .int .i64 0, .int .i64 0] sb #[.int .i64 2, .int .i64 0, .int .i64 0, .int .i64 0, .slice none 0 0, .int .i64 p, .int .i64 st2, .int .i64 ss, .int .i64 sq] 28) := U2.out.storeO 3 (.int .i64 0)
  have fU4 := U3.out.fzO 4
  have qU4 := fun i => U3.out.cellO i
  have U4 : Hid (St w (((((((w3.setCell ⟨sb, 7, none⟩ (.int .i64 ss)).setCell ⟨sb, 8, none⟩ (.int .i64 sq)).setCell ⟨w.heap.size, 0, none⟩ (.int .i64 2)).setCell ⟨w.heap.size, 1, none⟩ (.int .i64 0)).setCell ⟨w.heap.size, 2, none⟩ (.int .i64 0)).setCell ⟨w.heap.size, 3, none⟩ (.int .i64 0)).setCell ⟨w.heap.size, 4, none⟩ (.slice none 0 0)) rb #[.slice ao n c, .int .i64 a4] 114 w.heap.size #[.int .i64 2, .int .i64 0, .int .i64 0, .int .i64 0, .slice none 0 0, .int .i64 0, .int .i64 0, .int .i64 0, .int .i64 0] sb #[.int .i64 2, .int .i64 0, .int .i64 0, .int .i64 0, .slice none 0 0, .int .i64 p, .int .i64 st2, .int .i64 ss, .int .i64 sq] 28) := U3.out.storeO 4 (.slice none 0 0)
  have fU5 := U4.out.fzO 5
  have qU5 := fun i => U4.out.cellO i
  have U5 : Hid (St w ((((((((w3.setCell ⟨sb, 7, none⟩ (.int .i64 ss)).setCell ⟨sb, 8, none⟩ (.int .i64 sq)).setCell ⟨w.heap.size, 0, none⟩ (.int .i64 2)).setCell ⟨w.heap.size, 1, none⟩ (.int .i64 0)).setCell ⟨w.heap.size, 2, none⟩ (.int .i64 0)).setCell ⟨w.heap.size, 3, none⟩ (.int .i64 0)).setCell ⟨w.heap.size, 4, none⟩ (.slice none 0 0)).setCell ⟨w.heap.size, 5, none⟩ (.int .i64 p)) rb #[.slice ao n c, .int .i64 a4] 114 w.heap.size #[.int .i64 2, .int .i64 0, .int .i64 0, .int .i64 0, .slice none 0 0, .int .i64 p, .int .i64 0, .int .i64 0, .int .i64 0] sb #[.int .i64 2, .int .i64 0, .int .i64 0, .int .i64 0, .slice none 0 0, .int .i64 p, .int .i64 st2, .int .i64 ss, .int .i64 sq] 28) := U4.out.storeO 5 (.int .i64 p)
  have fU6 := U5.out.fzO 6
  have qU6 := fun i => U5.out.cellO i
  have U6 : Hid (St w (((((((((w3.setCell ⟨sb, 7, none⟩ (.int .i64 ss)).setCell ⟨sb, 8, none⟩ (.int .i64 sq)).setCell ⟨w.heap.size, 0, none⟩ (.int .i64 2)).setCell ⟨w.heap.size, 1, none⟩ (.int .i64 0)).setCell ⟨w.heap.size, 2, none⟩ (.int .i64 0)).setCell ⟨w.heap.size, 3, none⟩ (.int .i64 0)).setCell ⟨w.heap.size, 4, none⟩ (.slice none 0 0)).setCell ⟨w.heap.size, 5, none⟩ (.int .i64 p)).setCell ⟨w.heap.size, 6, none⟩ (.int .i64 st2)) rb #[.slice ao n c, .int .i64 a4] 114 w.heap.size #[.int .i64 2, .int .i64 0, .int .i64 0, .int .i64 0, .slice none 0 0, .int .i64 p, .int .i64 st2, .int .i64 0, .int .i64 0] sb #[.int .i64 2, .int .i64 0, .int .i64 0, .int .i64 0, .slice none 0 0, .int .i64 p, .int .i64 st2, .int .i64 ss, .int .i64 sq] 28) := U5.out.storeO 6 (.int .i64 st2)
  have fU7 := U6.out.fzO 7
  have qU7 := fun i => U6.out.cellO i
  have U7 : Hid (St w ((((((((((w3.setCell ⟨sb, 7, none⟩ (.int .i64 ss)).setCell ⟨sb, 8, none⟩ (.int .i64 sq)).setCell ⟨w.heap.size, 0, none⟩ (.int .i64 2)).setCell ⟨w.heap.size, 1, none⟩ (.int .i64 0)).setCell ⟨w.heap.size, 2, none⟩ (.int .i64 0)).setCell ⟨w.heap.size, 3, none⟩ (.int .i64 0)).setCell ⟨w.heap.size, 4, none⟩ (.slice none 0 0)).setCell ⟨w.heap.size, 5, none⟩ (.int .i64 p)).setCell ⟨w.heap.size, 6, none⟩ (.int .i64 st2)).setCell ⟨w.heap.size, 7, none⟩ (.int .i64 ss)) rb #[.slice ao n c, .int .i64 a4] 114 w.heap.size #[.int .i64 2, .int .i64 0, .int .i64 0, .int .i64 0, .slice none 0 0, .int .i64 p, .int .i64 st2, .int .i64 ss, .int .i64 0] sb #[.int .i64 2, .int .i64 0, .int .i64 0, .int .i64 0, .slice none 0 0, .int .i64 p, .int .i64 st2, .int .i64 ss, .int .i64 sq] 28) := U6.out.storeO 7 (.int .i64 ss)
  have fU8 := U7.out.fzO 8
  have qU8 := fun i => U7.out.cellO i
  have U8 : Hid (St w (((((((((((w3.setCell ⟨sb, 7, none⟩ (.int .i64 ss)).setCell ⟨sb, 8, none⟩ (.int .i64 sq)).setCell ⟨w.heap.size, 0, none⟩ (.int .i64 2)).setCell ⟨w.heap.size, 1, none⟩ (.int .i64 0)).setCell ⟨w.heap.size, 2, none⟩ (.int .i64 0)).setCell ⟨w.heap.size, 3, none⟩ (.int .i64 0)).setCell ⟨w.heap.size, 4, none⟩ (.slice none 0 0)).setCell ⟨w.heap.size, 5, none⟩ (.int .i64 p)).setCell ⟨w.heap.size, 6, none⟩ (.int .i64 st2)).setCell ⟨w.heap.size, 7, none⟩ (.int .i64 ss)).setCell ⟨w.heap.size, 8, none⟩ (.int .i64 sq)) rb #[.slice ao n c, .int .i64 a4] 114 w.heap.size #[.int .i64 2, .int .i64 0, .int .i64 0, .int .i64 0, .slice none 0 0, .int .i64 p, .int .i64 st2, .int .i64 ss, .int .i64 sq] sb #[.int .i64 2, .int .i64 0, .int .i64 0, .int .i64 0, .slice none 0 0, .int .i64 p, .int .i64 st2, .int .i64 ss, .int .i64 sq] 28) := U7.out.storeO 8 (.int .i64 sq)
  have qz := fun i => U8.out.cellO i
  go_wp2_with fail
  exact bodyPost_ret (v := .agg #[.int .i64 2, .int .i64 0, .int .i64 0, .int .i64 0, .slice none 0 0, .int .i64 p, .int .i64 st2, .int .i64 ss, .int .i64 sq]) (by simp [results, Try.results36, go_sem, qz]) rfl ⟨rfl, U8.out.r, U8.out.k⟩

end Go.Proofs.Ytbjpbcanmpimnab.Lo
