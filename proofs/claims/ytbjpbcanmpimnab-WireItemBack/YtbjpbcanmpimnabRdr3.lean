import Derived.Test.YtbjpbcanmpimnabRdr2
import Derived.Test.YtbjpbcanmpimnabItem6
namespace Go.Proofs.Ytbjpbcanmpimnab.Lo
open Go.RowKit Bk
set_option linter.unusedVariables false

theorem decD_ok {bs : List Int} {a a' : Nat} {s q st : Int} {body : List Int} (h : decD bs a = .ok ((s, q, st, body), a')) : ∃ (a1 a2 a3 a4 : Nat) (n : Int), cnt bs a 0 15 = .ok (s, a1) ∧ cnt bs a1 1 4611686018427387904 = .ok (q, a2) ∧ cnt bs a2 0 4611686018427387904 = .ok (st, a3) ∧ cnt bs a3 0 256 = .ok (n, a4) ∧ a4 + n.toNat ≤ bs.length ∧ body = (bs.drop a4).take n.toNat ∧ a' = a4 + n.toNat := by
  unfold decD at h
  split at h
  · cases h
  · rename_i h1
    split at h
    · cases h
    · rename_i h2
      split at h
      · cases h
      · rename_i h3
        split at h
        · cases h
        · rename_i h4
          split at h
          · rename_i hf
            simp only [Except.ok.injEq, Prod.mk.injEq] at h
            obtain ⟨⟨rfl, rfl, rfl, rfl⟩, rfl⟩ := h
            exact ⟨_, _, _, _, _, h1, h2, h3, h4, hf, rfl, rfl⟩
          · cases h

theorem decD_err {bs : List Int} {a : Nat} {x : Int} (h : decD bs a = .error x) : cnt bs a 0 15 = .error x ∨ ∃ (s : Int) (a1 : Nat), cnt bs a 0 15 = .ok (s, a1) ∧ (cnt bs a1 1 4611686018427387904 = .error x ∨ ∃ (q : Int) (a2 : Nat), cnt bs a1 1 4611686018427387904 = .ok (q, a2) ∧ (cnt bs a2 0 4611686018427387904 = .error x ∨ ∃ (st : Int) (a3 : Nat), cnt bs a2 0 4611686018427387904 = .ok (st, a3) ∧ (cnt bs a3 0 256 = .error x ∨ ∃ (n : Int) (a4 : Nat), cnt bs a3 0 256 = .ok (n, a4) ∧ ¬ a4 + n.toNat ≤ bs.length ∧ x = 10))) := by
  unfold decD at h
  split at h
  · rename_i h1
    cases h
    exact .inl h1
  · rename_i h1
    refine .inr ⟨_, _, h1, ?_⟩
    split at h
    · rename_i h2
      cases h
      exact .inl h2
    · rename_i h2
      refine .inr ⟨_, _, h2, ?_⟩
      split at h
      · rename_i h3
        cases h
        exact .inl h3
      · rename_i h3
        refine .inr ⟨_, _, h3, ?_⟩
        split at h
        · rename_i h4
          cases h
          exact .inl h4
        · rename_i h4
          refine .inr ⟨_, _, h4, ?_⟩
          split at h
          · cases h
          · rename_i hf
            cases h
            exact ⟨hf, rfl⟩

theorem decD_nz {bs : List Int} {a : Nat} {x : Int} (h : decD bs a = .error x) : x ≠ 0 := by
  rcases decD_err h with h | ⟨_, _, _, h | ⟨_, _, _, h | ⟨_, _, _, h | ⟨_, _, _, _, rfl⟩⟩⟩⟩
  · exact cnt_nz h
  · exact cnt_nz h
  · exact cnt_nz h
  · exact cnt_nz h
  · decide

theorem end_ok (rb n c : Nat) (ao : Option Addr) (a : Nat) (w : World) (hb : Rb w rb ao n c a) (h : ¬ a < n) :
    Calls Try.prog 37 #[.pointer (some ⟨rb, 0, none⟩)] w fun e w' => e = .returned (.tuple #[]) ∧ Kept w w' (fun j => j = rb) := by
  have c0 : w.cell? ⟨rb, 0, none⟩ = some (.slice ao n c) := cell_of_row w rb 0 _ _ _ hb
  have c1 : w.cell? ⟨rb, 1, none⟩ = some (.int .i64 a) := cell_of_row w rb 1 _ _ _ hb
  have h' : ¬ ((a : Int) < (n : Int)) := by omega
  clear hb
  go_enter Try.func37, Try.ntmps37
  go_wp2_with fail
  go_quiet (fail)
  go_wp2_with fail
  go_end0
  exact ⟨rfl, Kept.ofBelow (below_drewN (Below.refl _ _) _) _⟩

theorem end_err (rb n c : Nat) (ao : Option Addr) (a : Nat) (w : World) (hb : Rb w rb ao n c a) (h : a < n) :
    Calls Try.prog 37 #[.pointer (some ⟨rb, 0, none⟩)] w fun e w' => e = boom 15 ∧ Kept w w' (fun j => j = rb) := by
  have c0 : w.cell? ⟨rb, 0, none⟩ = some (.slice ao n c) := cell_of_row w rb 0 _ _ _ hb
  have c1 : w.cell? ⟨rb, 1, none⟩ = some (.int .i64 a) := cell_of_row w rb 1 _ _ _ hb
  have h' : ((a : Int) < (n : Int)) := by omega
  clear hb
  go_enter Try.func37, Try.ntmps37
  go_wp2_with fail
  go_quiet (fail)
  go_wp2_with fail
  exact ⟨rfl, rfl, Kept.ofBelow (below_drewN (Below.refl _ _) _) _⟩

structure St (w w' : World) (rb : Nat) (rcs : Array Value) (rt : TypeId) (ob : Nat) (ocs : Array Value) (sb : Nat) (cs : Array Value) (t : TypeId) : Prop where
  r : w'.heap[rb]? = some (.cells rcs rt (0, 0))
  o : w'.heap[ob]? = some (.cells ocs t (0, 0))
  s : w'.heap[sb]? = some (.cells cs t (0, 0))
  k : Kept w w' (fun j => j = rb)
  l : rb < w.heap.size
  g : w.heap.size ≤ ob ∧ w.heap.size ≤ sb ∧ ob ≠ sb

theorem St.call {w w1 w2 : World} {rb ob sb : Nat} {rcs ocs cs : Array Value} {rt t : TypeId} {rcs' : Array Value} (h : St w w1 rb rcs rt ob ocs sb cs t) (hr : w2.heap[rb]? = some (.cells rcs' rt (0, 0))) (hk : Kept w1 w2 (fun j => j = rb)) : St w w2 rb rcs' rt ob ocs sb cs t :=
  ⟨hr, (hk.block ob (lt_heap h.o) (by have := h.l; have := h.g; omega)).trans h.o, (hk.block sb (lt_heap h.s) (by have := h.l; have := h.g; omega)).trans h.s, h.k.trans hk, h.l, h.g⟩
theorem St.still {w w1 w2 : World} {rb ob sb : Nat} {rcs ocs cs : Array Value} {rt t : TypeId} (h : St w w1 rb rcs rt ob ocs sb cs t) (hk : Below w1.heap.size w1 w2) : St w w2 rb rcs rt ob ocs sb cs t :=
  ⟨(hk.block rb (lt_heap h.r)).trans h.r, (hk.block ob (lt_heap h.o)).trans h.o, (hk.block sb (lt_heap h.s)).trans h.s, h.k.trans (Kept.ofBelow hk _), h.l, h.g⟩
theorem St.store {w w1 : World} {rb ob sb : Nat} {rcs ocs cs : Array Value} {rt t : TypeId} (h : St w w1 rb rcs rt ob ocs sb cs t) (i : Nat) (v : Value) : St w (w1.setCell ⟨sb, i, none⟩ v) rb rcs rt ob ocs sb (cs.setIfInBounds i v) t :=
  ⟨(Below.heap_setCell w1 ⟨sb, i, none⟩ v rb (by have := h.l; have := h.g; show ¬ rb = sb; omega)).trans h.r, (Below.heap_setCell w1 ⟨sb, i, none⟩ v ob (by have := h.g; show ¬ ob = sb; omega)).trans h.o, heap_setCell_same w1 sb i cs t v h.s, ⟨h.k.os, h.k.tape, h.k.output, by have := h.k.size; simpa using this, fun j hj hq => (Below.heap_setCell w1 ⟨sb, i, none⟩ v j (by have := h.g; show ¬ j = sb; omega)).trans (h.k.block j hj hq)⟩, h.l, h.g⟩
theorem St.storeO {w w1 : World} {rb ob sb : Nat} {rcs ocs cs : Array Value} {rt t : TypeId} (h : St w w1 rb rcs rt ob ocs sb cs t) (i : Nat) (v : Value) : St w (w1.setCell ⟨ob, i, none⟩ v) rb rcs rt ob (ocs.setIfInBounds i v) sb cs t :=
  ⟨(Below.heap_setCell w1 ⟨ob, i, none⟩ v rb (by have := h.l; have := h.g; show ¬ rb = ob; omega)).trans h.r, heap_setCell_same w1 ob i ocs t v h.o, (Below.heap_setCell w1 ⟨ob, i, none⟩ v sb (by have := h.g; show ¬ sb = ob; omega)).trans h.s, ⟨h.k.os, h.k.tape, h.k.output, by have := h.k.size; simpa using this, fun j hj hq => (Below.heap_setCell w1 ⟨ob, i, none⟩ v j (by have := h.g; show ¬ j = ob; omega)).trans (h.k.block j hj hq)⟩, h.l, h.g⟩
theorem St.fz {w w1 : World} {rb ob sb : Nat} {rcs ocs cs : Array Value} {rt t : TypeId} (h : St w w1 rb rcs rt ob ocs sb cs t) (i : Nat) : w1.frozen? ⟨sb, i, none⟩ = false := frozen_of_row w1 sb i cs t h.s
theorem St.fzO {w w1 : World} {rb ob sb : Nat} {rcs ocs cs : Array Value} {rt t : TypeId} (h : St w w1 rb rcs rt ob ocs sb cs t) (i : Nat) : w1.frozen? ⟨ob, i, none⟩ = false := frozen_of_row w1 ob i ocs t h.o
theorem St.cell {w w1 : World} {rb ob sb : Nat} {rcs ocs cs : Array Value} {rt t : TypeId} (h : St w w1 rb rcs rt ob ocs sb cs t) (i : Nat) : w1.cell? ⟨sb, i, none⟩ = cs[i]? := cell_of_row w1 sb i cs t (0, 0) h.s
theorem St.cellO {w w1 : World} {rb ob sb : Nat} {rcs ocs cs : Array Value} {rt t : TypeId} (h : St w w1 rb rcs rt ob ocs sb cs t) (i : Nat) : w1.cell? ⟨ob, i, none⟩ = ocs[i]? := cell_of_row w1 ob i ocs t (0, 0) h.o
theorem St.below {w0 w w1 : World} {rb ob sb : Nat} {rcs ocs cs : Array Value} {rt t : TypeId} (h : St w w1 rb rcs rt ob ocs sb cs t) (hw : Below w0.heap.size w0 w) (hrb : w0.heap.size ≤ rb) : Below w0.heap.size w0 w1 :=
  hw.trans (h.k.below hw.size (fun j hj e => by omega))
theorem alloc2 (w : World) (o : Obj) (cs : Array Value) (t : TypeId) : ((w.alloc o).alloc (.cells cs t)).heap[w.heap.size + 1]? = some (.cells cs t (0, 0)) := by
  have h := heap_alloc_new (w.alloc o) (.cells cs t)
  have e : (w.alloc o).heap.size = w.heap.size + 1 := by simp
  rw [e] at h
  exact h
theorem St.two {w : World} {rb : Nat} {rcs cs ocs : Array Value} {rt t : TypeId} (hb : w.heap[rb]? = some (.cells rcs rt (0, 0))) : St w ((w.alloc (.cells ocs t)).alloc (.cells cs t)) rb rcs rt w.heap.size ocs (w.heap.size + 1) cs t :=
  ⟨((balloc (balloc (Below.refl _ _)) : Below w.heap.size w ((w.alloc (.cells ocs t)).alloc (.cells cs t))).block rb (lt_heap hb)).trans hb, blk_alloc (heap_alloc_new w _), alloc2 w _ cs t, Kept.ofBelow (balloc (balloc (Below.refl _ _))) _, lt_heap hb, by omega, by omega, by omega⟩
theorem St.three {w : World} {rb : Nat} {rcs cs ocs : Array Value} {rt t : TypeId} {o : Obj} (hb : w.heap[rb]? = some (.cells rcs rt (0, 0))) : St w (((w.alloc o).alloc (.cells ocs t)).alloc (.cells cs t)) rb rcs rt (w.heap.size + 1) ocs (w.heap.size + 1 + 1) cs t := by
  have h := St.two (w := w.alloc o) (ocs := ocs) (cs := cs) (t := t) ((Below.heap_alloc w o rb (lt_heap hb)).trans hb)
  have e : (w.alloc o).heap.size = w.heap.size + 1 := by simp
  have hl := lt_heap hb
  rw [e] at h
  exact ⟨h.r, h.o, h.s, (Kept.ofBelow (balloc (Below.refl _ _)) _).trans h.k, hl, by omega, by omega, by omega⟩

set_option maxRecDepth 100000 in
set_option maxHeartbeats 1000000 in
theorem wslot_ok (w0 : World) (rb n c : Nat) (ao : Option Addr) (bs : List Int) (a a1 a2 : Nat) (s q : Int) (w : World) (hb : Rb w rb ao n c a) (hr0 : Rd w0 ao n c bs) (hw : Below w0.heap.size w0 w) (hrb : w0.heap.size ≤ rb) (hlen : n ≤ 300) (h1 : cnt bs a 0 15 = .ok (s, a1)) (h2 : cnt bs a1 1 4611686018427387904 = .ok (q, a2)) :
    Calls Try.prog 70 #[.pointer (some ⟨rb, 0, none⟩)] w fun e w' => e = .returned (.agg #[.int .i64 s, .int .i64 q]) ∧ Rb w' rb ao n c a2 ∧ Kept w w' (fun j => j = rb) := by
  have H : Hid (Rb w rb ao n c a ∧ Rd w0 ao n c bs ∧ Below w0.heap.size w0 w ∧ cnt bs a 0 15 = .ok (s, a1) ∧ cnt bs a1 1 4611686018427387904 = .ok (q, a2)) := ⟨hb, hr0, hw, h1, h2⟩
  clear hb hr0 hw h1 h2
  go_enter Try.func70, Try.ntmps70
  go_wp2_with fail
  have S0 : Hid (St w ((w.alloc (.cells #[.int .i64 0, .int .i64 0] 26)).alloc (.cells #[.int .i64 0, .int .i64 0] 26)) rb #[.slice ao n c, .int .i64 a] 114 w.heap.size #[.int .i64 0, .int .i64 0] (w.heap.size + 1) #[.int .i64 0, .int .i64 0] 26) := St.two H.out.1
  generalize (w.alloc (.cells #[.int .i64 0, .int .i64 0] 26)).alloc (.cells #[.int .i64 0, .int .i64 0] 26) = W0 at *
  generalize w.heap.size + 1 = sb at *
  refine (node_ok rb n c ao bs a a1 s W0 S0.out.r (H.out.2.1.below (S0.out.below H.out.2.2.1 hrb)) (by omega) H.out.2.2.2.1).mono ?_
  rintro e w1 ⟨rfl, hb1, hk1⟩
  have S1 : Hid (St w w1 rb #[.slice ao n c, .int .i64 a1] 114 w.heap.size #[.int .i64 0, .int .i64 0] sb #[.int .i64 0, .int .i64 0] 26) := S0.out.call hb1 hk1
  have f1 := S1.out.fz 0
  have q1 := fun i => S1.out.cell i
  clear hb1 hk1 S0
  go_wp2_with fail
  have S2 : Hid (St w (w1.setCell ⟨sb, 0, none⟩ (.int .i64 s)) rb #[.slice ao n c, .int .i64 a1] 114 w.heap.size #[.int .i64 0, .int .i64 0] sb #[.int .i64 s, .int .i64 0] 26) := S1.out.store 0 (.int .i64 s)
  generalize w1.setCell ⟨sb, 0, none⟩ (.int .i64 s) = W1 at *
  refine (count_ok rb n c ao bs a1 a2 1 4611686018427387904 q W1 S2.out.r (H.out.2.1.below (S2.out.below H.out.2.2.1 hrb)) (by omega) H.out.2.2.2.2).mono ?_
  rintro e w2 ⟨rfl, hb1, hk1⟩
  have S3 : Hid (St w w2 rb #[.slice ao n c, .int .i64 a2] 114 w.heap.size #[.int .i64 0, .int .i64 0] sb #[.int .i64 s, .int .i64 0] 26) := S2.out.call hb1 hk1
  have f2 := S3.out.fz 1
  have q2 := fun i => S3.out.cell i
  have q3 := fun i => (S3.out.store 1 (.int .i64 q)).cell i
  have q4 := fun i => (S3.out.store 1 (.int .i64 q)).cellO i
  have f4 := (S3.out.store 1 (.int .i64 q)).fzO 0
  have q5 := fun i => ((S3.out.store 1 (.int .i64 q)).storeO 0 (.int .i64 s)).cellO i
  have f5 := ((S3.out.store 1 (.int .i64 q)).storeO 0 (.int .i64 s)).fzO 1
  clear hb1 hk1 S2 S1 f1 q1
  have SF : Hid (St w (((w2.setCell ⟨sb, 1, none⟩ (.int .i64 q)).setCell ⟨w.heap.size, 0, none⟩ (.int .i64 s)).setCell ⟨w.heap.size, 1, none⟩ (.int .i64 q)) rb #[.slice ao n c, .int .i64 a2] 114 w.heap.size #[.int .i64 s, .int .i64 q] sb #[.int .i64 s, .int .i64 q] 26) := ((S3.out.store 1 (.int .i64 q)).storeO 0 (.int .i64 s)).storeO 1 (.int .i64 q)
  have q6 := fun i => SF.out.cellO i
  go_wp2_with fail
  exact bodyPost_ret (v := .agg #[.int .i64 s, .int .i64 q]) (by simp [results, Try.results70, go_sem, q6]) rfl ⟨rfl, SF.out.r, SF.out.k⟩

set_option maxRecDepth 100000 in
set_option maxHeartbeats 1000000 in
theorem wslot_err (w0 : World) (rb n c : Nat) (ao : Option Addr) (bs : List Int) (a : Nat) (x : Int) (w : World) (hb : Rb w rb ao n c a) (hr0 : Rd w0 ao n c bs) (hw : Below w0.heap.size w0 w) (hrb : w0.heap.size ≤ rb) (hlen : n ≤ 300) (h : cnt bs a 0 15 = .error x ∨ ∃ (s : Int) (a1 : Nat), cnt bs a 0 15 = .ok (s, a1) ∧ cnt bs a1 1 4611686018427387904 = .error x) :
    Calls Try.prog 70 #[.pointer (some ⟨rb, 0, none⟩)] w fun e w' => e = boom x ∧ Kept w w' (fun j => j = rb) := by
  have H : Hid (Rb w rb ao n c a ∧ Rd w0 ao n c bs ∧ Below w0.heap.size w0 w) := ⟨hb, hr0, hw⟩
  clear hb hr0 hw
  rcases h with h | ⟨s, a1, h1, h2⟩
  · have H1 : Hid (cnt bs a 0 15 = .error x) := h
    clear h
    go_enter Try.func70, Try.ntmps70
    go_wp2_with fail
    have S0 : Hid (St w ((w.alloc (.cells #[.int .i64 0, .int .i64 0] 26)).alloc (.cells #[.int .i64 0, .int .i64 0] 26)) rb #[.slice ao n c, .int .i64 a] 114 w.heap.size #[.int .i64 0, .int .i64 0] (w.heap.size + 1) #[.int .i64 0, .int .i64 0] 26) := St.two H.out.1
    generalize (w.alloc (.cells #[.int .i64 0, .int .i64 0] 26)).alloc (.cells #[.int .i64 0, .int .i64 0] 26) = W0 at *
    generalize w.heap.size + 1 = sb at *
    refine (node_err rb n c ao bs a x W0 S0.out.r (H.out.2.1.below (S0.out.below H.out.2.2 hrb)) (by omega) H1.out).mono ?_
    rintro e w1 ⟨rfl, hk1⟩
    have HF : Hid (Kept w w1 (fun j => j = rb)) := S0.out.k.trans hk1
    clear hk1 S0
    unfold boom
    go_wp2_with fail
    exact ⟨rfl, rfl, HF.out⟩
  · have H1 : Hid (cnt bs a 0 15 = .ok (s, a1) ∧ cnt bs a1 1 4611686018427387904 = .error x) := ⟨h1, h2⟩
    clear h1 h2
    go_enter Try.func70, Try.ntmps70
    go_wp2_with fail
    have S0 : Hid (St w ((w.alloc (.cells #[.int .i64 0, .int .i64 0] 26)).alloc (.cells #[.int .i64 0, .int .i64 0] 26)) rb #[.slice ao n c, .int .i64 a] 114 w.heap.size #[.int .i64 0, .int .i64 0] (w.heap.size + 1) #[.int .i64 0, .int .i64 0] 26) := St.two H.out.1
    generalize (w.alloc (.cells #[.int .i64 0, .int .i64 0] 26)).alloc (.cells #[.int .i64 0, .int .i64 0] 26) = W0 at *
    generalize w.heap.size + 1 = sb at *
    refine (node_ok rb n c ao bs a a1 s W0 S0.out.r (H.out.2.1.below (S0.out.below H.out.2.2 hrb)) (by omega) H1.out.1).mono ?_
    rintro e w1 ⟨rfl, hb1, hk1⟩
    have S1 : Hid (St w w1 rb #[.slice ao n c, .int .i64 a1] 114 w.heap.size #[.int .i64 0, .int .i64 0] sb #[.int .i64 0, .int .i64 0] 26) := S0.out.call hb1 hk1
    have f1 := S1.out.fz 0
    have q1 := fun i => S1.out.cell i
    clear hb1 hk1 S0
    go_wp2_with fail
    have S2 : Hid (St w (w1.setCell ⟨sb, 0, none⟩ (.int .i64 s)) rb #[.slice ao n c, .int .i64 a1] 114 w.heap.size #[.int .i64 0, .int .i64 0] sb #[.int .i64 s, .int .i64 0] 26) := S1.out.store 0 (.int .i64 s)
    generalize w1.setCell ⟨sb, 0, none⟩ (.int .i64 s) = W1 at *
    refine (count_err rb n c ao bs a1 1 4611686018427387904 x W1 S2.out.r (H.out.2.1.below (S2.out.below H.out.2.2 hrb)) (by omega) H1.out.2).mono ?_
    rintro e w2 ⟨rfl, hk1⟩
    have HF : Hid (Kept w w2 (fun j => j = rb)) := S2.out.k.trans hk1
    clear hk1 S2 S1 f1 q1
    unfold boom
    go_wp2_with fail
    exact ⟨rfl, rfl, HF.out⟩

end Go.Proofs.Ytbjpbcanmpimnab.Lo
