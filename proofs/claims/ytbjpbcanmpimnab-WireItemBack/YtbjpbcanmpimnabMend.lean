import Derived.Test.YtbjpbcanmpimnabEnv
namespace Go.Proofs.Ytbjpbcanmpimnab.Lo
open Go.RowKit Bk
set_option linter.unusedVariables false

def into (v lo hi : Int) : Int := if v < lo then lo else if hi < v then hi else v

theorem into_in (v lo hi : Int) (h : lo ≤ hi) : inR (into v lo hi) lo hi = true := by
  unfold into inR
  split
  · simp; omega
  · split
    · simp; omega
    · simp; omega

theorem into_any (v lo hi : Int) (w : World) : Calls Try.prog 28 #[.int .i64 v, .int .i64 lo, .int .i64 hi] w fun e w' => e = .returned (.int .i64 (into v lo hi)) ∧ w = w' := by
  by_cases h1 : v < lo
  · have e : into v lo hi = lo := by unfold into; rw [if_pos h1]
    rw [e]
    go_enter Try.func28, Try.ntmps28
    go_wp2
    go_ret
    exact ⟨rfl, rfl⟩
  · by_cases h2 : hi < v
    · have e : into v lo hi = hi := by unfold into; rw [if_neg h1, if_pos h2]
      rw [e]
      go_enter Try.func28, Try.ntmps28
      go_wp2
      go_ret
      exact ⟨rfl, rfl⟩
    · have e : into v lo hi = v := by unfold into; rw [if_neg h1, if_neg h2]
      rw [e]
      go_enter Try.func28, Try.ntmps28
      go_wp2
      go_ret
      exact ⟨rfl, rfl⟩

theorem rd_take {w : World} {ao : Option Addr} {n c k : Nat} {bs : List Int} (h : Rd w ao n c bs) (hk : k ≤ n) (h0 : ao = none → k = 0) : Rd w ao k c (bs.take k) := by
  obtain ⟨h1, h2, h3, h4⟩ := h
  refine ⟨by rw [List.length_take]; omega, fun e => ⟨h0 e, (h2 e).2⟩, ?_, ?_⟩
  · by_cases hz : k = 0
    · exact .inl hz
    · rcases h3 with h3 | ⟨b, off, rfl, hc⟩
      · omega
      · refine .inr ⟨b, off, rfl, fun i hi => ?_⟩
        rw [hc i (by omega)]
        simp [List.getD, hi]
  · intro i
    by_cases hi : i < k
    · have := h4 i
      simpa [List.getD, List.getElem?_take, hi] using this
    · have e : (bs.take k).getD i 0 = 0 := by simp [List.getD, List.getElem?_take, hi]
      rw [e]; omega

set_option maxRecDepth 100000 in
theorem cut_any (ao : Option Addr) (c : Nat) (bs T : List Int) (hT : Hid (bs.take 256 = T)) (w : World) (hr : Rd w ao bs.length c bs) (hnc : bs.length ≤ c) (hlen : bs.length ≤ 140737488355328) :
    Calls Try.prog 62 #[.slice ao bs.length c, .int .i64 256] w fun e w' => ∃ ab cb, e = .returned (.slice ab T.length cb) ∧ Own w' w.heap.size (.slice ab T.length cb) T ∧ Below w.heap.size w w' := by
  have HR : Hid (Rd w ao bs.length c bs) := hr
  by_cases h : 256 < bs.length
  · obtain ⟨b, off, rfl⟩ : ∃ b off, ao = some ⟨b, off, none⟩ := by
      rcases hr.2.2.1 with h0 | ⟨b, off, rfl, _⟩
      · omega
      · exact ⟨b, off, rfl⟩
    have h' : (256 : Int) < (bs.length : Int) := by omega
    have h2 : (256 : Int) ≤ (c : Int) := by omega
    have h3 : 256 ≤ c := by omega
    have HT : Hid (Rd w (some ⟨b, off, none⟩) 256 c T) := by rw [← hT.out]; exact rd_take hr (by omega) (by simp)
    clear hr
    go_enter Try.func62, Try.ntmps62
    go_wp2_with fail
    refine (copied_any _ 256 c _ w HT.out (by omega)).mono ?_
    rintro e w1 ⟨v, rfl, ho, hb⟩
    obtain ⟨ab, cb, rfl⟩ := own_slice ho
    have HF : Hid (Own w1 w.heap.size (.slice ab T.length cb) T ∧ Below w.heap.size w w1) := ⟨ho, hb⟩
    clear ho hb
    go_wp2_with fail
    go_ret
    exact ⟨ab, cb, rfl, HF.out⟩
  · have h' : ¬ (256 : Int) < (bs.length : Int) := by omega
    have e : bs = T := by rw [← hT.out]; exact (List.take_of_length_le (by omega)).symm
    subst e
    clear hr hT
    go_enter Try.func62, Try.ntmps62
    go_wp2_with fail
    refine (copied_any ao bs.length c bs w HR.out hlen).mono ?_
    rintro e w1 ⟨v, rfl, ho, hb⟩
    obtain ⟨ab, cb, rfl⟩ := own_slice ho
    have HF : Hid (Own w1 w.heap.size (.slice ab bs.length cb) bs ∧ Below w.heap.size w w1) := ⟨ho, hb⟩
    clear ho hb
    go_wp2_with fail
    go_ret
    exact ⟨ab, cb, rfl, HF.out⟩

structure Two (w w' : World) (db : Nat) (ds : Array Value) (ob : Nat) (os : Array Value) (t : TypeId) : Prop where
  d : w'.heap[db]? = some (.cells ds t (0, 0))
  o : w'.heap[ob]? = some (.cells os t (0, 0))
  b : Below w.heap.size w w'
  n : db ≠ ob ∧ w.heap.size ≤ ob
theorem Two.new (w : World) (ds os : Array Value) (t : TypeId) : Two w ((w.alloc (.cells ds t)).alloc (.cells os t)) w.heap.size ds (w.heap.size + 1) os t :=
  ⟨blk_alloc (heap_alloc_new w _), alloc2 w _ os t, balloc (balloc (Below.refl _ _)), by omega, by omega⟩
theorem Two.still {w w1 w2 : World} {db ob : Nat} {ds os : Array Value} {t : TypeId} (h : Two w w1 db ds ob os t) (hb : Below w1.heap.size w1 w2) : Two w w2 db ds ob os t :=
  ⟨(hb.block db (lt_heap h.d)).trans h.d, (hb.block ob (lt_heap h.o)).trans h.o, bstep h.b hb, h.n⟩
theorem Two.set {w w1 : World} {db ob : Nat} {ds os : Array Value} {t : TypeId} (h : Two w w1 db ds ob os t) (i : Nat) (v : Value) : Two w (w1.setCell ⟨ob, i, none⟩ v) db ds ob (os.setIfInBounds i v) t :=
  ⟨(Below.heap_setCell w1 ⟨ob, i, none⟩ v db (by have := h.n; show ¬ db = ob; omega)).trans h.d, heap_setCell_same w1 ob i os t v h.o, bset h.b h.n.2 i v, h.n⟩
theorem Two.cd {w w1 : World} {db ob : Nat} {ds os : Array Value} {t : TypeId} (h : Two w w1 db ds ob os t) (i : Nat) : w1.cell? ⟨db, i, none⟩ = ds[i]? := blk_cell h.d i
theorem Two.co {w w1 : World} {db ob : Nat} {ds os : Array Value} {t : TypeId} (h : Two w w1 db ds ob os t) (i : Nat) : w1.cell? ⟨ob, i, none⟩ = os[i]? := blk_cell h.o i
theorem Two.fz {w w1 : World} {db ob : Nat} {ds os : Array Value} {t : TypeId} (h : Two w w1 db ds ob os t) (i : Nat) : w1.frozen? ⟨ob, i, none⟩ = false := frozen_of_row w1 ob i os t h.o

set_option maxRecDepth 100000 in
set_option maxHeartbeats 2000000 in
theorem mendData_any (s q st : Int) (ao : Option Addr) (c : Nat) (body T : List Int) (hT : Hid (body.take 256 = T)) (w : World) (hr : Rd w ao body.length c body) (hnc : body.length ≤ c) (hlen : body.length ≤ 140737488355328) :
    Calls Try.prog 29 #[.agg #[.int .i64 s, .int .i64 q, .int .i64 st, .slice ao body.length c]] w fun e w' => ∃ ab cb, e = .returned (.agg #[.int .i64 (into s 0 15), .int .i64 (into q 1 4611686018427387904), .int .i64 (into st 0 4611686018427387904), .slice ab T.length cb]) ∧ Own w' w.heap.size (.slice ab T.length cb) T ∧ Below w.heap.size w w' := by
  have HR : Hid (Rd w ao body.length c body) := hr
  clear hr
  go_enter Try.func29, Try.ntmps29
  go_wp2_with fail
  have D0 : Hid (Two w ((w.alloc (.cells #[.int .i64 s, .int .i64 q, .int .i64 st, .slice ao body.length c] 24)).alloc (.cells #[.int .i64 0, .int .i64 0, .int .i64 0, .slice none 0 0] 24)) w.heap.size #[.int .i64 s, .int .i64 q, .int .i64 st, .slice ao body.length c] (w.heap.size + 1) #[.int .i64 0, .int .i64 0, .int .i64 0, .slice none 0 0] 24) := Two.new w _ _ _
  generalize (w.alloc (.cells #[.int .i64 s, .int .i64 q, .int .i64 st, .slice ao body.length c] 24)).alloc (.cells #[.int .i64 0, .int .i64 0, .int .i64 0, .slice none 0 0] 24) = W0 at *
  have hz : w.heap.size ≤ W0.heap.size := D0.out.b.size
  generalize w.heap.size + 1 = ob at *
  have hob : ob < W0.heap.size := lt_heap D0.out.o
  have HRq : Hid (∀ q, Rd (W0.drewN q) ao body.length c body) := fun q => HR.out.below (below_drewN D0.out.b _)
  have hc0 : W0.cell? ⟨w.heap.size, 0, none⟩ = some (.int .i64 s) := D0.out.cd 0
  have hc1 : W0.cell? ⟨w.heap.size, 1, none⟩ = some (.int .i64 q) := D0.out.cd 1
  have hc2 : W0.cell? ⟨w.heap.size, 2, none⟩ = some (.int .i64 st) := D0.out.cd 2
  have hc3 : W0.cell? ⟨w.heap.size, 3, none⟩ = some (.slice ao body.length c) := D0.out.cd 3
  go_region_held3 (fun w' => w'.cell? ⟨w.heap.size, 0, none⟩ = some (.int .i64 s) ∧ w'.cell? ⟨w.heap.size, 1, none⟩ = some (.int .i64 q) ∧ w'.cell? ⟨w.heap.size, 2, none⟩ = some (.int .i64 st) ∧ w'.cell? ⟨w.heap.size, 3, none⟩ = some (.slice ao body.length c)) (go_keep)
    (first | (go_at_call 28; refine (into_any _ _ _ _).mono ?_; rintro e w' ⟨rfl, rfl⟩) | (go_at_call 62; refine (cut_any ao c body T hT _ (by exact HRq.out _) hnc hlen).mono ?_; rintro e w2 ⟨ab, cb, rfl, ho, hb⟩; have HO2 : Hid (Own w2 W0.heap.size (.slice ab T.length cb) T) := ho; have B0 : Hid (Two w w2 w.heap.size #[.int .i64 s, .int .i64 q, .int .i64 st, .slice ao body.length c] ob #[.int .i64 0, .int .i64 0, .int .i64 0, .slice none 0 0] 24) := D0.out.still (bstep (below_drewN (Below.refl _ _) _) hb); have f0 := B0.out.fz 0; have o0 := fun i => B0.out.co i; have B1 : Hid (Two w (w2.setCell ⟨ob, 0, none⟩ (.int .i64 (into s 0 15))) w.heap.size #[.int .i64 s, .int .i64 q, .int .i64 st, .slice ao body.length c] ob #[.int .i64 (into s 0 15), .int .i64 0, .int .i64 0, .slice none 0 0] 24) := B0.out.set 0 (.int .i64 (into s 0 15)); have f1 := B1.out.fz 1; have o1 := fun i => B1.out.co i; have B2 : Hid (Two w ((w2.setCell ⟨ob, 0, none⟩ (.int .i64 (into s 0 15))).setCell ⟨ob, 1, none⟩ (.int .i64 (into q 1 4611686018427387904))) w.heap.size #[.int .i64 s, .int .i64 q, .int .i64 st, .slice ao body.length c] ob #[.int .i64 (into s 0 15), .int .i64 (into q 1 4611686018427387904), .int .i64 0, .slice none 0 0] 24) := B1.out.set 1 (.int .i64 (into q 1 4611686018427387904)); have f2 := B2.out.fz 2; have o2 := fun i => B2.out.co i; have B3 : Hid (Two w (((w2.setCell ⟨ob, 0, none⟩ (.int .i64 (into s 0 15))).setCell ⟨ob, 1, none⟩ (.int .i64 (into q 1 4611686018427387904))).setCell ⟨ob, 2, none⟩ (.int .i64 (into st 0 4611686018427387904))) w.heap.size #[.int .i64 s, .int .i64 q, .int .i64 st, .slice ao body.length c] ob #[.int .i64 (into s 0 15), .int .i64 (into q 1 4611686018427387904), .int .i64 (into st 0 4611686018427387904), .slice none 0 0] 24) := B2.out.set 2 (.int .i64 (into st 0 4611686018427387904)); have f3 := B3.out.fz 3; have o3 := fun i => B3.out.co i; have B4 : Hid (Two w ((((w2.setCell ⟨ob, 0, none⟩ (.int .i64 (into s 0 15))).setCell ⟨ob, 1, none⟩ (.int .i64 (into q 1 4611686018427387904))).setCell ⟨ob, 2, none⟩ (.int .i64 (into st 0 4611686018427387904))).setCell ⟨ob, 3, none⟩ (.slice ab T.length cb)) w.heap.size #[.int .i64 s, .int .i64 q, .int .i64 st, .slice ao body.length c] ob #[.int .i64 (into s 0 15), .int .i64 (into q 1 4611686018427387904), .int .i64 (into st 0 4611686018427387904), .slice ab T.length cb] 24) := B3.out.set 3 (.slice ab T.length cb); have o4 := fun i => B4.out.co i; have d0 : w2.cell? ⟨w.heap.size, 0, none⟩ = _ := B0.out.cd 0; have x0 : ((((w2.setCell ⟨ob, 0, none⟩ (.int .i64 (into s 0 15))).setCell ⟨ob, 1, none⟩ (.int .i64 (into q 1 4611686018427387904))).setCell ⟨ob, 2, none⟩ (.int .i64 (into st 0 4611686018427387904))).setCell ⟨ob, 3, none⟩ (.slice ab T.length cb)).cell? ⟨w.heap.size, 0, none⟩ = _ := B4.out.cd 0; have d1 : w2.cell? ⟨w.heap.size, 1, none⟩ = _ := B0.out.cd 1; have x1 : ((((w2.setCell ⟨ob, 0, none⟩ (.int .i64 (into s 0 15))).setCell ⟨ob, 1, none⟩ (.int .i64 (into q 1 4611686018427387904))).setCell ⟨ob, 2, none⟩ (.int .i64 (into st 0 4611686018427387904))).setCell ⟨ob, 3, none⟩ (.slice ab T.length cb)).cell? ⟨w.heap.size, 1, none⟩ = _ := B4.out.cd 1; have d2 : w2.cell? ⟨w.heap.size, 2, none⟩ = _ := B0.out.cd 2; have x2 : ((((w2.setCell ⟨ob, 0, none⟩ (.int .i64 (into s 0 15))).setCell ⟨ob, 1, none⟩ (.int .i64 (into q 1 4611686018427387904))).setCell ⟨ob, 2, none⟩ (.int .i64 (into st 0 4611686018427387904))).setCell ⟨ob, 3, none⟩ (.slice ab T.length cb)).cell? ⟨w.heap.size, 2, none⟩ = _ := B4.out.cd 2; have d3 : w2.cell? ⟨w.heap.size, 3, none⟩ = _ := B0.out.cd 3; have x3 : ((((w2.setCell ⟨ob, 0, none⟩ (.int .i64 (into s 0 15))).setCell ⟨ob, 1, none⟩ (.int .i64 (into q 1 4611686018427387904))).setCell ⟨ob, 2, none⟩ (.int .i64 (into st 0 4611686018427387904))).setCell ⟨ob, 3, none⟩ (.slice ab T.length cb)).cell? ⟨w.heap.size, 3, none⟩ = _ := B4.out.cd 3; have HOF : Hid (Own ((((w2.setCell ⟨ob, 0, none⟩ (.int .i64 (into s 0 15))).setCell ⟨ob, 1, none⟩ (.int .i64 (into q 1 4611686018427387904))).setCell ⟨ob, 2, none⟩ (.int .i64 (into st 0 4611686018427387904))).setCell ⟨ob, 3, none⟩ (.slice ab T.length cb)) w.heap.size (.slice ab T.length cb) T) := Own.mono (own_set (own_set (own_set (own_set HO2.out hob 0 _) hob 1 _) hob 2 _) hob 3 _) hz; clear ho hb))
  go_wp2_with fail
  exact bodyPost_ret (v := .agg #[.int .i64 (into s 0 15), .int .i64 (into q 1 4611686018427387904), .int .i64 (into st 0 4611686018427387904), .slice ab T.length cb]) (by simp [results, Try.results29, go_sem, o4]) rfl ⟨ab, cb, rfl, HOF.out, B4.out.b⟩

end Go.Proofs.Ytbjpbcanmpimnab.Lo
