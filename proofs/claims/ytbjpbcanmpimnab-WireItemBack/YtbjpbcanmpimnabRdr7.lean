import Derived.Test.YtbjpbcanmpimnabRdr5
import Derived.Test.YtbjpbcanmpimnabRdr6
namespace Go.Proofs.Ytbjpbcanmpimnab.Lo
open Go.RowKit Bk
set_option linter.unusedVariables false

theorem Ie.call {w w' w'' : World} {ib eb rb : Nat} {cs es : Array Value} (h : Ie w w' ib cs eb es) (hk : Kept w' w'' (fun j => j = rb)) (hr : w.heap.size ≤ rb) (n1 : rb ≠ ib) (n2 : rb ≠ eb) : Ie w w'' ib cs eb es :=
  ⟨(hk.block ib (lt_heap h.i) (fun e => n1 e.symm)).trans h.i, (hk.block eb (lt_heap h.e) (fun e => n2 e.symm)).trans h.e, ⟨hk.os.trans h.k.os, hk.tape.trans h.k.tape, hk.output.trans h.k.output, Nat.le_trans h.k.size hk.size, fun j hj hq => (hk.block j (Nat.lt_of_lt_of_le hj h.k.size) (fun e => by omega)).trans (h.k.block j hj hq)⟩, h.n⟩
theorem Ie.still {w w' w'' : World} {ib eb : Nat} {cs es : Array Value} (h : Ie w w' ib cs eb es) (hb : Below w'.heap.size w' w'') : Ie w w'' ib cs eb es :=
  ⟨(hb.block ib (lt_heap h.i)).trans h.i, (hb.block eb (lt_heap h.e)).trans h.e, h.k.trans (Kept.ofBelow hb _), h.n⟩
theorem Ie.below {w w' : World} {ib eb : Nat} {cs es : Array Value} (h : Ie w w' ib cs eb es) (h1 : w.heap.size ≤ ib) (h2 : w.heap.size ≤ eb) : Below w.heap.size w w' :=
  h.k.below (Nat.le_refl _) (fun j hj e => by omega)
theorem Ie.new (w : World) (cs es : Array Value) : Ie w ((w.alloc (.cells cs 28)).alloc (.cells es 30)) w.heap.size cs (w.heap.size + 1) es :=
  ⟨blk_alloc (heap_alloc_new w _), alloc2 w _ es _, Kept.ofBelow (balloc (balloc (Below.refl _ _))) _, by omega⟩

set_option maxRecDepth 100000 in
set_option maxHeartbeats 4000000 in
theorem dec_long (ao : Option Addr) (n c : Nat) (w : World) (h : 300 < n) :
    Calls Try.prog 10 #[.slice ao n c] w fun e w' => e = .returned (.tuple #[.agg #[.int .i64 0, .int .i64 0, .int .i64 0, .int .i64 0, .slice none 0 0, .int .i64 0, .int .i64 0, .int .i64 0, .int .i64 0], .int .i64 17]) ∧ Below w.heap.size w w' := by
  have hmf : ∀ (fn : Fn) (first cap : Array Value) (w : World), (Instr.makeFunc fn first cap).run Try.prog w = .ok (.func fn first cap) w := fun _ _ _ _ => rfl
  go_enter_defers Try.func10, Try.ntmps10
  go_wp2_with fail
  have I0 : Hid (Ie w ((w.alloc (.cells #[.int .i64 0, .int .i64 0, .int .i64 0, .int .i64 0, .slice none 0 0, .int .i64 0, .int .i64 0, .int .i64 0, .int .i64 0] 28)).alloc (.cells #[.int .i64 0] 30)) w.heap.size #[.int .i64 0, .int .i64 0, .int .i64 0, .int .i64 0, .slice none 0 0, .int .i64 0, .int .i64 0, .int .i64 0, .int .i64 0] (w.heap.size + 1) #[.int .i64 0]) := Ie.new w _ _
  have z0 : ((w.alloc (.cells #[.int .i64 0, .int .i64 0, .int .i64 0, .int .i64 0, .slice none 0 0, .int .i64 0, .int .i64 0, .int .i64 0, .int .i64 0] 28)).alloc (.cells #[.int .i64 0] 30)).heap.size = w.heap.size + 1 + 1 := by simp
  generalize (w.alloc (.cells #[.int .i64 0, .int .i64 0, .int .i64 0, .int .i64 0, .slice none 0 0, .int .i64 0, .int .i64 0, .int .i64 0, .int .i64 0] 28)).alloc (.cells #[.int .i64 0] 30) = W0 at *
  have g1 : w.heap.size ≤ w.heap.size + 1 := by omega
  have g2 : w.heap.size + 1 < W0.heap.size := by omega
  generalize w.heap.size + 1 = eb at *
  refine (open_long ao n c W0 h).mono ?_
  rintro e w1 ⟨rfl, hb⟩
  have I1 : Hid (Ie w w1 w.heap.size #[.int .i64 0, .int .i64 0, .int .i64 0, .int .i64 0, .slice none 0 0, .int .i64 0, .int .i64 0, .int .i64 0, .int .i64 0] eb #[.int .i64 0]) := I0.out.still hb
  clear hb I0
  unfold boom
  go_wp2_with fail
  refine leaves_cons (f := 33) (args := #[.pointer (some ⟨w.heap.size, 0, none⟩), .pointer (some ⟨eb, 0, none⟩)]) (by simp) (by simp [go_sem]) ?_
  refine (catch_panicking w.heap.size eb (.int .i64 0) (.int .i64 0) (.int .i64 0) (.int .i64 0) (.slice none 0 0) (.int .i64 0) (.int .i64 0) (.int .i64 0) (.int .i64 0) (.int .i64 0) (17) [] w1 I1.out.i I1.out.e I1.out.n).mono ?_
  rintro e u' wz ⟨rfl, rfl, hi, he, hk⟩
  have ci := fun i => blk_cell hi i
  have ce := fun i => blk_cell he i
  have HF : Below w.heap.size w wz := (I1.out.below (Nat.le_refl _) g1).trans (hk.below (I1.out.k.size) (fun j hj e => by omega))
  simp [Leaves, settle, results, Try.results10, go_sem, ci, ce]
  exact HF

set_option maxRecDepth 100000 in
set_option maxHeartbeats 4000000 in
theorem dec_short (ao : Option Addr) (n c : Nat) (w : World) (h : n = 0) :
    Calls Try.prog 10 #[.slice ao n c] w fun e w' => e = .returned (.tuple #[.agg #[.int .i64 0, .int .i64 0, .int .i64 0, .int .i64 0, .slice none 0 0, .int .i64 0, .int .i64 0, .int .i64 0, .int .i64 0], .int .i64 10]) ∧ Below w.heap.size w w' := by
  have hmf : ∀ (fn : Fn) (first cap : Array Value) (w : World), (Instr.makeFunc fn first cap).run Try.prog w = .ok (.func fn first cap) w := fun _ _ _ _ => rfl
  subst h
  go_enter_defers Try.func10, Try.ntmps10
  go_wp2_with fail
  have I0 : Hid (Ie w ((w.alloc (.cells #[.int .i64 0, .int .i64 0, .int .i64 0, .int .i64 0, .slice none 0 0, .int .i64 0, .int .i64 0, .int .i64 0, .int .i64 0] 28)).alloc (.cells #[.int .i64 0] 30)) w.heap.size #[.int .i64 0, .int .i64 0, .int .i64 0, .int .i64 0, .slice none 0 0, .int .i64 0, .int .i64 0, .int .i64 0, .int .i64 0] (w.heap.size + 1) #[.int .i64 0]) := Ie.new w _ _
  have z0 : ((w.alloc (.cells #[.int .i64 0, .int .i64 0, .int .i64 0, .int .i64 0, .slice none 0 0, .int .i64 0, .int .i64 0, .int .i64 0, .int .i64 0] 28)).alloc (.cells #[.int .i64 0] 30)).heap.size = w.heap.size + 1 + 1 := by simp
  generalize (w.alloc (.cells #[.int .i64 0, .int .i64 0, .int .i64 0, .int .i64 0, .slice none 0 0, .int .i64 0, .int .i64 0, .int .i64 0, .int .i64 0] 28)).alloc (.cells #[.int .i64 0] 30) = W0 at *
  have g1 : w.heap.size ≤ w.heap.size + 1 := by omega
  have g2 : w.heap.size + 1 < W0.heap.size := by omega
  generalize w.heap.size + 1 = eb at *
  refine (open_short ao c W0).mono ?_
  rintro e w1 ⟨rfl, hb⟩
  have I1 : Hid (Ie w w1 w.heap.size #[.int .i64 0, .int .i64 0, .int .i64 0, .int .i64 0, .slice none 0 0, .int .i64 0, .int .i64 0, .int .i64 0, .int .i64 0] eb #[.int .i64 0]) := I0.out.still hb
  clear hb I0
  unfold boom
  go_wp2_with fail
  refine leaves_cons (f := 33) (args := #[.pointer (some ⟨w.heap.size, 0, none⟩), .pointer (some ⟨eb, 0, none⟩)]) (by simp) (by simp [go_sem]) ?_
  refine (catch_panicking w.heap.size eb (.int .i64 0) (.int .i64 0) (.int .i64 0) (.int .i64 0) (.slice none 0 0) (.int .i64 0) (.int .i64 0) (.int .i64 0) (.int .i64 0) (.int .i64 0) (10) [] w1 I1.out.i I1.out.e I1.out.n).mono ?_
  rintro e u' wz ⟨rfl, rfl, hi, he, hk⟩
  have ci := fun i => blk_cell hi i
  have ce := fun i => blk_cell he i
  have HF : Below w.heap.size w wz := (I1.out.below (Nat.le_refl _) g1).trans (hk.below (I1.out.k.size) (fun j hj e => by omega))
  simp [Leaves, settle, results, Try.results10, go_sem, ci, ce]
  exact HF

set_option maxRecDepth 100000 in
set_option maxHeartbeats 4000000 in
theorem dec_kind (ao : Option Addr) (n c : Nat) (w : World) (bs : List Int) (hr : Rd w ao n c bs) (h0 : n ≠ 0) (h1 : n ≤ 300) (hk : inR (bs.getD 0 0) 1 2 = false) :
    Calls Try.prog 10 #[.slice ao n c] w fun e w' => e = .returned (.tuple #[.agg #[.int .i64 0, .int .i64 0, .int .i64 0, .int .i64 0, .slice none 0 0, .int .i64 0, .int .i64 0, .int .i64 0, .int .i64 0], .int .i64 12]) ∧ Below w.heap.size w w' := by
  have hmf : ∀ (fn : Fn) (first cap : Array Value) (w : World), (Instr.makeFunc fn first cap).run Try.prog w = .ok (.func fn first cap) w := fun _ _ _ _ => rfl
  have HR : Hid (Rd w ao n c bs ∧ inR (bs.getD 0 0) 1 2 = false) := ⟨hr, hk⟩
  clear hr hk
  go_enter_defers Try.func10, Try.ntmps10
  go_wp2_with fail
  have I0 : Hid (Ie w ((w.alloc (.cells #[.int .i64 0, .int .i64 0, .int .i64 0, .int .i64 0, .slice none 0 0, .int .i64 0, .int .i64 0, .int .i64 0, .int .i64 0] 28)).alloc (.cells #[.int .i64 0] 30)) w.heap.size #[.int .i64 0, .int .i64 0, .int .i64 0, .int .i64 0, .slice none 0 0, .int .i64 0, .int .i64 0, .int .i64 0, .int .i64 0] (w.heap.size + 1) #[.int .i64 0]) := Ie.new w _ _
  have z0 : ((w.alloc (.cells #[.int .i64 0, .int .i64 0, .int .i64 0, .int .i64 0, .slice none 0 0, .int .i64 0, .int .i64 0, .int .i64 0, .int .i64 0] 28)).alloc (.cells #[.int .i64 0] 30)).heap.size = w.heap.size + 1 + 1 := by simp
  generalize (w.alloc (.cells #[.int .i64 0, .int .i64 0, .int .i64 0, .int .i64 0, .slice none 0 0, .int .i64 0, .int .i64 0, .int .i64 0, .int .i64 0] 28)).alloc (.cells #[.int .i64 0] 30) = W0 at *
  have g1 : w.heap.size ≤ w.heap.size + 1 := by omega
  have g2 : w.heap.size + 1 < W0.heap.size := by omega
  generalize w.heap.size + 1 = eb at *
  refine (open_kind ao n c bs W0 (HR.out.1.below (I0.out.below (Nat.le_refl _) g1)) h0 h1 HR.out.2).mono ?_
  rintro e w1 ⟨rfl, hb⟩
  have I1 : Hid (Ie w w1 w.heap.size #[.int .i64 0, .int .i64 0, .int .i64 0, .int .i64 0, .slice none 0 0, .int .i64 0, .int .i64 0, .int .i64 0, .int .i64 0] eb #[.int .i64 0]) := I0.out.still hb
  clear hb I0
  unfold boom
  go_wp2_with fail
  refine leaves_cons (f := 33) (args := #[.pointer (some ⟨w.heap.size, 0, none⟩), .pointer (some ⟨eb, 0, none⟩)]) (by simp) (by simp [go_sem]) ?_
  refine (catch_panicking w.heap.size eb (.int .i64 0) (.int .i64 0) (.int .i64 0) (.int .i64 0) (.slice none 0 0) (.int .i64 0) (.int .i64 0) (.int .i64 0) (.int .i64 0) (.int .i64 0) (12) [] w1 I1.out.i I1.out.e I1.out.n).mono ?_
  rintro e u' wz ⟨rfl, rfl, hi, he, hk⟩
  have ci := fun i => blk_cell hi i
  have ce := fun i => blk_cell he i
  have HF : Below w.heap.size w wz := (I1.out.below (Nat.le_refl _) g1).trans (hk.below (I1.out.k.size) (fun j hj e => by omega))
  simp [Leaves, settle, results, Try.results10, go_sem, ci, ce]
  exact HF

theorem rb_set {w : World} {rb n c k : Nat} {ao : Option Addr} {a : Int} (h : Rb w rb ao n c a) (hne : rb ≠ k) (i : Nat) (v : Value) : Rb (w.setCell ⟨k, i, none⟩ v) rb ao n c a :=
  (Below.heap_setCell w ⟨k, i, none⟩ v rb hne).trans h

theorem rd_cell0 {w : World} {ao : Option Addr} {n c : Nat} {bs : List Int} (hr : Rd w ao n c bs) (h0 : n ≠ 0) : ∃ b off, ao = some ⟨b, off, none⟩ ∧ w.cell? ⟨b, off, none⟩ = some (.int .u8 (bs.getD 0 0)) := by
  rcases hr.2.2.1 with h | ⟨b, off, rfl, hc⟩
  · omega
  · exact ⟨b, off, rfl, hc 0 (by omega)⟩

set_option maxRecDepth 100000 in
set_option maxHeartbeats 4000000 in
theorem dec_data (ao : Option Addr) (n c : Nat) (w : World) (bs : List Int) (hr : Rd w ao n c bs) (h0 : n ≠ 0) (h1 : n ≤ 300) (hnc : n ≤ c) (hk : bs.getD 0 0 = 1) (s q st : Int) (body : List Int) (a' : Nat) (hd : Hid (decD bs 1 = .ok ((s, q, st, body), a'))) (hend : ¬ a' < n) :
    Calls Try.prog 10 #[.slice ao n c] w fun e w' => ∃ ab cb, e = .returned (.tuple #[.agg #[.int .i64 1, .int .i64 s, .int .i64 q, .int .i64 st, .slice ab body.length cb, .int .i64 0, .int .i64 0, .int .i64 0, .int .i64 0], .int .i64 0]) ∧ Own w' w.heap.size (.slice ab body.length cb) body ∧ Below w.heap.size w w' := by
  have hmf : ∀ (fn : Fn) (first cap : Array Value) (w : World), (Instr.makeFunc fn first cap).run Try.prog w = .ok (.func fn first cap) w := fun _ _ _ _ => rfl
  obtain ⟨b, off, rfl, hc⟩ := rd_cell0 hr h0
  have HR : Hid (Rd w (some ⟨b, off, none⟩) n c bs ∧ bs.getD 0 0 = 1) := ⟨hr, hk⟩
  have hpos : 0 < n := by omega
  clear hr hk hc
  go_enter_defers Try.func10, Try.ntmps10
  go_wp2_with fail
  have I0 : Hid (Ie w ((w.alloc (.cells #[.int .i64 0, .int .i64 0, .int .i64 0, .int .i64 0, .slice none 0 0, .int .i64 0, .int .i64 0, .int .i64 0, .int .i64 0] 28)).alloc (.cells #[.int .i64 0] 30)) w.heap.size #[.int .i64 0, .int .i64 0, .int .i64 0, .int .i64 0, .slice none 0 0, .int .i64 0, .int .i64 0, .int .i64 0, .int .i64 0] (w.heap.size + 1) #[.int .i64 0]) := Ie.new w _ _
  have z0 : ((w.alloc (.cells #[.int .i64 0, .int .i64 0, .int .i64 0, .int .i64 0, .slice none 0 0, .int .i64 0, .int .i64 0, .int .i64 0, .int .i64 0] 28)).alloc (.cells #[.int .i64 0] 30)).heap.size = w.heap.size + 1 + 1 := by simp
  generalize (w.alloc (.cells #[.int .i64 0, .int .i64 0, .int .i64 0, .int .i64 0, .slice none 0 0, .int .i64 0, .int .i64 0, .int .i64 0, .int .i64 0] 28)).alloc (.cells #[.int .i64 0] 30) = W0 at *
  have g1 : w.heap.size ≤ w.heap.size + 1 := by omega
  have g2 : w.heap.size + 1 < W0.heap.size := by omega
  generalize w.heap.size + 1 = eb at *
  refine (open_ok (some ⟨b, off, none⟩) n c bs W0 (HR.out.1.below (I0.out.below (Nat.le_refl _) g1)) h0 h1 (by rw [HR.out.2]; decide)).mono ?_
  rintro e w1 ⟨rfl, hb1, hw1⟩
  have I1 : Hid (Ie w w1 w.heap.size #[.int .i64 0, .int .i64 0, .int .i64 0, .int .i64 0, .slice none 0 0, .int .i64 0, .int .i64 0, .int .i64 0, .int .i64 0] eb #[.int .i64 0]) := I0.out.still hw1
  have R1 : Hid (Rb w1 W0.heap.size (some ⟨b, off, none⟩) n c 1) := hb1
  have z1 := hw1.size
  have HW1 : Hid (Below w.heap.size w w1) := I1.out.below (Nat.le_refl _) g1
  obtain ⟨b', off', hx, c1⟩ := rd_cell0 (HR.out.1.below HW1.out) h0
  rw [HR.out.2] at c1
  simp only [Option.some.injEq, Addr.mk.injEq, and_true] at hx
  obtain ⟨rfl, rfl⟩ := hx
  have g3 : w.heap.size ≤ W0.heap.size := by omega
  have g4 : W0.heap.size ≠ w.heap.size := by omega
  have g5 : W0.heap.size ≠ eb := by omega
  have g6 : w.heap.size < w1.heap.size := lt_heap I1.out.i
  have g7 : W0.heap.size < w1.heap.size := lt_heap hb1
  have g8 : eb < w1.heap.size := lt_heap I1.out.e
  generalize W0.heap.size = rb at *
  clear hb1 hw1 I0 z0
  have hw1' : wrap64 1 = 1 := w64 _ (by omega)
  go_wp2_with fail
  refine (witem_data w rb n c (some ⟨b, off, none⟩) bs 1 w1 R1.out HR.out.1 HW1.out g3 h1 hnc a' s q st body hd).mono ?_
  rintro e w2 ⟨ab, cb, rfl, ho, hb2, hk2⟩
  have I2 : Hid (Ie w w2 w.heap.size #[.int .i64 0, .int .i64 0, .int .i64 0, .int .i64 0, .slice none 0 0, .int .i64 0, .int .i64 0, .int .i64 0, .int .i64 0] eb #[.int .i64 0]) := I1.out.call hk2 g3 g4 g5
  have z2 := hk2.size
  have fB0 := I2.out.fzI 0
  have qB0 := fun i => I2.out.cellI i
  have B0 : Hid (Ie w (w2.setCell ⟨w.heap.size, 0, none⟩ (.int .i64 1)) w.heap.size #[.int .i64 1, .int .i64 0, .int .i64 0, .int .i64 0, .slice none 0 0, .int .i64 0, .int .i64 0, .int .i64 0, .int .i64 0] eb #[.int .i64 0]) := I2.out.setI 0 (.int .i64 1)
  have fB1 := B0.out.fzI 1
  have qB1 := fun i => B0.out.cellI i
  have B1 : Hid (Ie w ((w2.setCell ⟨w.heap.size, 0, none⟩ (.int .i64 1)).setCell ⟨w.heap.size, 1, none⟩ (.int .i64 s)) w.heap.size #[.int .i64 1, .int .i64 s, .int .i64 0, .int .i64 0, .slice none 0 0, .int .i64 0, .int .i64 0, .int .i64 0, .int .i64 0] eb #[.int .i64 0]) := B0.out.setI 1 (.int .i64 s)
  have fB2 := B1.out.fzI 2
  have qB2 := fun i => B1.out.cellI i
  have B2 : Hid (Ie w (((w2.setCell ⟨w.heap.size, 0, none⟩ (.int .i64 1)).setCell ⟨w.heap.size, 1, none⟩ (.int .i64 s)).setCell ⟨w.heap.size, 2, none⟩ (.int .i64 q)) w.heap.size #[.int .i64 1, .int .i64 s, .int .i64 q, .int .i64 0, .slice none 0 0, .int .i64 0, .int .i64 0, .int .i64 0, .int .i64 0] eb #[.int .i64 0]) := B1.out.setI 2 (.int .i64 q)
  have fB3 := B2.out.fzI 3
  have qB3 := fun i => B2.out.cellI i
  have B3 : Hid (Ie w ((((w2.setCell ⟨w.heap.size, 0, none⟩ (.int .i64 1)).setCell ⟨w.heap.size, 1, none⟩ (.int .i64 s)).setCell ⟨w.heap.size, 2, none⟩ (.int .i64 q)).setCell ⟨w.heap.size, 3, none⟩ (.int .i64 st)) w.heap.size #[.int .i64 1, .int .i64 s, .int .i64 q, .int .i64 st, .slice none 0 0, .int .i64 0, .int .i64 0, .int .i64 0, .int .i64 0] eb #[.int .i64 0]) := B2.out.setI 3 (.int .i64 st)
  have fB4 := B3.out.fzI 4
  have qB4 := fun i => B3.out.cellI i
  have B4 : Hid (Ie w (((((w2.setCell ⟨w.heap.size, 0, none⟩ (.int .i64 1)).setCell ⟨w.heap.size, 1, none⟩ (.int .i64 s)).setCell ⟨w.heap.size, 2, none⟩ (.int .i64 q)).setCell ⟨w.heap.size, 3, none⟩ (.int .i64 st)).setCell ⟨w.heap.size, 4, none⟩ (.slice ab body.length cb)) w.heap.size #[.int .i64 1, .int .i64 s, .int .i64 q, .int .i64 st, .slice ab body.length cb, .int .i64 0, .int .i64 0, .int .i64 0, .int .i64 0] eb #[.int .i64 0]) := B3.out.setI 4 (.slice ab body.length cb)
  have fB5 := B4.out.fzI 5
  have qB5 := fun i => B4.out.cellI i
  have B5 : Hid (Ie w ((((((w2.setCell ⟨w.heap.size, 0, none⟩ (.int .i64 1)).setCell ⟨w.heap.size, 1, none⟩ (.int .i64 s)).setCell ⟨w.heap.size, 2, none⟩ (.int .i64 q)).setCell ⟨w.heap.size, 3, none⟩ (.int .i64 st)).setCell ⟨w.heap.size, 4, none⟩ (.slice ab body.length cb)).setCell ⟨w.heap.size, 5, none⟩ (.int .i64 0)) w.heap.size #[.int .i64 1, .int .i64 s, .int .i64 q, .int .i64 st, .slice ab body.length cb, .int .i64 0, .int .i64 0, .int .i64 0, .int .i64 0] eb #[.int .i64 0]) := B4.out.setI 5 (.int .i64 0)
  have fB6 := B5.out.fzI 6
  have qB6 := fun i => B5.out.cellI i
  have B6 : Hid (Ie w (((((((w2.setCell ⟨w.heap.size, 0, none⟩ (.int .i64 1)).setCell ⟨w.heap.size, 1, none⟩ (.int .i64 s)).setCell ⟨w.heap.size, 2, none⟩ (.int .i64 q)).setCell ⟨w.heap.size, 3, none⟩ (.int .i64 st)).setCell ⟨w.heap.size, 4, none⟩ (.slice ab body.length cb)).setCell ⟨w.heap.size, 5, none⟩ (.int .i64 0)).setCell ⟨w.heap.size, 6, none⟩ (.int .i64 0)) w.heap.size #[.int .i64 1, .int .i64 s, .int .i64 q, .int .i64 st, .slice ab body.length cb, .int .i64 0, .int .i64 0, .int .i64 0, .int .i64 0] eb #[.int .i64 0]) := B5.out.setI 6 (.int .i64 0)
  have fB7 := B6.out.fzI 7
  have qB7 := fun i => B6.out.cellI i
  have B7 : Hid (Ie w ((((((((w2.setCell ⟨w.heap.size, 0, none⟩ (.int .i64 1)).setCell ⟨w.heap.size, 1, none⟩ (.int .i64 s)).setCell ⟨w.heap.size, 2, none⟩ (.int .i64 q)).setCell ⟨w.heap.size, 3, none⟩ (.int .i64 st)).setCell ⟨w.heap.size, 4, none⟩ (.slice ab body.length cb)).setCell ⟨w.heap.size, 5, none⟩ (.int .i64 0)).setCell ⟨w.heap.size, 6, none⟩ (.int .i64 0)).setCell ⟨w.heap.size, 7, none⟩ (.int .i64 0)) w.heap.size #[.int .i64 1, .int .i64 s, .int .i64 q, .int .i64 st, .slice ab body.length cb, .int .i64 0, .int .i64 0, .int .i64 0, .int .i64 0] eb #[.int .i64 0]) := B6.out.setI 7 (.int .i64 0)
  have fB8 := B7.out.fzI 8
  have qB8 := fun i => B7.out.cellI i
  have B8 : Hid (Ie w (((((((((w2.setCell ⟨w.heap.size, 0, none⟩ (.int .i64 1)).setCell ⟨w.heap.size, 1, none⟩ (.int .i64 s)).setCell ⟨w.heap.size, 2, none⟩ (.int .i64 q)).setCell ⟨w.heap.size, 3, none⟩ (.int .i64 st)).setCell ⟨w.heap.size, 4, none⟩ (.slice ab body.length cb)).setCell ⟨w.heap.size, 5, none⟩ (.int .i64 0)).setCell ⟨w.heap.size, 6, none⟩ (.int .i64 0)).setCell ⟨w.heap.size, 7, none⟩ (.int .i64 0)).setCell ⟨w.heap.size, 8, none⟩ (.int .i64 0)) w.heap.size #[.int .i64 1, .int .i64 s, .int .i64 q, .int .i64 st, .slice ab body.length cb, .int .i64 0, .int .i64 0, .int .i64 0, .int .i64 0] eb #[.int .i64 0]) := B7.out.setI 8 (.int .i64 0)
  have R2 : Hid (Rb w2 rb (some ⟨b, off, none⟩) n c a') := hb2
  have R3 : Hid (Rb (((((((((w2.setCell ⟨w.heap.size, 0, none⟩ (.int .i64 1)).setCell ⟨w.heap.size, 1, none⟩ (.int .i64 s)).setCell ⟨w.heap.size, 2, none⟩ (.int .i64 q)).setCell ⟨w.heap.size, 3, none⟩ (.int .i64 st)).setCell ⟨w.heap.size, 4, none⟩ (.slice ab body.length cb)).setCell ⟨w.heap.size, 5, none⟩ (.int .i64 0)).setCell ⟨w.heap.size, 6, none⟩ (.int .i64 0)).setCell ⟨w.heap.size, 7, none⟩ (.int .i64 0)).setCell ⟨w.heap.size, 8, none⟩ (.int .i64 0)) rb (some ⟨b, off, none⟩) n c a') := (rb_set (rb_set (rb_set (rb_set (rb_set (rb_set (rb_set (rb_set (rb_set R2.out g4 0 _) g4 1 _) g4 2 _) g4 3 _) g4 4 _) g4 5 _) g4 6 _) g4 7 _) g4 8 _)
  have O2 : Hid (Own w2 w1.heap.size (.slice ab body.length cb) body) := ho
  have O3 : Hid (Own (((((((((w2.setCell ⟨w.heap.size, 0, none⟩ (.int .i64 1)).setCell ⟨w.heap.size, 1, none⟩ (.int .i64 s)).setCell ⟨w.heap.size, 2, none⟩ (.int .i64 q)).setCell ⟨w.heap.size, 3, none⟩ (.int .i64 st)).setCell ⟨w.heap.size, 4, none⟩ (.slice ab body.length cb)).setCell ⟨w.heap.size, 5, none⟩ (.int .i64 0)).setCell ⟨w.heap.size, 6, none⟩ (.int .i64 0)).setCell ⟨w.heap.size, 7, none⟩ (.int .i64 0)).setCell ⟨w.heap.size, 8, none⟩ (.int .i64 0)) w1.heap.size (.slice ab body.length cb) body) := (own_set (own_set (own_set (own_set (own_set (own_set (own_set (own_set (own_set O2.out g6 0 _) g6 1 _) g6 2 _) g6 3 _) g6 4 _) g6 5 _) g6 6 _) g6 7 _) g6 8 _)
  clear hk2 hb2 ho
  go_wp2_with fail
  have I3 : Hid (Ie w (((((((((w2.setCell ⟨w.heap.size, 0, none⟩ (.int .i64 1)).setCell ⟨w.heap.size, 1, none⟩ (.int .i64 s)).setCell ⟨w.heap.size, 2, none⟩ (.int .i64 q)).setCell ⟨w.heap.size, 3, none⟩ (.int .i64 st)).setCell ⟨w.heap.size, 4, none⟩ (.slice ab body.length cb)).setCell ⟨w.heap.size, 5, none⟩ (.int .i64 0)).setCell ⟨w.heap.size, 6, none⟩ (.int .i64 0)).setCell ⟨w.heap.size, 7, none⟩ (.int .i64 0)).setCell ⟨w.heap.size, 8, none⟩ (.int .i64 0)) w.heap.size #[.int .i64 1, .int .i64 s, .int .i64 q, .int .i64 st, .slice ab body.length cb, .int .i64 0, .int .i64 0, .int .i64 0, .int .i64 0] eb #[.int .i64 0]) := B8
  clear fB0 qB0 B0 fB1 qB1 B1 fB2 qB2 B2 fB3 qB3 B3 fB4 qB4 B4 fB5 qB5 B5 fB6 qB6 B6 fB7 qB7 B7 fB8 qB8 B8 R2 O2 I2
  generalize (((((((((w2.setCell ⟨w.heap.size, 0, none⟩ (.int .i64 1)).setCell ⟨w.heap.size, 1, none⟩ (.int .i64 s)).setCell ⟨w.heap.size, 2, none⟩ (.int .i64 q)).setCell ⟨w.heap.size, 3, none⟩ (.int .i64 st)).setCell ⟨w.heap.size, 4, none⟩ (.slice ab body.length cb)).setCell ⟨w.heap.size, 5, none⟩ (.int .i64 0)).setCell ⟨w.heap.size, 6, none⟩ (.int .i64 0)).setCell ⟨w.heap.size, 7, none⟩ (.int .i64 0)).setCell ⟨w.heap.size, 8, none⟩ (.int .i64 0)) = W3 at *
  refine (end_ok rb n c (some ⟨b, off, none⟩) a' W3 R3.out hend).mono ?_
  rintro e w4 ⟨rfl, hk4⟩
  have I4 : Hid (Ie w w4 w.heap.size #[.int .i64 1, .int .i64 s, .int .i64 q, .int .i64 st, .slice ab body.length cb, .int .i64 0, .int .i64 0, .int .i64 0, .int .i64 0] eb #[.int .i64 0]) := I3.out.call hk4 g3 g4 g5
  have O4 : Hid (Own w4 w1.heap.size (.slice ab body.length cb) body) := hk4.owns O3.out (fun j hj e => by have := (O3.out.lt j hj).1; omega)
  have p4 := fun i => I4.out.cellI i
  have fC0 := I4.out.fzI 0
  have qC0 := fun i => I4.out.cellI i
  have C0 : Hid (Ie w (w4.setCell ⟨w.heap.size, 0, none⟩ (.int .i64 1)) w.heap.size #[.int .i64 1, .int .i64 s, .int .i64 q, .int .i64 st, .slice ab body.length cb, .int .i64 0, .int .i64 0, .int .i64 0, .int .i64 0] eb #[.int .i64 0]) := I4.out.setI 0 (.int .i64 1)
  have fC1 := C0.out.fzI 1
  have qC1 := fun i => C0.out.cellI i
  have C1 : Hid (Ie w ((w4.setCell ⟨w.heap.size, 0, none⟩ (.int .i64 1)).setCell ⟨w.heap.size, 1, none⟩ (.int .i64 s)) w.heap.size #[.int .i64 1, .int .i64 s, .int .i64 q, .int .i64 st, .slice ab body.length cb, .int .i64 0, .int .i64 0, .int .i64 0, .int .i64 0] eb #[.int .i64 0]) := C0.out.setI 1 (.int .i64 s)
  have fC2 := C1.out.fzI 2
  have qC2 := fun i => C1.out.cellI i
  have C2 : Hid (Ie w (((w4.setCell ⟨w.heap.size, 0, none⟩ (.int .i64 1)).setCell ⟨w.heap.size, 1, none⟩ (.int .i64 s)).setCell ⟨w.heap.size, 2, none⟩ (.int .i64 q)) w.heap.size #[.int .i64 1, .int .i64 s, .int .i64 q, .int .i64 st, .slice ab body.length cb, .int .i64 0, .int .i64 0, .int .i64 0, .int .i64 0] eb #[.int .i64 0]) := C1.out.setI 2 (.int .i64 q)
  have fC3 := C2.out.fzI 3
  have qC3 := fun i => C2.out.cellI i
  have C3 : Hid (Ie w ((((w4.setCell ⟨w.heap.size, 0, none⟩ (.int .i64 1)).setCell ⟨w.heap.size, 1, none⟩ (.int .i64 s)).setCell ⟨w.heap.size, 2, none⟩ (.int .i64 q)).setCell ⟨w.heap.size, 3, none⟩ (.int .i64 st)) w.heap.size #[.int .i64 1, .int .i64 s, .int .i64 q, .int .i64 st, .slice ab body.length cb, .int .i64 0, .int .i64 0, .int .i64 0, .int .i64 0] eb #[.int .i64 0]) := C2.out.setI 3 (.int .i64 st)
  have fC4 := C3.out.fzI 4
  have qC4 := fun i => C3.out.cellI i
  have C4 : Hid (Ie w (((((w4.setCell ⟨w.heap.size, 0, none⟩ (.int .i64 1)).setCell ⟨w.heap.size, 1, none⟩ (.int .i64 s)).setCell ⟨w.heap.size, 2, none⟩ (.int .i64 q)).setCell ⟨w.heap.size, 3, none⟩ (.int .i64 st)).setCell ⟨w.heap.size, 4, none⟩ (.slice ab body.length cb)) w.heap.size #[.int .i64 1, .int .i64 s, .int .i64 q, .int .i64 st, .slice ab body.length cb, .int .i64 0, .int .i64 0, .int .i64 0, .int .i64 0] eb #[.int .i64 0]) := C3.out.setI 4 (.slice ab body.length cb)
  have fC5 := C4.out.fzI 5
  have qC5 := fun i => C4.out.cellI i
  have C5 : Hid (Ie w ((((((w4.setCell ⟨w.heap.size, 0, none⟩ (.int .i64 1)).setCell ⟨w.heap.size, 1, none⟩ (.int .i64 s)).setCell ⟨w.heap.size, 2, none⟩ (.int .i64 q)).setCell ⟨w.heap.size, 3, none⟩ (.int .i64 st)).setCell ⟨w.heap.size, 4, none⟩ (.slice ab body.length cb)).setCell ⟨w.heap.size, 5, none⟩ (.int .i64 0)) w.heap.size #[.int .i64 1, .int .i64 s, .int .i64 q, .int .i64 st, .slice ab body.length cb, .int .i64 0, .int .i64 0, .int .i64 0, .int .i64 0] eb #[.int .i64 0]) := C4.out.setI 5 (.int .i64 0)
  have fC6 := C5.out.fzI 6
  have qC6 := fun i => C5.out.cellI i
  have C6 : Hid (Ie w (((((((w4.setCell ⟨w.heap.size, 0, none⟩ (.int .i64 1)).setCell ⟨w.heap.size, 1, none⟩ (.int .i64 s)).setCell ⟨w.heap.size, 2, none⟩ (.int .i64 q)).setCell ⟨w.heap.size, 3, none⟩ (.int .i64 st)).setCell ⟨w.heap.size, 4, none⟩ (.slice ab body.length cb)).setCell ⟨w.heap.size, 5, none⟩ (.int .i64 0)).setCell ⟨w.heap.size, 6, none⟩ (.int .i64 0)) w.heap.size #[.int .i64 1, .int .i64 s, .int .i64 q, .int .i64 st, .slice ab body.length cb, .int .i64 0, .int .i64 0, .int .i64 0, .int .i64 0] eb #[.int .i64 0]) := C5.out.setI 6 (.int .i64 0)
  have fC7 := C6.out.fzI 7
  have qC7 := fun i => C6.out.cellI i
  have C7 : Hid (Ie w ((((((((w4.setCell ⟨w.heap.size, 0, none⟩ (.int .i64 1)).setCell ⟨w.heap.size, 1, none⟩ (.int .i64 s)).setCell ⟨w.heap.size, 2, none⟩ (.int .i64 q)).setCell ⟨w.heap.size, 3, none⟩ (.int .i64 st)).setCell ⟨w.heap.size, 4, none⟩ (.slice ab body.length cb)).setCell ⟨w.heap.size, 5, none⟩ (.int .i64 0)).setCell ⟨w.heap.size, 6, none⟩ (.int .i64 0)).setCell ⟨w.heap.size, 7, none⟩ (.int .i64 0)) w.heap.size #[.int .i64 1, .int .i64 s, .int .i64 q, .int .i64 st, .slice ab body.length cb, .int .i64 0, .int .i64 0, .int .i64 0, .int .i64 0] eb #[.int .i64 0]) := C6.out.setI 7 (.int .i64 0)
  have fC8 := C7.out.fzI 8
  have qC8 := fun i => C7.out.cellI i
  have C8 : Hid (Ie w (((((((((w4.setCell ⟨w.heap.size, 0, none⟩ (.int .i64 1)).setCell ⟨w.heap.size, 1, none⟩ (.int .i64 s)).setCell ⟨w.heap.size, 2, none⟩ (.int .i64 q)).setCell ⟨w.heap.size, 3, none⟩ (.int .i64 st)).setCell ⟨w.heap.size, 4, none⟩ (.slice ab body.length cb)).setCell ⟨w.heap.size, 5, none⟩ (.int .i64 0)).setCell ⟨w.heap.size, 6, none⟩ (.int .i64 0)).setCell ⟨w.heap.size, 7, none⟩ (.int .i64 0)).setCell ⟨w.heap.size, 8, none⟩ (.int .i64 0)) w.heap.size #[.int .i64 1, .int .i64 s, .int .i64 q, .int .i64 st, .slice ab body.length cb, .int .i64 0, .int .i64 0, .int .i64 0, .int .i64 0] eb #[.int .i64 0]) := C7.out.setI 8 (.int .i64 0)
  have fe := C8.out.fzE 0
  have qe := fun i => C8.out.cellE i
  have IF : Hid (Ie w ((((((((((w4.setCell ⟨w.heap.size, 0, none⟩ (.int .i64 1)).setCell ⟨w.heap.size, 1, none⟩ (.int .i64 s)).setCell ⟨w.heap.size, 2, none⟩ (.int .i64 q)).setCell ⟨w.heap.size, 3, none⟩ (.int .i64 st)).setCell ⟨w.heap.size, 4, none⟩ (.slice ab body.length cb)).setCell ⟨w.heap.size, 5, none⟩ (.int .i64 0)).setCell ⟨w.heap.size, 6, none⟩ (.int .i64 0)).setCell ⟨w.heap.size, 7, none⟩ (.int .i64 0)).setCell ⟨w.heap.size, 8, none⟩ (.int .i64 0)).setCell ⟨eb, 0, none⟩ (.int .i64 0)) w.heap.size #[.int .i64 1, .int .i64 s, .int .i64 q, .int .i64 st, .slice ab body.length cb, .int .i64 0, .int .i64 0, .int .i64 0, .int .i64 0] eb #[.int .i64 0]) := C8.out.setE 0 (.int .i64 0)
  have ci := fun i => IF.out.cellI i
  have ce := fun i => IF.out.cellE i
  have OF : Hid (Own ((((((((((w4.setCell ⟨w.heap.size, 0, none⟩ (.int .i64 1)).setCell ⟨w.heap.size, 1, none⟩ (.int .i64 s)).setCell ⟨w.heap.size, 2, none⟩ (.int .i64 q)).setCell ⟨w.heap.size, 3, none⟩ (.int .i64 st)).setCell ⟨w.heap.size, 4, none⟩ (.slice ab body.length cb)).setCell ⟨w.heap.size, 5, none⟩ (.int .i64 0)).setCell ⟨w.heap.size, 6, none⟩ (.int .i64 0)).setCell ⟨w.heap.size, 7, none⟩ (.int .i64 0)).setCell ⟨w.heap.size, 8, none⟩ (.int .i64 0)).setCell ⟨eb, 0, none⟩ (.int .i64 0)) w.heap.size (.slice ab body.length cb) body) := Own.mono (own_set (own_set (own_set (own_set (own_set (own_set (own_set (own_set (own_set (own_set O4.out g6 0 _) g6 1 _) g6 2 _) g6 3 _) g6 4 _) g6 5 _) g6 6 _) g6 7 _) g6 8 _) g8 0 _) (by omega)
  clear hk4
  go_wp2_with fail
  refine leaves_cons (f := 33) (args := #[.pointer (some ⟨w.heap.size, 0, none⟩), .pointer (some ⟨eb, 0, none⟩)]) (by simp) (by simp [go_sem]) ?_
  refine (catch_idle ⟨w.heap.size, 0, none⟩ ⟨eb, 0, none⟩ _).mono ?_
  rintro e u' wz ⟨rfl, rfl, rfl⟩
  refine ⟨.tuple #[.agg #[.int .i64 1, .int .i64 s, .int .i64 q, .int .i64 st, .slice ab body.length cb, .int .i64 0, .int .i64 0, .int .i64 0, .int .i64 0], .int .i64 0], (by simp [results, Try.results10, go_sem, ci, ce]), ab, cb, rfl, OF.out, IF.out.below (Nat.le_refl _) g1⟩

set_option maxRecDepth 100000 in
set_option maxHeartbeats 4000000 in
theorem dec_data_tail (ao : Option Addr) (n c : Nat) (w : World) (bs : List Int) (hr : Rd w ao n c bs) (h0 : n ≠ 0) (h1 : n ≤ 300) (hnc : n ≤ c) (hk : bs.getD 0 0 = 1) (s q st : Int) (body : List Int) (a' : Nat) (hd : Hid (decD bs 1 = .ok ((s, q, st, body), a'))) (hend : a' < n) :
    Calls Try.prog 10 #[.slice ao n c] w fun e w' => e = .returned (.tuple #[.agg #[.int .i64 0, .int .i64 0, .int .i64 0, .int .i64 0, .slice none 0 0, .int .i64 0, .int .i64 0, .int .i64 0, .int .i64 0], .int .i64 15]) ∧ Below w.heap.size w w' := by
  have hmf : ∀ (fn : Fn) (first cap : Array Value) (w : World), (Instr.makeFunc fn first cap).run Try.prog w = .ok (.func fn first cap) w := fun _ _ _ _ => rfl
  obtain ⟨b, off, rfl, hc⟩ := rd_cell0 hr h0
  have HR : Hid (Rd w (some ⟨b, off, none⟩) n c bs ∧ bs.getD 0 0 = 1) := ⟨hr, hk⟩
  have hpos : 0 < n := by omega
  clear hr hk hc
  go_enter_defers Try.func10, Try.ntmps10
  go_wp2_with fail
  have I0 : Hid (Ie w ((w.alloc (.cells #[.int .i64 0, .int .i64 0, .int .i64 0, .int .i64 0, .slice none 0 0, .int .i64 0, .int .i64 0, .int .i64 0, .int .i64 0] 28)).alloc (.cells #[.int .i64 0] 30)) w.heap.size #[.int .i64 0, .int .i64 0, .int .i64 0, .int .i64 0, .slice none 0 0, .int .i64 0, .int .i64 0, .int .i64 0, .int .i64 0] (w.heap.size + 1) #[.int .i64 0]) := Ie.new w _ _
  have z0 : ((w.alloc (.cells #[.int .i64 0, .int .i64 0, .int .i64 0, .int .i64 0, .slice none 0 0, .int .i64 0, .int .i64 0, .int .i64 0, .int .i64 0] 28)).alloc (.cells #[.int .i64 0] 30)).heap.size = w.heap.size + 1 + 1 := by simp
  generalize (w.alloc (.cells #[.int .i64 0, .int .i64 0, .int .i64 0, .int .i64 0, .slice none 0 0, .int .i64 0, .int .i64 0, .int .i64 0, .int .i64 0] 28)).alloc (.cells #[.int .i64 0] 30) = W0 at *
  have g1 : w.heap.size ≤ w.heap.size + 1 := by omega
  have g2 : w.heap.size + 1 < W0.heap.size := by omega
  generalize w.heap.size + 1 = eb at *
  refine (open_ok (some ⟨b, off, none⟩) n c bs W0 (HR.out.1.below (I0.out.below (Nat.le_refl _) g1)) h0 h1 (by rw [HR.out.2]; decide)).mono ?_
  rintro e w1 ⟨rfl, hb1, hw1⟩
  have I1 : Hid (Ie w w1 w.heap.size #[.int .i64 0, .int .i64 0, .int .i64 0, .int .i64 0, .slice none 0 0, .int .i64 0, .int .i64 0, .int .i64 0, .int .i64 0] eb #[.int .i64 0]) := I0.out.still hw1
  have R1 : Hid (Rb w1 W0.heap.size (some ⟨b, off, none⟩) n c 1) := hb1
  have z1 := hw1.size
  have HW1 : Hid (Below w.heap.size w w1) := I1.out.below (Nat.le_refl _) g1
  obtain ⟨b', off', hx, c1⟩ := rd_cell0 (HR.out.1.below HW1.out) h0
  rw [HR.out.2] at c1
  simp only [Option.some.injEq, Addr.mk.injEq, and_true] at hx
  obtain ⟨rfl, rfl⟩ := hx
  have g3 : w.heap.size ≤ W0.heap.size := by omega
  have g4 : W0.heap.size ≠ w.heap.size := by omega
  have g5 : W0.heap.size ≠ eb := by omega
  have g6 : w.heap.size < w1.heap.size := lt_heap I1.out.i
  have g7 : W0.heap.size < w1.heap.size := lt_heap hb1
  have g8 : eb < w1.heap.size := lt_heap I1.out.e
  generalize W0.heap.size = rb at *
  clear hb1 hw1 I0 z0
  have hw1' : wrap64 1 = 1 := w64 _ (by omega)
  go_wp2_with fail
  refine (witem_data w rb n c (some ⟨b, off, none⟩) bs 1 w1 R1.out HR.out.1 HW1.out g3 h1 hnc a' s q st body hd).mono ?_
  rintro e w2 ⟨ab, cb, rfl, ho, hb2, hk2⟩
  have I2 : Hid (Ie w w2 w.heap.size #[.int .i64 0, .int .i64 0, .int .i64 0, .int .i64 0, .slice none 0 0, .int .i64 0, .int .i64 0, .int .i64 0, .int .i64 0] eb #[.int .i64 0]) := I1.out.call hk2 g3 g4 g5
  have z2 := hk2.size
  have fB0 := I2.out.fzI 0
  have qB0 := fun i => I2.out.cellI i
  have B0 : Hid (Ie w (w2.setCell ⟨w.heap.size, 0, none⟩ (.int .i64 1)) w.heap.size #[.int .i64 1, .int .i64 0, .int .i64 0, .int .i64 0, .slice none 0 0, .int .i64 0, .int .i64 0, .int .i64 0, .int .i64 0] eb #[.int .i64 0]) := I2.out.setI 0 (.int .i64 1)
  have fB1 := B0.out.fzI 1
  have qB1 := fun i => B0.out.cellI i
  have B1 : Hid (Ie w ((w2.setCell ⟨w.heap.size, 0, none⟩ (.int .i64 1)).setCell ⟨w.heap.size, 1, none⟩ (.int .i64 s)) w.heap.size #[.int .i64 1, .int .i64 s, .int .i64 0, .int .i64 0, .slice none 0 0, .int .i64 0, .int .i64 0, .int .i64 0, .int .i64 0] eb #[.int .i64 0]) := B0.out.setI 1 (.int .i64 s)
  have fB2 := B1.out.fzI 2
  have qB2 := fun i => B1.out.cellI i
  have B2 : Hid (Ie w (((w2.setCell ⟨w.heap.size, 0, none⟩ (.int .i64 1)).setCell ⟨w.heap.size, 1, none⟩ (.int .i64 s)).setCell ⟨w.heap.size, 2, none⟩ (.int .i64 q)) w.heap.size #[.int .i64 1, .int .i64 s, .int .i64 q, .int .i64 0, .slice none 0 0, .int .i64 0, .int .i64 0, .int .i64 0, .int .i64 0] eb #[.int .i64 0]) := B1.out.setI 2 (.int .i64 q)
  have fB3 := B2.out.fzI 3
  have qB3 := fun i => B2.out.cellI i
  have B3 : Hid (Ie w ((((w2.setCell ⟨w.heap.size, 0, none⟩ (.int .i64 1)).setCell ⟨w.heap.size, 1, none⟩ (.int .i64 s)).setCell ⟨w.heap.size, 2, none⟩ (.int .i64 q)).setCell ⟨w.heap.size, 3, none⟩ (.int .i64 st)) w.heap.size #[.int .i64 1, .int .i64 s, .int .i64 q, .int .i64 st, .slice none 0 0, .int .i64 0, .int .i64 0, .int .i64 0, .int .i64 0] eb #[.int .i64 0]) := B2.out.setI 3 (.int .i64 st)
  have fB4 := B3.out.fzI 4
  have qB4 := fun i => B3.out.cellI i
  have B4 : Hid (Ie w (((((w2.setCell ⟨w.heap.size, 0, none⟩ (.int .i64 1)).setCell ⟨w.heap.size, 1, none⟩ (.int .i64 s)).setCell ⟨w.heap.size, 2, none⟩ (.int .i64 q)).setCell ⟨w.heap.size, 3, none⟩ (.int .i64 st)).setCell ⟨w.heap.size, 4, none⟩ (.slice ab body.length cb)) w.heap.size #[.int .i64 1, .int .i64 s, .int .i64 q, .int .i64 st, .slice ab body.length cb, .int .i64 0, .int .i64 0, .int .i64 0, .int .i64 0] eb #[.int .i64 0]) := B3.out.setI 4 (.slice ab body.length cb)
  have fB5 := B4.out.fzI 5
  have qB5 := fun i => B4.out.cellI i
  have B5 : Hid (Ie w ((((((w2.setCell ⟨w.heap.size, 0, none⟩ (.int .i64 1)).setCell ⟨w.heap.size, 1, none⟩ (.int .i64 s)).setCell ⟨w.heap.size, 2, none⟩ (.int .i64 q)).setCell ⟨w.heap.size, 3, none⟩ (.int .i64 st)).setCell ⟨w.heap.size, 4, none⟩ (.slice ab body.length cb)).setCell ⟨w.heap.size, 5, none⟩ (.int .i64 0)) w.heap.size #[.int .i64 1, .int .i64 s, .int .i64 q, .int .i64 st, .slice ab body.length cb, .int .i64 0, .int .i64 0, .int .i64 0, .int .i64 0] eb #[.int .i64 0]) := B4.out.setI 5 (.int .i64 0)
  have fB6 := B5.out.fzI 6
  have qB6 := fun i => B5.out.cellI i
  have B6 : Hid (Ie w (((((((w2.setCell ⟨w.heap.size, 0, none⟩ (.int .i64 1)).setCell ⟨w.heap.size, 1, none⟩ (.int .i64 s)).setCell ⟨w.heap.size, 2, none⟩ (.int .i64 q)).setCell ⟨w.heap.size, 3, none⟩ (.int .i64 st)).setCell ⟨w.heap.size, 4, none⟩ (.slice ab body.length cb)).setCell ⟨w.heap.size, 5, none⟩ (.int .i64 0)).setCell ⟨w.heap.size, 6, none⟩ (.int .i64 0)) w.heap.size #[.int .i64 1, .int .i64 s, .int .i64 q, .int .i64 st, .slice ab body.length cb, .int .i64 0, .int .i64 0, .int .i64 0, .int .i64 0] eb #[.int .i64 0]) := B5.out.setI 6 (.int .i64 0)
  have fB7 := B6.out.fzI 7
  have qB7 := fun i => B6.out.cellI i
  have B7 : Hid (Ie w ((((((((w2.setCell ⟨w.heap.size, 0, none⟩ (.int .i64 1)).setCell ⟨w.heap.size, 1, none⟩ (.int .i64 s)).setCell ⟨w.heap.size, 2, none⟩ (.int .i64 q)).setCell ⟨w.heap.size, 3, none⟩ (.int .i64 st)).setCell ⟨w.heap.size, 4, none⟩ (.slice ab body.length cb)).setCell ⟨w.heap.size, 5, none⟩ (.int .i64 0)).setCell ⟨w.heap.size, 6, none⟩ (.int .i64 0)).setCell ⟨w.heap.size, 7, none⟩ (.int .i64 0)) w.heap.size #[.int .i64 1, .int .i64 s, .int .i64 q, .int .i64 st, .slice ab body.length cb, .int .i64 0, .int .i64 0, .int .i64 0, .int .i64 0] eb #[.int .i64 0]) := B6.out.setI 7 (.int .i64 0)
  have fB8 := B7.out.fzI 8
  have qB8 := fun i => B7.out.cellI i
  have B8 : Hid (Ie w (((((((((w2.setCell ⟨w.heap.size, 0, none⟩ (.int .i64 1)).setCell ⟨w.heap.size, 1, none⟩ (.int .i64 s)).setCell ⟨w.heap.size, 2, none⟩ (.int .i64 q)).setCell ⟨w.heap.size, 3, none⟩ (.int .i64 st)).setCell ⟨w.heap.size, 4, none⟩ (.slice ab body.length cb)).setCell ⟨w.heap.size, 5, none⟩ (.int .i64 0)).setCell ⟨w.heap.size, 6, none⟩ (.int .i64 0)).setCell ⟨w.heap.size, 7, none⟩ (.int .i64 0)).setCell ⟨w.heap.size, 8, none⟩ (.int .i64 0)) w.heap.size #[.int .i64 1, .int .i64 s, .int .i64 q, .int .i64 st, .slice ab body.length cb, .int .i64 0, .int .i64 0, .int .i64 0, .int .i64 0] eb #[.int .i64 0]) := B7.out.setI 8 (.int .i64 0)
  have R2 : Hid (Rb w2 rb (some ⟨b, off, none⟩) n c a') := hb2
  have R3 : Hid (Rb (((((((((w2.setCell ⟨w.heap.size, 0, none⟩ (.int .i64 1)).setCell ⟨w.heap.size, 1, none⟩ (.int .i64 s)).setCell ⟨w.heap.size, 2, none⟩ (.int .i64 q)).setCell ⟨w.heap.size, 3, none⟩ (.int .i64 st)).setCell ⟨w.heap.size, 4, none⟩ (.slice ab body.length cb)).setCell ⟨w.heap.size, 5, none⟩ (.int .i64 0)).setCell ⟨w.heap.size, 6, none⟩ (.int .i64 0)).setCell ⟨w.heap.size, 7, none⟩ (.int .i64 0)).setCell ⟨w.heap.size, 8, none⟩ (.int .i64 0)) rb (some ⟨b, off, none⟩) n c a') := (rb_set (rb_set (rb_set (rb_set (rb_set (rb_set (rb_set (rb_set (rb_set R2.out g4 0 _) g4 1 _) g4 2 _) g4 3 _) g4 4 _) g4 5 _) g4 6 _) g4 7 _) g4 8 _)
  have O2 : Hid (Own w2 w1.heap.size (.slice ab body.length cb) body) := ho
  have O3 : Hid (Own (((((((((w2.setCell ⟨w.heap.size, 0, none⟩ (.int .i64 1)).setCell ⟨w.heap.size, 1, none⟩ (.int .i64 s)).setCell ⟨w.heap.size, 2, none⟩ (.int .i64 q)).setCell ⟨w.heap.size, 3, none⟩ (.int .i64 st)).setCell ⟨w.heap.size, 4, none⟩ (.slice ab body.length cb)).setCell ⟨w.heap.size, 5, none⟩ (.int .i64 0)).setCell ⟨w.heap.size, 6, none⟩ (.int .i64 0)).setCell ⟨w.heap.size, 7, none⟩ (.int .i64 0)).setCell ⟨w.heap.size, 8, none⟩ (.int .i64 0)) w1.heap.size (.slice ab body.length cb) body) := (own_set (own_set (own_set (own_set (own_set (own_set (own_set (own_set (own_set O2.out g6 0 _) g6 1 _) g6 2 _) g6 3 _) g6 4 _) g6 5 _) g6 6 _) g6 7 _) g6 8 _)
  clear hk2 hb2 ho
  go_wp2_with fail
  have I3 : Hid (Ie w (((((((((w2.setCell ⟨w.heap.size, 0, none⟩ (.int .i64 1)).setCell ⟨w.heap.size, 1, none⟩ (.int .i64 s)).setCell ⟨w.heap.size, 2, none⟩ (.int .i64 q)).setCell ⟨w.heap.size, 3, none⟩ (.int .i64 st)).setCell ⟨w.heap.size, 4, none⟩ (.slice ab body.length cb)).setCell ⟨w.heap.size, 5, none⟩ (.int .i64 0)).setCell ⟨w.heap.size, 6, none⟩ (.int .i64 0)).setCell ⟨w.heap.size, 7, none⟩ (.int .i64 0)).setCell ⟨w.heap.size, 8, none⟩ (.int .i64 0)) w.heap.size #[.int .i64 1, .int .i64 s, .int .i64 q, .int .i64 st, .slice ab body.length cb, .int .i64 0, .int .i64 0, .int .i64 0, .int .i64 0] eb #[.int .i64 0]) := B8
  clear fB0 qB0 B0 fB1 qB1 B1 fB2 qB2 B2 fB3 qB3 B3 fB4 qB4 B4 fB5 qB5 B5 fB6 qB6 B6 fB7 qB7 B7 fB8 qB8 B8 R2 O2 I2
  generalize (((((((((w2.setCell ⟨w.heap.size, 0, none⟩ (.int .i64 1)).setCell ⟨w.heap.size, 1, none⟩ (.int .i64 s)).setCell ⟨w.heap.size, 2, none⟩ (.int .i64 q)).setCell ⟨w.heap.size, 3, none⟩ (.int .i64 st)).setCell ⟨w.heap.size, 4, none⟩ (.slice ab body.length cb)).setCell ⟨w.heap.size, 5, none⟩ (.int .i64 0)).setCell ⟨w.heap.size, 6, none⟩ (.int .i64 0)).setCell ⟨w.heap.size, 7, none⟩ (.int .i64 0)).setCell ⟨w.heap.size, 8, none⟩ (.int .i64 0)) = W3 at *
  refine (end_err rb n c (some ⟨b, off, none⟩) a' W3 R3.out hend).mono ?_
  rintro e w4 ⟨rfl, hk4⟩
  have I4 : Hid (Ie w w4 w.heap.size #[.int .i64 1, .int .i64 s, .int .i64 q, .int .i64 st, .slice ab body.length cb, .int .i64 0, .int .i64 0, .int .i64 0, .int .i64 0] eb #[.int .i64 0]) := I3.out.call hk4 g3 g4 g5
  clear hk4
  unfold boom
  go_wp2_with fail
  refine leaves_cons (f := 33) (args := #[.pointer (some ⟨w.heap.size, 0, none⟩), .pointer (some ⟨eb, 0, none⟩)]) (by simp) (by simp [go_sem]) ?_
  refine (catch_panicking w.heap.size eb (.int .i64 1) (.int .i64 s) (.int .i64 q) (.int .i64 st) (.slice ab body.length cb) (.int .i64 0) (.int .i64 0) (.int .i64 0) (.int .i64 0) (.int .i64 0) (15) [] w4 I4.out.i I4.out.e I4.out.n).mono ?_
  rintro e u' wz ⟨rfl, rfl, hi, he, hk⟩
  have ci := fun i => blk_cell hi i
  have ce := fun i => blk_cell he i
  have HF : Below w.heap.size w wz := (I4.out.below (Nat.le_refl _) g1).trans (hk.below (I4.out.k.size) (fun j hj e => by omega))
  simp [Leaves, settle, results, Try.results10, go_sem, ci, ce]
  exact HF

set_option maxRecDepth 100000 in
set_option maxHeartbeats 4000000 in
theorem dec_data_err (ao : Option Addr) (n c : Nat) (w : World) (bs : List Int) (hr : Rd w ao n c bs) (h0 : n ≠ 0) (h1 : n ≤ 300) (hnc : n ≤ c) (hk : bs.getD 0 0 = 1) (x : Int) (hd : Hid (decD bs 1 = .error x)) :
    Calls Try.prog 10 #[.slice ao n c] w fun e w' => e = .returned (.tuple #[.agg #[.int .i64 0, .int .i64 0, .int .i64 0, .int .i64 0, .slice none 0 0, .int .i64 0, .int .i64 0, .int .i64 0, .int .i64 0], .int .i64 x]) ∧ Below w.heap.size w w' := by
  have hmf : ∀ (fn : Fn) (first cap : Array Value) (w : World), (Instr.makeFunc fn first cap).run Try.prog w = .ok (.func fn first cap) w := fun _ _ _ _ => rfl
  obtain ⟨b, off, rfl, hc⟩ := rd_cell0 hr h0
  have HR : Hid (Rd w (some ⟨b, off, none⟩) n c bs ∧ bs.getD 0 0 = 1) := ⟨hr, hk⟩
  have hpos : 0 < n := by omega
  clear hr hk hc
  go_enter_defers Try.func10, Try.ntmps10
  go_wp2_with fail
  have I0 : Hid (Ie w ((w.alloc (.cells #[.int .i64 0, .int .i64 0, .int .i64 0, .int .i64 0, .slice none 0 0, .int .i64 0, .int .i64 0, .int .i64 0, .int .i64 0] 28)).alloc (.cells #[.int .i64 0] 30)) w.heap.size #[.int .i64 0, .int .i64 0, .int .i64 0, .int .i64 0, .slice none 0 0, .int .i64 0, .int .i64 0, .int .i64 0, .int .i64 0] (w.heap.size + 1) #[.int .i64 0]) := Ie.new w _ _
  have z0 : ((w.alloc (.cells #[.int .i64 0, .int .i64 0, .int .i64 0, .int .i64 0, .slice none 0 0, .int .i64 0, .int .i64 0, .int .i64 0, .int .i64 0] 28)).alloc (.cells #[.int .i64 0] 30)).heap.size = w.heap.size + 1 + 1 := by simp
  generalize (w.alloc (.cells #[.int .i64 0, .int .i64 0, .int .i64 0, .int .i64 0, .slice none 0 0, .int .i64 0, .int .i64 0, .int .i64 0, .int .i64 0] 28)).alloc (.cells #[.int .i64 0] 30) = W0 at *
  have g1 : w.heap.size ≤ w.heap.size + 1 := by omega
  have g2 : w.heap.size + 1 < W0.heap.size := by omega
  generalize w.heap.size + 1 = eb at *
  refine (open_ok (some ⟨b, off, none⟩) n c bs W0 (HR.out.1.below (I0.out.below (Nat.le_refl _) g1)) h0 h1 (by rw [HR.out.2]; decide)).mono ?_
  rintro e w1 ⟨rfl, hb1, hw1⟩
  have I1 : Hid (Ie w w1 w.heap.size #[.int .i64 0, .int .i64 0, .int .i64 0, .int .i64 0, .slice none 0 0, .int .i64 0, .int .i64 0, .int .i64 0, .int .i64 0] eb #[.int .i64 0]) := I0.out.still hw1
  have R1 : Hid (Rb w1 W0.heap.size (some ⟨b, off, none⟩) n c 1) := hb1
  have z1 := hw1.size
  have HW1 : Hid (Below w.heap.size w w1) := I1.out.below (Nat.le_refl _) g1
  obtain ⟨b', off', hx, c1⟩ := rd_cell0 (HR.out.1.below HW1.out) h0
  rw [HR.out.2] at c1
  simp only [Option.some.injEq, Addr.mk.injEq, and_true] at hx
  obtain ⟨rfl, rfl⟩ := hx
  have g3 : w.heap.size ≤ W0.heap.size := by omega
  have g4 : W0.heap.size ≠ w.heap.size := by omega
  have g5 : W0.heap.size ≠ eb := by omega
  have g6 : w.heap.size < w1.heap.size := lt_heap I1.out.i
  have g7 : W0.heap.size < w1.heap.size := lt_heap hb1
  have g8 : eb < w1.heap.size := lt_heap I1.out.e
  generalize W0.heap.size = rb at *
  clear hb1 hw1 I0 z0
  have hw1' : wrap64 1 = 1 := w64 _ (by omega)
  go_wp2_with fail
  refine (witem_data_err w rb n c (some ⟨b, off, none⟩) bs 1 w1 R1.out HR.out.1 HW1.out g3 h1 hnc x hd).mono ?_
  rintro e w2 ⟨rfl, hk2⟩
  have I2 : Hid (Ie w w2 w.heap.size #[.int .i64 0, .int .i64 0, .int .i64 0, .int .i64 0, .slice none 0 0, .int .i64 0, .int .i64 0, .int .i64 0, .int .i64 0] eb #[.int .i64 0]) := I1.out.call hk2 g3 g4 g5
  clear hk2
  unfold boom
  go_wp2_with fail
  refine leaves_cons (f := 33) (args := #[.pointer (some ⟨w.heap.size, 0, none⟩), .pointer (some ⟨eb, 0, none⟩)]) (by simp) (by simp [go_sem]) ?_
  refine (catch_panicking w.heap.size eb (.int .i64 0) (.int .i64 0) (.int .i64 0) (.int .i64 0) (.slice none 0 0) (.int .i64 0) (.int .i64 0) (.int .i64 0) (.int .i64 0) (.int .i64 0) (x) [] w2 I2.out.i I2.out.e I2.out.n).mono ?_
  rintro e u' wz ⟨rfl, rfl, hi, he, hk⟩
  have ci := fun i => blk_cell hi i
  have ce := fun i => blk_cell he i
  have HF : Below w.heap.size w wz := (I2.out.below (Nat.le_refl _) g1).trans (hk.below (I2.out.k.size) (fun j hj e => by omega))
  simp [Leaves, settle, results, Try.results10, go_sem, ci, ce]
  exact HF

set_option maxRecDepth 100000 in
set_option maxHeartbeats 4000000 in
theorem dec_slot (ao : Option Addr) (n c : Nat) (w : World) (bs : List Int) (hr : Rd w ao n c bs) (h0 : n ≠ 0) (h1 : n ≤ 300) (hnc : n ≤ c) (hk : bs.getD 0 0 = 2) (p st2 ss sq : Int) (a1 a2 a3 a4 : Nat) (h2 : Hid (cnt bs 1 1 4611686018427387904 = .ok (p, a1))) (h3 : Hid (cnt bs a1 0 (p - 1) = .ok (st2, a2))) (h4 : Hid (cnt bs a2 0 15 = .ok (ss, a3))) (h5 : Hid (cnt bs a3 1 4611686018427387904 = .ok (sq, a4))) (hend : ¬ a4 < n) :
    Calls Try.prog 10 #[.slice ao n c] w fun e w' => e = .returned (.tuple #[.agg #[.int .i64 2, .int .i64 0, .int .i64 0, .int .i64 0, .slice none 0 0, .int .i64 p, .int .i64 st2, .int .i64 ss, .int .i64 sq], .int .i64 0]) ∧ Below w.heap.size w w' := by
  have hmf : ∀ (fn : Fn) (first cap : Array Value) (w : World), (Instr.makeFunc fn first cap).run Try.prog w = .ok (.func fn first cap) w := fun _ _ _ _ => rfl
  obtain ⟨b, off, rfl, hc⟩ := rd_cell0 hr h0
  have HR : Hid (Rd w (some ⟨b, off, none⟩) n c bs ∧ bs.getD 0 0 = 2) := ⟨hr, hk⟩
  have hpos : 0 < n := by omega
  clear hr hk hc
  go_enter_defers Try.func10, Try.ntmps10
  go_wp2_with fail
  have I0 : Hid (Ie w ((w.alloc (.cells #[.int .i64 0, .int .i64 0, .int .i64 0, .int .i64 0, .slice none 0 0, .int .i64 0, .int .i64 0, .int .i64 0, .int .i64 0] 28)).alloc (.cells #[.int .i64 0] 30)) w.heap.size #[.int .i64 0, .int .i64 0, .int .i64 0, .int .i64 0, .slice none 0 0, .int .i64 0, .int .i64 0, .int .i64 0, .int .i64 0] (w.heap.size + 1) #[.int .i64 0]) := Ie.new w _ _
  have z0 : ((w.alloc (.cells #[.int .i64 0, .int .i64 0, .int .i64 0, .int .i64 0, .slice none 0 0, .int .i64 0, .int .i64 0, .int .i64 0, .int .i64 0] 28)).alloc (.cells #[.int .i64 0] 30)).heap.size = w.heap.size + 1 + 1 := by simp
  generalize (w.alloc (.cells #[.int .i64 0, .int .i64 0, .int .i64 0, .int .i64 0, .slice none 0 0, .int .i64 0, .int .i64 0, .int .i64 0, .int .i64 0] 28)).alloc (.cells #[.int .i64 0] 30) = W0 at *
  have g1 : w.heap.size ≤ w.heap.size + 1 := by omega
  have g2 : w.heap.size + 1 < W0.heap.size := by omega
  generalize w.heap.size + 1 = eb at *
  refine (open_ok (some ⟨b, off, none⟩) n c bs W0 (HR.out.1.below (I0.out.below (Nat.le_refl _) g1)) h0 h1 (by rw [HR.out.2]; decide)).mono ?_
  rintro e w1 ⟨rfl, hb1, hw1⟩
  have I1 : Hid (Ie w w1 w.heap.size #[.int .i64 0, .int .i64 0, .int .i64 0, .int .i64 0, .slice none 0 0, .int .i64 0, .int .i64 0, .int .i64 0, .int .i64 0] eb #[.int .i64 0]) := I0.out.still hw1
  have R1 : Hid (Rb w1 W0.heap.size (some ⟨b, off, none⟩) n c 1) := hb1
  have z1 := hw1.size
  have HW1 : Hid (Below w.heap.size w w1) := I1.out.below (Nat.le_refl _) g1
  obtain ⟨b', off', hx, c1⟩ := rd_cell0 (HR.out.1.below HW1.out) h0
  rw [HR.out.2] at c1
  simp only [Option.some.injEq, Addr.mk.injEq, and_true] at hx
  obtain ⟨rfl, rfl⟩ := hx
  have g3 : w.heap.size ≤ W0.heap.size := by omega
  have g4 : W0.heap.size ≠ w.heap.size := by omega
  have g5 : W0.heap.size ≠ eb := by omega
  have g6 : w.heap.size < w1.heap.size := lt_heap I1.out.i
  have g7 : W0.heap.size < w1.heap.size := lt_heap hb1
  have g8 : eb < w1.heap.size := lt_heap I1.out.e
  generalize W0.heap.size = rb at *
  clear hb1 hw1 I0 z0
  have hw1' : wrap64 2 = 2 := w64 _ (by omega)
  go_wp2_with fail
  refine (witem_slot w rb n c (some ⟨b, off, none⟩) bs 1 w1 R1.out HR.out.1 HW1.out g3 h1 hnc p st2 ss sq a1 a2 a3 a4 h2 h3 h4 h5).mono ?_
  rintro e w2 ⟨rfl, hb2, hk2⟩
  have I2 : Hid (Ie w w2 w.heap.size #[.int .i64 0, .int .i64 0, .int .i64 0, .int .i64 0, .slice none 0 0, .int .i64 0, .int .i64 0, .int .i64 0, .int .i64 0] eb #[.int .i64 0]) := I1.out.call hk2 g3 g4 g5
  have z2 := hk2.size
  have fB0 := I2.out.fzI 0
  have qB0 := fun i => I2.out.cellI i
  have B0 : Hid (Ie w (w2.setCell ⟨w.heap.size, 0, none⟩ (.int .i64 2)) w.heap.size #[.int .i64 2, .int .i64 0, .int .i64 0, .int .i64 0, .slice none 0 0, .int .i64 0, .int .i64 0, .int .i64 0, .int .i64 0] eb #[.int .i64 0]) := I2.out.setI 0 (.int .i64 2)
  have fB1 := B0.out.fzI 1
  have qB1 := fun i => B0.out.cellI i
  have B1 : Hid (Ie w ((w2.setCell ⟨w.heap.size, 0, none⟩ (.int .i64 2)).setCell ⟨w.heap.size, 1, none⟩ (.int .i64 0)) w.heap.size #[.int .i64 2, .int .i64 0, .int .i64 0, .int .i64 0, .slice none 0 0, .int .i64 0, .int .i64 0, .int .i64 0, .int .i64 0] eb #[.int .i64 0]) := B0.out.setI 1 (.int .i64 0)
  have fB2 := B1.out.fzI 2
  have qB2 := fun i => B1.out.cellI i
  have B2 : Hid (Ie w (((w2.setCell ⟨w.heap.size, 0, none⟩ (.int .i64 2)).setCell ⟨w.heap.size, 1, none⟩ (.int .i64 0)).setCell ⟨w.heap.size, 2, none⟩ (.int .i64 0)) w.heap.size #[.int .i64 2, .int .i64 0, .int .i64 0, .int .i64 0, .slice none 0 0, .int .i64 0, .int .i64 0, .int .i64 0, .int .i64 0] eb #[.int .i64 0]) := B1.out.setI 2 (.int .i64 0)
  have fB3 := B2.out.fzI 3
  have qB3 := fun i => B2.out.cellI i
  have B3 : Hid (Ie w ((((w2.setCell ⟨w.heap.size, 0, none⟩ (.int .i64 2)).setCell ⟨w.heap.size, 1, none⟩ (.int .i64 0)).setCell ⟨w.heap.size, 2, none⟩ (.int .i64 0)).setCell ⟨w.heap.size, 3, none⟩ (.int .i64 0)) w.heap.size #[.int .i64 2, .int .i64 0, .int .i64 0, .int .i64 0, .slice none 0 0, .int .i64 0, .int .i64 0, .int .i64 0, .int .i64 0] eb #[.int .i64 0]) := B2.out.setI 3 (.int .i64 0)
  have fB4 := B3.out.fzI 4
  have qB4 := fun i => B3.out.cellI i
  have B4 : Hid (Ie w (((((w2.setCell ⟨w.heap.size, 0, none⟩ (.int .i64 2)).setCell ⟨w.heap.size, 1, none⟩ (.int .i64 0)).setCell ⟨w.heap.size, 2, none⟩ (.int .i64 0)).setCell ⟨w.heap.size, 3, none⟩ (.int .i64 0)).setCell ⟨w.heap.size, 4, none⟩ (.slice none 0 0)) w.heap.size #[.int .i64 2, .int .i64 0, .int .i64 0, .int .i64 0, .slice none 0 0, .int .i64 0, .int .i64 0, .int .i64 0, .int .i64 0] eb #[.int .i64 0]) := B3.out.setI 4 (.slice none 0 0)
  have fB5 := B4.out.fzI 5
  have qB5 := fun i => B4.out.cellI i
  have B5 : Hid (Ie w ((((((w2.setCell ⟨w.heap.size, 0, none⟩ (.int .i64 2)).setCell ⟨w.heap.size, 1, none⟩ (.int .i64 0)).setCell ⟨w.heap.size, 2, none⟩ (.int .i64 0)).setCell ⟨w.heap.size, 3, none⟩ (.int .i64 0)).setCell ⟨w.heap.size, 4, none⟩ (.slice none 0 0)).setCell ⟨w.heap.size, 5, none⟩ (.int .i64 p)) w.heap.size #[.int .i64 2, .int .i64 0, .int .i64 0, .int .i64 0, .slice none 0 0, .int .i64 p, .int .i64 0, .int .i64 0, .int .i64 0] eb #[.int .i64 0]) := B4.out.setI 5 (.int .i64 p)
  have fB6 := B5.out.fzI 6
  have qB6 := fun i => B5.out.cellI i
  have B6 : Hid (Ie w (((((((w2.setCell ⟨w.heap.size, 0, none⟩ (.int .i64 2)).setCell ⟨w.heap.size, 1, none⟩ (.int .i64 0)).setCell ⟨w.heap.size, 2, none⟩ (.int .i64 0)).setCell ⟨w.heap.size, 3, none⟩ (.int .i64 0)).setCell ⟨w.heap.size, 4, none⟩ (.slice none 0 0)).setCell ⟨w.heap.size, 5, none⟩ (.int .i64 p)).setCell ⟨w.heap.size, 6, none⟩ (.int .i64 st2)) w.heap.size #[.int .i64 2, .int .i64 0, .int .i64 0, .int .i64 0, .slice none 0 0, .int .i64 p, .int .i64 st2, .int .i64 0, .int .i64 0] eb #[.int .i64 0]) := B5.out.setI 6 (.int .i64 st2)
  have fB7 := B6.out.fzI 7
  have qB7 := fun i => B6.out.cellI i
  have B7 : Hid (Ie w ((((((((w2.setCell ⟨w.heap.size, 0, none⟩ (.int .i64 2)).setCell ⟨w.heap.size, 1, none⟩ (.int .i64 0)).setCell ⟨w.heap.size, 2, none⟩ (.int .i64 0)).setCell ⟨w.heap.size, 3, none⟩ (.int .i64 0)).setCell ⟨w.heap.size, 4, none⟩ (.slice none 0 0)).setCell ⟨w.heap.size, 5, none⟩ (.int .i64 p)).setCell ⟨w.heap.size, 6, none⟩ (.int .i64 st2)).setCell ⟨w.heap.size, 7, none⟩ (.int .i64 ss)) w.heap.size #[.int .i64 2, .int .i64 0, .int .i64 0, .int .i64 0, .slice none 0 0, .int .i64 p, .int .i64 st2, .int .i64 ss, .int .i64 0] eb #[.int .i64 0]) := B6.out.setI 7 (.int .i64 ss)
  have fB8 := B7.out.fzI 8
  have qB8 := fun i => B7.out.cellI i
  have B8 : Hid (Ie w (((((((((w2.setCell ⟨w.heap.size, 0, none⟩ (.int .i64 2)).setCell ⟨w.heap.size, 1, none⟩ (.int .i64 0)).setCell ⟨w.heap.size, 2, none⟩ (.int .i64 0)).setCell ⟨w.heap.size, 3, none⟩ (.int .i64 0)).setCell ⟨w.heap.size, 4, none⟩ (.slice none 0 0)).setCell ⟨w.heap.size, 5, none⟩ (.int .i64 p)).setCell ⟨w.heap.size, 6, none⟩ (.int .i64 st2)).setCell ⟨w.heap.size, 7, none⟩ (.int .i64 ss)).setCell ⟨w.heap.size, 8, none⟩ (.int .i64 sq)) w.heap.size #[.int .i64 2, .int .i64 0, .int .i64 0, .int .i64 0, .slice none 0 0, .int .i64 p, .int .i64 st2, .int .i64 ss, .int .i64 sq] eb #[.int .i64 0]) := B7.out.setI 8 (.int .i64 sq)
  have R2 : Hid (Rb w2 rb (some ⟨b, off, none⟩) n c a4) := hb2
  have R3 : Hid (Rb (((((((((w2.setCell ⟨w.heap.size, 0, none⟩ (.int .i64 2)).setCell ⟨w.heap.size, 1, none⟩ (.int .i64 0)).setCell ⟨w.heap.size, 2, none⟩ (.int .i64 0)).setCell ⟨w.heap.size, 3, none⟩ (.int .i64 0)).setCell ⟨w.heap.size, 4, none⟩ (.slice none 0 0)).setCell ⟨w.heap.size, 5, none⟩ (.int .i64 p)).setCell ⟨w.heap.size, 6, none⟩ (.int .i64 st2)).setCell ⟨w.heap.size, 7, none⟩ (.int .i64 ss)).setCell ⟨w.heap.size, 8, none⟩ (.int .i64 sq)) rb (some ⟨b, off, none⟩) n c a4) := (rb_set (rb_set (rb_set (rb_set (rb_set (rb_set (rb_set (rb_set (rb_set R2.out g4 0 _) g4 1 _) g4 2 _) g4 3 _) g4 4 _) g4 5 _) g4 6 _) g4 7 _) g4 8 _)
  clear hk2 hb2 
  go_wp2_with fail
  have I3 : Hid (Ie w (((((((((w2.setCell ⟨w.heap.size, 0, none⟩ (.int .i64 2)).setCell ⟨w.heap.size, 1, none⟩ (.int .i64 0)).setCell ⟨w.heap.size, 2, none⟩ (.int .i64 0)).setCell ⟨w.heap.size, 3, none⟩ (.int .i64 0)).setCell ⟨w.heap.size, 4, none⟩ (.slice none 0 0)).setCell ⟨w.heap.size, 5, none⟩ (.int .i64 p)).setCell ⟨w.heap.size, 6, none⟩ (.int .i64 st2)).setCell ⟨w.heap.size, 7, none⟩ (.int .i64 ss)).setCell ⟨w.heap.size, 8, none⟩ (.int .i64 sq)) w.heap.size #[.int .i64 2, .int .i64 0, .int .i64 0, .int .i64 0, .slice none 0 0, .int .i64 p, .int .i64 st2, .int .i64 ss, .int .i64 sq] eb #[.int .i64 0]) := B8
  clear fB0 qB0 B0 fB1 qB1 B1 fB2 qB2 B2 fB3 qB3 B3 fB4 qB4 B4 fB5 qB5 B5 fB6 qB6 B6 fB7 qB7 B7 fB8 qB8 B8 R2  I2
  generalize (((((((((w2.setCell ⟨w.heap.size, 0, none⟩ (.int .i64 2)).setCell ⟨w.heap.size, 1, none⟩ (.int .i64 0)).setCell ⟨w.heap.size, 2, none⟩ (.int .i64 0)).setCell ⟨w.heap.size, 3, none⟩ (.int .i64 0)).setCell ⟨w.heap.size, 4, none⟩ (.slice none 0 0)).setCell ⟨w.heap.size, 5, none⟩ (.int .i64 p)).setCell ⟨w.heap.size, 6, none⟩ (.int .i64 st2)).setCell ⟨w.heap.size, 7, none⟩ (.int .i64 ss)).setCell ⟨w.heap.size, 8, none⟩ (.int .i64 sq)) = W3 at *
  refine (end_ok rb n c (some ⟨b, off, none⟩) a4 W3 R3.out hend).mono ?_
  rintro e w4 ⟨rfl, hk4⟩
  have I4 : Hid (Ie w w4 w.heap.size #[.int .i64 2, .int .i64 0, .int .i64 0, .int .i64 0, .slice none 0 0, .int .i64 p, .int .i64 st2, .int .i64 ss, .int .i64 sq] eb #[.int .i64 0]) := I3.out.call hk4 g3 g4 g5
  have p4 := fun i => I4.out.cellI i
  have fC0 := I4.out.fzI 0
  have qC0 := fun i => I4.out.cellI i
  have C0 : Hid (Ie w (w4.setCell ⟨w.heap.size, 0, none⟩ (.int .i64 2)) w.heap.size #[.int .i64 2, .int .i64 0, .int .i64 0, .int .i64 0, .slice none 0 0, .int .i64 p, .int .i64 st2, .int .i64 ss, .int .i64 sq] eb #[.int .i64 0]) := I4.out.setI 0 (.int .i64 2)
  have fC1 := C0.out.fzI 1
  have qC1 := fun i => C0.out.cellI i
  have C1 : Hid (Ie w ((w4.setCell ⟨w.heap.size, 0, none⟩ (.int .i64 2)).setCell ⟨w.heap.size, 1, none⟩ (.int .i64 0)) w.heap.size #[.int .i64 2, .int .i64 0, .int .i64 0, .int .i64 0, .slice none 0 0, .int .i64 p, .int .i64 st2, .int .i64 ss, .int .i64 sq] eb #[.int .i64 0]) := C0.out.setI 1 (.int .i64 0)
  have fC2 := C1.out.fzI 2
  have qC2 := fun i => C1.out.cellI i
  have C2 : Hid (Ie w (((w4.setCell ⟨w.heap.size, 0, none⟩ (.int .i64 2)).setCell ⟨w.heap.size, 1, none⟩ (.int .i64 0)).setCell ⟨w.heap.size, 2, none⟩ (.int .i64 0)) w.heap.size #[.int .i64 2, .int .i64 0, .int .i64 0, .int .i64 0, .slice none 0 0, .int .i64 p, .int .i64 st2, .int .i64 ss, .int .i64 sq] eb #[.int .i64 0]) := C1.out.setI 2 (.int .i64 0)
  have fC3 := C2.out.fzI 3
  have qC3 := fun i => C2.out.cellI i
  have C3 : Hid (Ie w ((((w4.setCell ⟨w.heap.size, 0, none⟩ (.int .i64 2)).setCell ⟨w.heap.size, 1, none⟩ (.int .i64 0)).setCell ⟨w.heap.size, 2, none⟩ (.int .i64 0)).setCell ⟨w.heap.size, 3, none⟩ (.int .i64 0)) w.heap.size #[.int .i64 2, .int .i64 0, .int .i64 0, .int .i64 0, .slice none 0 0, .int .i64 p, .int .i64 st2, .int .i64 ss, .int .i64 sq] eb #[.int .i64 0]) := C2.out.setI 3 (.int .i64 0)
  have fC4 := C3.out.fzI 4
  have qC4 := fun i => C3.out.cellI i
  have C4 : Hid (Ie w (((((w4.setCell ⟨w.heap.size, 0, none⟩ (.int .i64 2)).setCell ⟨w.heap.size, 1, none⟩ (.int .i64 0)).setCell ⟨w.heap.size, 2, none⟩ (.int .i64 0)).setCell ⟨w.heap.size, 3, none⟩ (.int .i64 0)).setCell ⟨w.heap.size, 4, none⟩ (.slice none 0 0)) w.heap.size #[.int .i64 2, .int .i64 0, .int .i64 0, .int .i64 0, .slice none 0 0, .int .i64 p, .int .i64 st2, .int .i64 ss, .int .i64 sq] eb #[.int .i64 0]) := C3.out.setI 4 (.slice none 0 0)
  have fC5 := C4.out.fzI 5
  have qC5 := fun i => C4.out.cellI i
  have C5 : Hid (Ie w ((((((w4.setCell ⟨w.heap.size, 0, none⟩ (.int .i64 2)).setCell ⟨w.heap.size, 1, none⟩ (.int .i64 0)).setCell ⟨w.heap.size, 2, none⟩ (.int .i64 0)).setCell ⟨w.heap.size, 3, none⟩ (.int .i64 0)).setCell ⟨w.heap.size, 4, none⟩ (.slice none 0 0)).setCell ⟨w.heap.size, 5, none⟩ (.int .i64 p)) w.heap.size #[.int .i64 2, .int .i64 0, .int .i64 0, .int .i64 0, .slice none 0 0, .int .i64 p, .int .i64 st2, .int .i64 ss, .int .i64 sq] eb #[.int .i64 0]) := C4.out.setI 5 (.int .i64 p)
  have fC6 := C5.out.fzI 6
  have qC6 := fun i => C5.out.cellI i
  have C6 : Hid (Ie w (((((((w4.setCell ⟨w.heap.size, 0, none⟩ (.int .i64 2)).setCell ⟨w.heap.size, 1, none⟩ (.int .i64 0)).setCell ⟨w.heap.size, 2, none⟩ (.int .i64 0)).setCell ⟨w.heap.size, 3, none⟩ (.int .i64 0)).setCell ⟨w.heap.size, 4, none⟩ (.slice none 0 0)).setCell ⟨w.heap.size, 5, none⟩ (.int .i64 p)).setCell ⟨w.heap.size, 6, none⟩ (.int .i64 st2)) w.heap.size #[.int .i64 2, .int .i64 0, .int .i64 0, .int .i64 0, .slice none 0 0, .int .i64 p, .int .i64 st2, .int .i64 ss, .int .i64 sq] eb #[.int .i64 0]) := C5.out.setI 6 (.int .i64 st2)
  have fC7 := C6.out.fzI 7
  have qC7 := fun i => C6.out.cellI i
  have C7 : Hid (Ie w ((((((((w4.setCell ⟨w.heap.size, 0, none⟩ (.int .i64 2)).setCell ⟨w.heap.size, 1, none⟩ (.int .i64 0)).setCell ⟨w.heap.size, 2, none⟩ (.int .i64 0)).setCell ⟨w.heap.size, 3, none⟩ (.int .i64 0)).setCell ⟨w.heap.size, 4, none⟩ (.slice none 0 0)).setCell ⟨w.heap.size, 5, none⟩ (.int .i64 p)).setCell ⟨w.heap.size, 6, none⟩ (.int .i64 st2)).setCell ⟨w.heap.size, 7, none⟩ (.int .i64 ss)) w.heap.size #[.int .i64 2, .int .i64 0, .int .i64 0, .int .i64 0, .slice none 0 0, .int .i64 p, .int .i64 st2, .int .i64 ss, .int .i64 sq] eb #[.int .i64 0]) := C6.out.setI 7 (.int .i64 ss)
  have fC8 := C7.out.fzI 8
  have qC8 := fun i => C7.out.cellI i
  have C8 : Hid (Ie w (((((((((w4.setCell ⟨w.heap.size, 0, none⟩ (.int .i64 2)).setCell ⟨w.heap.size, 1, none⟩ (.int .i64 0)).setCell ⟨w.heap.size, 2, none⟩ (.int .i64 0)).setCell ⟨w.heap.size, 3, none⟩ (.int .i64 0)).setCell ⟨w.heap.size, 4, none⟩ (.slice none 0 0)).setCell ⟨w.heap.size, 5, none⟩ (.int .i64 p)).setCell ⟨w.heap.size, 6, none⟩ (.int .i64 st2)).setCell ⟨w.heap.size, 7, none⟩ (.int .i64 ss)).setCell ⟨w.heap.size, 8, none⟩ (.int .i64 sq)) w.heap.size #[.int .i64 2, .int .i64 0, .int .i64 0, .int .i64 0, .slice none 0 0, .int .i64 p, .int .i64 st2, .int .i64 ss, .int .i64 sq] eb #[.int .i64 0]) := C7.out.setI 8 (.int .i64 sq)
  have fe := C8.out.fzE 0
  have qe := fun i => C8.out.cellE i
  have IF : Hid (Ie w ((((((((((w4.setCell ⟨w.heap.size, 0, none⟩ (.int .i64 2)).setCell ⟨w.heap.size, 1, none⟩ (.int .i64 0)).setCell ⟨w.heap.size, 2, none⟩ (.int .i64 0)).setCell ⟨w.heap.size, 3, none⟩ (.int .i64 0)).setCell ⟨w.heap.size, 4, none⟩ (.slice none 0 0)).setCell ⟨w.heap.size, 5, none⟩ (.int .i64 p)).setCell ⟨w.heap.size, 6, none⟩ (.int .i64 st2)).setCell ⟨w.heap.size, 7, none⟩ (.int .i64 ss)).setCell ⟨w.heap.size, 8, none⟩ (.int .i64 sq)).setCell ⟨eb, 0, none⟩ (.int .i64 0)) w.heap.size #[.int .i64 2, .int .i64 0, .int .i64 0, .int .i64 0, .slice none 0 0, .int .i64 p, .int .i64 st2, .int .i64 ss, .int .i64 sq] eb #[.int .i64 0]) := C8.out.setE 0 (.int .i64 0)
  have ci := fun i => IF.out.cellI i
  have ce := fun i => IF.out.cellE i
  clear hk4
  go_wp2_with fail
  refine leaves_cons (f := 33) (args := #[.pointer (some ⟨w.heap.size, 0, none⟩), .pointer (some ⟨eb, 0, none⟩)]) (by simp) (by simp [go_sem]) ?_
  refine (catch_idle ⟨w.heap.size, 0, none⟩ ⟨eb, 0, none⟩ _).mono ?_
  rintro e u' wz ⟨rfl, rfl, rfl⟩
  refine ⟨.tuple #[.agg #[.int .i64 2, .int .i64 0, .int .i64 0, .int .i64 0, .slice none 0 0, .int .i64 p, .int .i64 st2, .int .i64 ss, .int .i64 sq], .int .i64 0], (by simp [results, Try.results10, go_sem, ci, ce]), rfl, IF.out.below (Nat.le_refl _) g1⟩

set_option maxRecDepth 100000 in
set_option maxHeartbeats 4000000 in
theorem dec_slot_tail (ao : Option Addr) (n c : Nat) (w : World) (bs : List Int) (hr : Rd w ao n c bs) (h0 : n ≠ 0) (h1 : n ≤ 300) (hnc : n ≤ c) (hk : bs.getD 0 0 = 2) (p st2 ss sq : Int) (a1 a2 a3 a4 : Nat) (h2 : Hid (cnt bs 1 1 4611686018427387904 = .ok (p, a1))) (h3 : Hid (cnt bs a1 0 (p - 1) = .ok (st2, a2))) (h4 : Hid (cnt bs a2 0 15 = .ok (ss, a3))) (h5 : Hid (cnt bs a3 1 4611686018427387904 = .ok (sq, a4))) (hend : a4 < n) :
    Calls Try.prog 10 #[.slice ao n c] w fun e w' => e = .returned (.tuple #[.agg #[.int .i64 0, .int .i64 0, .int .i64 0, .int .i64 0, .slice none 0 0, .int .i64 0, .int .i64 0, .int .i64 0, .int .i64 0], .int .i64 15]) ∧ Below w.heap.size w w' := by
  have hmf : ∀ (fn : Fn) (first cap : Array Value) (w : World), (Instr.makeFunc fn first cap).run Try.prog w = .ok (.func fn first cap) w := fun _ _ _ _ => rfl
  obtain ⟨b, off, rfl, hc⟩ := rd_cell0 hr h0
  have HR : Hid (Rd w (some ⟨b, off, none⟩) n c bs ∧ bs.getD 0 0 = 2) := ⟨hr, hk⟩
  have hpos : 0 < n := by omega
  clear hr hk hc
  go_enter_defers Try.func10, Try.ntmps10
  go_wp2_with fail
  have I0 : Hid (Ie w ((w.alloc (.cells #[.int .i64 0, .int .i64 0, .int .i64 0, .int .i64 0, .slice none 0 0, .int .i64 0, .int .i64 0, .int .i64 0, .int .i64 0] 28)).alloc (.cells #[.int .i64 0] 30)) w.heap.size #[.int .i64 0, .int .i64 0, .int .i64 0, .int .i64 0, .slice none 0 0, .int .i64 0, .int .i64 0, .int .i64 0, .int .i64 0] (w.heap.size + 1) #[.int .i64 0]) := Ie.new w _ _
  have z0 : ((w.alloc (.cells #[.int .i64 0, .int .i64 0, .int .i64 0, .int .i64 0, .slice none 0 0, .int .i64 0, .int .i64 0, .int .i64 0, .int .i64 0] 28)).alloc (.cells #[.int .i64 0] 30)).heap.size = w.heap.size + 1 + 1 := by simp
  generalize (w.alloc (.cells #[.int .i64 0, .int .i64 0, .int .i64 0, .int .i64 0, .slice none 0 0, .int .i64 0, .int .i64 0, .int .i64 0, .int .i64 0] 28)).alloc (.cells #[.int .i64 0] 30) = W0 at *
  have g1 : w.heap.size ≤ w.heap.size + 1 := by omega
  have g2 : w.heap.size + 1 < W0.heap.size := by omega
  generalize w.heap.size + 1 = eb at *
  refine (open_ok (some ⟨b, off, none⟩) n c bs W0 (HR.out.1.below (I0.out.below (Nat.le_refl _) g1)) h0 h1 (by rw [HR.out.2]; decide)).mono ?_
  rintro e w1 ⟨rfl, hb1, hw1⟩
  have I1 : Hid (Ie w w1 w.heap.size #[.int .i64 0, .int .i64 0, .int .i64 0, .int .i64 0, .slice none 0 0, .int .i64 0, .int .i64 0, .int .i64 0, .int .i64 0] eb #[.int .i64 0]) := I0.out.still hw1
  have R1 : Hid (Rb w1 W0.heap.size (some ⟨b, off, none⟩) n c 1) := hb1
  have z1 := hw1.size
  have HW1 : Hid (Below w.heap.size w w1) := I1.out.below (Nat.le_refl _) g1
  obtain ⟨b', off', hx, c1⟩ := rd_cell0 (HR.out.1.below HW1.out) h0
  rw [HR.out.2] at c1
  simp only [Option.some.injEq, Addr.mk.injEq, and_true] at hx
  obtain ⟨rfl, rfl⟩ := hx
  have g3 : w.heap.size ≤ W0.heap.size := by omega
  have g4 : W0.heap.size ≠ w.heap.size := by omega
  have g5 : W0.heap.size ≠ eb := by omega
  have g6 : w.heap.size < w1.heap.size := lt_heap I1.out.i
  have g7 : W0.heap.size < w1.heap.size := lt_heap hb1
  have g8 : eb < w1.heap.size := lt_heap I1.out.e
  generalize W0.heap.size = rb at *
  clear hb1 hw1 I0 z0
  have hw1' : wrap64 2 = 2 := w64 _ (by omega)
  go_wp2_with fail
  refine (witem_slot w rb n c (some ⟨b, off, none⟩) bs 1 w1 R1.out HR.out.1 HW1.out g3 h1 hnc p st2 ss sq a1 a2 a3 a4 h2 h3 h4 h5).mono ?_
  rintro e w2 ⟨rfl, hb2, hk2⟩
  have I2 : Hid (Ie w w2 w.heap.size #[.int .i64 0, .int .i64 0, .int .i64 0, .int .i64 0, .slice none 0 0, .int .i64 0, .int .i64 0, .int .i64 0, .int .i64 0] eb #[.int .i64 0]) := I1.out.call hk2 g3 g4 g5
  have z2 := hk2.size
  have fB0 := I2.out.fzI 0
  have qB0 := fun i => I2.out.cellI i
  have B0 : Hid (Ie w (w2.setCell ⟨w.heap.size, 0, none⟩ (.int .i64 2)) w.heap.size #[.int .i64 2, .int .i64 0, .int .i64 0, .int .i64 0, .slice none 0 0, .int .i64 0, .int .i64 0, .int .i64 0, .int .i64 0] eb #[.int .i64 0]) := I2.out.setI 0 (.int .i64 2)
  have fB1 := B0.out.fzI 1
  have qB1 := fun i => B0.out.cellI i
  have B1 : Hid (Ie w ((w2.setCell ⟨w.heap.size, 0, none⟩ (.int .i64 2)).setCell ⟨w.heap.size, 1, none⟩ (.int .i64 0)) w.heap.size #[.int .i64 2, .int .i64 0, .int .i64 0, .int .i64 0, .slice none 0 0, .int .i64 0, .int .i64 0, .int .i64 0, .int .i64 0] eb #[.int .i64 0]) := B0.out.setI 1 (.int .i64 0)
  have fB2 := B1.out.fzI 2
  have qB2 := fun i => B1.out.cellI i
  have B2 : Hid (Ie w (((w2.setCell ⟨w.heap.size, 0, none⟩ (.int .i64 2)).setCell ⟨w.heap.size, 1, none⟩ (.int .i64 0)).setCell ⟨w.heap.size, 2, none⟩ (.int .i64 0)) w.heap.size #[.int .i64 2, .int .i64 0, .int .i64 0, .int .i64 0, .slice none 0 0, .int .i64 0, .int .i64 0, .int .i64 0, .int .i64 0] eb #[.int .i64 0]) := B1.out.setI 2 (.int .i64 0)
  have fB3 := B2.out.fzI 3
  have qB3 := fun i => B2.out.cellI i
  have B3 : Hid (Ie w ((((w2.setCell ⟨w.heap.size, 0, none⟩ (.int .i64 2)).setCell ⟨w.heap.size, 1, none⟩ (.int .i64 0)).setCell ⟨w.heap.size, 2, none⟩ (.int .i64 0)).setCell ⟨w.heap.size, 3, none⟩ (.int .i64 0)) w.heap.size #[.int .i64 2, .int .i64 0, .int .i64 0, .int .i64 0, .slice none 0 0, .int .i64 0, .int .i64 0, .int .i64 0, .int .i64 0] eb #[.int .i64 0]) := B2.out.setI 3 (.int .i64 0)
  have fB4 := B3.out.fzI 4
  have qB4 := fun i => B3.out.cellI i
  have B4 : Hid (Ie w (((((w2.setCell ⟨w.heap.size, 0, none⟩ (.int .i64 2)).setCell ⟨w.heap.size, 1, none⟩ (.int .i64 0)).setCell ⟨w.heap.size, 2, none⟩ (.int .i64 0)).setCell ⟨w.heap.size, 3, none⟩ (.int .i64 0)).setCell ⟨w.heap.size, 4, none⟩ (.slice none 0 0)) w.heap.size #[.int .i64 2, .int .i64 0, .int .i64 0, .int .i64 0, .slice none 0 0, .int .i64 0, .int .i64 0, .int .i64 0, .int .i64 0] eb #[.int .i64 0]) := B3.out.setI 4 (.slice none 0 0)
  have fB5 := B4.out.fzI 5
  have qB5 := fun i => B4.out.cellI i
  have B5 : Hid (Ie w ((((((w2.setCell ⟨w.heap.size, 0, none⟩ (.int .i64 2)).setCell ⟨w.heap.size, 1, none⟩ (.int .i64 0)).setCell ⟨w.heap.size, 2, none⟩ (.int .i64 0)).setCell ⟨w.heap.size, 3, none⟩ (.int .i64 0)).setCell ⟨w.heap.size, 4, none⟩ (.slice none 0 0)).setCell ⟨w.heap.size, 5, none⟩ (.int .i64 p)) w.heap.size #[.int .i64 2, .int .i64 0, .int .i64 0, .int .i64 0, .slice none 0 0, .int .i64 p, .int .i64 0, .int .i64 0, .int .i64 0] eb #[.int .i64 0]) := B4.out.setI 5 (.int .i64 p)
  have fB6 := B5.out.fzI 6
  have qB6 := fun i => B5.out.cellI i
  have B6 : Hid (Ie w (((((((w2.setCell ⟨w.heap.size, 0, none⟩ (.int .i64 2)).setCell ⟨w.heap.size, 1, none⟩ (.int .i64 0)).setCell ⟨w.heap.size, 2, none⟩ (.int .i64 0)).setCell ⟨w.heap.size, 3, none⟩ (.int .i64 0)).setCell ⟨w.heap.size, 4, none⟩ (.slice none 0 0)).setCell ⟨w.heap.size, 5, none⟩ (.int .i64 p)).setCell ⟨w.heap.size, 6, none⟩ (.int .i64 st2)) w.heap.size #[.int .i64 2, .int .i64 0, .int .i64 0, .int .i64 0, .slice none 0 0, .int .i64 p, .int .i64 st2, .int .i64 0, .int .i64 0] eb #[.int .i64 0]) := B5.out.setI 6 (.int .i64 st2)
  have fB7 := B6.out.fzI 7
  have qB7 := fun i => B6.out.cellI i
  have B7 : Hid (Ie w ((((((((w2.setCell ⟨w.heap.size, 0, none⟩ (.int .i64 2)).setCell ⟨w.heap.size, 1, none⟩ (.int .i64 0)).setCell ⟨w.heap.size, 2, none⟩ (.int .i64 0)).setCell ⟨w.heap.size, 3, none⟩ (.int .i64 0)).setCell ⟨w.heap.size, 4, none⟩ (.slice none 0 0)).setCell ⟨w.heap.size, 5, none⟩ (.int .i64 p)).setCell ⟨w.heap.size, 6, none⟩ (.int .i64 st2)).setCell ⟨w.heap.size, 7, none⟩ (.int .i64 ss)) w.heap.size #[.int .i64 2, .int .i64 0, .int .i64 0, .int .i64 0, .slice none 0 0, .int .i64 p, .int .i64 st2, .int .i64 ss, .int .i64 0] eb #[.int .i64 0]) := B6.out.setI 7 (.int .i64 ss)
  have fB8 := B7.out.fzI 8
  have qB8 := fun i => B7.out.cellI i
  have B8 : Hid (Ie w (((((((((w2.setCell ⟨w.heap.size, 0, none⟩ (.int .i64 2)).setCell ⟨w.heap.size, 1, none⟩ (.int .i64 0)).setCell ⟨w.heap.size, 2, none⟩ (.int .i64 0)).setCell ⟨w.heap.size, 3, none⟩ (.int .i64 0)).setCell ⟨w.heap.size, 4, none⟩ (.slice none 0 0)).setCell ⟨w.heap.size, 5, none⟩ (.int .i64 p)).setCell ⟨w.heap.size, 6, none⟩ (.int .i64 st2)).setCell ⟨w.heap.size, 7, none⟩ (.int .i64 ss)).setCell ⟨w.heap.size, 8, none⟩ (.int .i64 sq)) w.heap.size #[.int .i64 2, .int .i64 0, .int .i64 0, .int .i64 0, .slice none 0 0, .int .i64 p, .int .i64 st2, .int .i64 ss, .int .i64 sq] eb #[.int .i64 0]) := B7.out.setI 8 (.int .i64 sq)
  have R2 : Hid (Rb w2 rb (some ⟨b, off, none⟩) n c a4) := hb2
  have R3 : Hid (Rb (((((((((w2.setCell ⟨w.heap.size, 0, none⟩ (.int .i64 2)).setCell ⟨w.heap.size, 1, none⟩ (.int .i64 0)).setCell ⟨w.heap.size, 2, none⟩ (.int .i64 0)).setCell ⟨w.heap.size, 3, none⟩ (.int .i64 0)).setCell ⟨w.heap.size, 4, none⟩ (.slice none 0 0)).setCell ⟨w.heap.size, 5, none⟩ (.int .i64 p)).setCell ⟨w.heap.size, 6, none⟩ (.int .i64 st2)).setCell ⟨w.heap.size, 7, none⟩ (.int .i64 ss)).setCell ⟨w.heap.size, 8, none⟩ (.int .i64 sq)) rb (some ⟨b, off, none⟩) n c a4) := (rb_set (rb_set (rb_set (rb_set (rb_set (rb_set (rb_set (rb_set (rb_set R2.out g4 0 _) g4 1 _) g4 2 _) g4 3 _) g4 4 _) g4 5 _) g4 6 _) g4 7 _) g4 8 _)
  clear hk2 hb2 
  go_wp2_with fail
  have I3 : Hid (Ie w (((((((((w2.setCell ⟨w.heap.size, 0, none⟩ (.int .i64 2)).setCell ⟨w.heap.size, 1, none⟩ (.int .i64 0)).setCell ⟨w.heap.size, 2, none⟩ (.int .i64 0)).setCell ⟨w.heap.size, 3, none⟩ (.int .i64 0)).setCell ⟨w.heap.size, 4, none⟩ (.slice none 0 0)).setCell ⟨w.heap.size, 5, none⟩ (.int .i64 p)).setCell ⟨w.heap.size, 6, none⟩ (.int .i64 st2)).setCell ⟨w.heap.size, 7, none⟩ (.int .i64 ss)).setCell ⟨w.heap.size, 8, none⟩ (.int .i64 sq)) w.heap.size #[.int .i64 2, .int .i64 0, .int .i64 0, .int .i64 0, .slice none 0 0, .int .i64 p, .int .i64 st2, .int .i64 ss, .int .i64 sq] eb #[.int .i64 0]) := B8
  clear fB0 qB0 B0 fB1 qB1 B1 fB2 qB2 B2 fB3 qB3 B3 fB4 qB4 B4 fB5 qB5 B5 fB6 qB6 B6 fB7 qB7 B7 fB8 qB8 B8 R2  I2
  generalize (((((((((w2.setCell ⟨w.heap.size, 0, none⟩ (.int .i64 2)).setCell ⟨w.heap.size, 1, none⟩ (.int .i64 0)).setCell ⟨w.heap.size, 2, none⟩ (.int .i64 0)).setCell ⟨w.heap.size, 3, none⟩ (.int .i64 0)).setCell ⟨w.heap.size, 4, none⟩ (.slice none 0 0)).setCell ⟨w.heap.size, 5, none⟩ (.int .i64 p)).setCell ⟨w.heap.size, 6, none⟩ (.int .i64 st2)).setCell ⟨w.heap.size, 7, none⟩ (.int .i64 ss)).setCell ⟨w.heap.size, 8, none⟩ (.int .i64 sq)) = W3 at *
  refine (end_err rb n c (some ⟨b, off, none⟩) a4 W3 R3.out hend).mono ?_
  rintro e w4 ⟨rfl, hk4⟩
  have I4 : Hid (Ie w w4 w.heap.size #[.int .i64 2, .int .i64 0, .int .i64 0, .int .i64 0, .slice none 0 0, .int .i64 p, .int .i64 st2, .int .i64 ss, .int .i64 sq] eb #[.int .i64 0]) := I3.out.call hk4 g3 g4 g5
  clear hk4
  unfold boom
  go_wp2_with fail
  refine leaves_cons (f := 33) (args := #[.pointer (some ⟨w.heap.size, 0, none⟩), .pointer (some ⟨eb, 0, none⟩)]) (by simp) (by simp [go_sem]) ?_
  refine (catch_panicking w.heap.size eb (.int .i64 2) (.int .i64 0) (.int .i64 0) (.int .i64 0) (.slice none 0 0) (.int .i64 p) (.int .i64 st2) (.int .i64 ss) (.int .i64 sq) (.int .i64 0) (15) [] w4 I4.out.i I4.out.e I4.out.n).mono ?_
  rintro e u' wz ⟨rfl, rfl, hi, he, hk⟩
  have ci := fun i => blk_cell hi i
  have ce := fun i => blk_cell he i
  have HF : Below w.heap.size w wz := (I4.out.below (Nat.le_refl _) g1).trans (hk.below (I4.out.k.size) (fun j hj e => by omega))
  simp [Leaves, settle, results, Try.results10, go_sem, ci, ce]
  exact HF

set_option maxRecDepth 100000 in
set_option maxHeartbeats 4000000 in
theorem dec_slot_err0 (ao : Option Addr) (n c : Nat) (w : World) (bs : List Int) (hr : Rd w ao n c bs) (h0 : n ≠ 0) (h1 : n ≤ 300) (hnc : n ≤ c) (hk : bs.getD 0 0 = 2) (x : Int) (h2 : Hid (cnt bs 1 1 4611686018427387904 = .error x)) :
    Calls Try.prog 10 #[.slice ao n c] w fun e w' => e = .returned (.tuple #[.agg #[.int .i64 0, .int .i64 0, .int .i64 0, .int .i64 0, .slice none 0 0, .int .i64 0, .int .i64 0, .int .i64 0, .int .i64 0], .int .i64 x]) ∧ Below w.heap.size w w' := by
  have hmf : ∀ (fn : Fn) (first cap : Array Value) (w : World), (Instr.makeFunc fn first cap).run Try.prog w = .ok (.func fn first cap) w := fun _ _ _ _ => rfl
  obtain ⟨b, off, rfl, hc⟩ := rd_cell0 hr h0
  have HR : Hid (Rd w (some ⟨b, off, none⟩) n c bs ∧ bs.getD 0 0 = 2) := ⟨hr, hk⟩
  have hpos : 0 < n := by omega
  clear hr hk hc
  go_enter_defers Try.func10, Try.ntmps10
  go_wp2_with fail
  have I0 : Hid (Ie w ((w.alloc (.cells #[.int .i64 0, .int .i64 0, .int .i64 0, .int .i64 0, .slice none 0 0, .int .i64 0, .int .i64 0, .int .i64 0, .int .i64 0] 28)).alloc (.cells #[.int .i64 0] 30)) w.heap.size #[.int .i64 0, .int .i64 0, .int .i64 0, .int .i64 0, .slice none 0 0, .int .i64 0, .int .i64 0, .int .i64 0, .int .i64 0] (w.heap.size + 1) #[.int .i64 0]) := Ie.new w _ _
  have z0 : ((w.alloc (.cells #[.int .i64 0, .int .i64 0, .int .i64 0, .int .i64 0, .slice none 0 0, .int .i64 0, .int .i64 0, .int .i64 0, .int .i64 0] 28)).alloc (.cells #[.int .i64 0] 30)).heap.size = w.heap.size + 1 + 1 := by simp
  generalize (w.alloc (.cells #[.int .i64 0, .int .i64 0, .int .i64 0, .int .i64 0, .slice none 0 0, .int .i64 0, .int .i64 0, .int .i64 0, .int .i64 0] 28)).alloc (.cells #[.int .i64 0] 30) = W0 at *
  have g1 : w.heap.size ≤ w.heap.size + 1 := by omega
  have g2 : w.heap.size + 1 < W0.heap.size := by omega
  generalize w.heap.size + 1 = eb at *
  refine (open_ok (some ⟨b, off, none⟩) n c bs W0 (HR.out.1.below (I0.out.below (Nat.le_refl _) g1)) h0 h1 (by rw [HR.out.2]; decide)).mono ?_
  rintro e w1 ⟨rfl, hb1, hw1⟩
  have I1 : Hid (Ie w w1 w.heap.size #[.int .i64 0, .int .i64 0, .int .i64 0, .int .i64 0, .slice none 0 0, .int .i64 0, .int .i64 0, .int .i64 0, .int .i64 0] eb #[.int .i64 0]) := I0.out.still hw1
  have R1 : Hid (Rb w1 W0.heap.size (some ⟨b, off, none⟩) n c 1) := hb1
  have z1 := hw1.size
  have HW1 : Hid (Below w.heap.size w w1) := I1.out.below (Nat.le_refl _) g1
  obtain ⟨b', off', hx, c1⟩ := rd_cell0 (HR.out.1.below HW1.out) h0
  rw [HR.out.2] at c1
  simp only [Option.some.injEq, Addr.mk.injEq, and_true] at hx
  obtain ⟨rfl, rfl⟩ := hx
  have g3 : w.heap.size ≤ W0.heap.size := by omega
  have g4 : W0.heap.size ≠ w.heap.size := by omega
  have g5 : W0.heap.size ≠ eb := by omega
  have g6 : w.heap.size < w1.heap.size := lt_heap I1.out.i
  have g7 : W0.heap.size < w1.heap.size := lt_heap hb1
  have g8 : eb < w1.heap.size := lt_heap I1.out.e
  generalize W0.heap.size = rb at *
  clear hb1 hw1 I0 z0
  have hw1' : wrap64 2 = 2 := w64 _ (by omega)
  go_wp2_with fail
  refine (witem_slot_err0 w rb n c (some ⟨b, off, none⟩) bs 1 w1 R1.out HR.out.1 HW1.out g3 h1 hnc x h2).mono ?_
  rintro e w2 ⟨rfl, hk2⟩
  have I2 : Hid (Ie w w2 w.heap.size #[.int .i64 0, .int .i64 0, .int .i64 0, .int .i64 0, .slice none 0 0, .int .i64 0, .int .i64 0, .int .i64 0, .int .i64 0] eb #[.int .i64 0]) := I1.out.call hk2 g3 g4 g5
  clear hk2
  unfold boom
  go_wp2_with fail
  refine leaves_cons (f := 33) (args := #[.pointer (some ⟨w.heap.size, 0, none⟩), .pointer (some ⟨eb, 0, none⟩)]) (by simp) (by simp [go_sem]) ?_
  refine (catch_panicking w.heap.size eb (.int .i64 0) (.int .i64 0) (.int .i64 0) (.int .i64 0) (.slice none 0 0) (.int .i64 0) (.int .i64 0) (.int .i64 0) (.int .i64 0) (.int .i64 0) (x) [] w2 I2.out.i I2.out.e I2.out.n).mono ?_
  rintro e u' wz ⟨rfl, rfl, hi, he, hk⟩
  have ci := fun i => blk_cell hi i
  have ce := fun i => blk_cell he i
  have HF : Below w.heap.size w wz := (I2.out.below (Nat.le_refl _) g1).trans (hk.below (I2.out.k.size) (fun j hj e => by omega))
  simp [Leaves, settle, results, Try.results10, go_sem, ci, ce]
  exact HF

set_option maxRecDepth 100000 in
set_option maxHeartbeats 4000000 in
theorem dec_slot_err1 (ao : Option Addr) (n c : Nat) (w : World) (bs : List Int) (hr : Rd w ao n c bs) (h0 : n ≠ 0) (h1 : n ≤ 300) (hnc : n ≤ c) (hk : bs.getD 0 0 = 2) (x p : Int) (a1 : Nat) (h2 : Hid (cnt bs 1 1 4611686018427387904 = .ok (p, a1))) (h3 : Hid (cnt bs a1 0 (p - 1) = .error x)) :
    Calls Try.prog 10 #[.slice ao n c] w fun e w' => e = .returned (.tuple #[.agg #[.int .i64 0, .int .i64 0, .int .i64 0, .int .i64 0, .slice none 0 0, .int .i64 0, .int .i64 0, .int .i64 0, .int .i64 0], .int .i64 x]) ∧ Below w.heap.size w w' := by
  have hmf : ∀ (fn : Fn) (first cap : Array Value) (w : World), (Instr.makeFunc fn first cap).run Try.prog w = .ok (.func fn first cap) w := fun _ _ _ _ => rfl
  obtain ⟨b, off, rfl, hc⟩ := rd_cell0 hr h0
  have HR : Hid (Rd w (some ⟨b, off, none⟩) n c bs ∧ bs.getD 0 0 = 2) := ⟨hr, hk⟩
  have hpos : 0 < n := by omega
  clear hr hk hc
  go_enter_defers Try.func10, Try.ntmps10
  go_wp2_with fail
  have I0 : Hid (Ie w ((w.alloc (.cells #[.int .i64 0, .int .i64 0, .int .i64 0, .int .i64 0, .slice none 0 0, .int .i64 0, .int .i64 0, .int .i64 0, .int .i64 0] 28)).alloc (.cells #[.int .i64 0] 30)) w.heap.size #[.int .i64 0, .int .i64 0, .int .i64 0, .int .i64 0, .slice none 0 0, .int .i64 0, .int .i64 0, .int .i64 0, .int .i64 0] (w.heap.size + 1) #[.int .i64 0]) := Ie.new w _ _
  have z0 : ((w.alloc (.cells #[.int .i64 0, .int .i64 0, .int .i64 0, .int .i64 0, .slice none 0 0, .int .i64 0, .int .i64 0, .int .i64 0, .int .i64 0] 28)).alloc (.cells #[.int .i64 0] 30)).heap.size = w.heap.size + 1 + 1 := by simp
  generalize (w.alloc (.cells #[.int .i64 0, .int .i64 0, .int .i64 0, .int .i64 0, .slice none 0 0, .int .i64 0, .int .i64 0, .int .i64 0, .int .i64 0] 28)).alloc (.cells #[.int .i64 0] 30) = W0 at *
  have g1 : w.heap.size ≤ w.heap.size + 1 := by omega
  have g2 : w.heap.size + 1 < W0.heap.size := by omega
  generalize w.heap.size + 1 = eb at *
  refine (open_ok (some ⟨b, off, none⟩) n c bs W0 (HR.out.1.below (I0.out.below (Nat.le_refl _) g1)) h0 h1 (by rw [HR.out.2]; decide)).mono ?_
  rintro e w1 ⟨rfl, hb1, hw1⟩
  have I1 : Hid (Ie w w1 w.heap.size #[.int .i64 0, .int .i64 0, .int .i64 0, .int .i64 0, .slice none 0 0, .int .i64 0, .int .i64 0, .int .i64 0, .int .i64 0] eb #[.int .i64 0]) := I0.out.still hw1
  have R1 : Hid (Rb w1 W0.heap.size (some ⟨b, off, none⟩) n c 1) := hb1
  have z1 := hw1.size
  have HW1 : Hid (Below w.heap.size w w1) := I1.out.below (Nat.le_refl _) g1
  obtain ⟨b', off', hx, c1⟩ := rd_cell0 (HR.out.1.below HW1.out) h0
  rw [HR.out.2] at c1
  simp only [Option.some.injEq, Addr.mk.injEq, and_true] at hx
  obtain ⟨rfl, rfl⟩ := hx
  have g3 : w.heap.size ≤ W0.heap.size := by omega
  have g4 : W0.heap.size ≠ w.heap.size := by omega
  have g5 : W0.heap.size ≠ eb := by omega
  have g6 : w.heap.size < w1.heap.size := lt_heap I1.out.i
  have g7 : W0.heap.size < w1.heap.size := lt_heap hb1
  have g8 : eb < w1.heap.size := lt_heap I1.out.e
  generalize W0.heap.size = rb at *
  clear hb1 hw1 I0 z0
  have hw1' : wrap64 2 = 2 := w64 _ (by omega)
  go_wp2_with fail
  refine (witem_slot_err1 w rb n c (some ⟨b, off, none⟩) bs 1 w1 R1.out HR.out.1 HW1.out g3 h1 hnc x p a1 h2 h3).mono ?_
  rintro e w2 ⟨rfl, hk2⟩
  have I2 : Hid (Ie w w2 w.heap.size #[.int .i64 0, .int .i64 0, .int .i64 0, .int .i64 0, .slice none 0 0, .int .i64 0, .int .i64 0, .int .i64 0, .int .i64 0] eb #[.int .i64 0]) := I1.out.call hk2 g3 g4 g5
  clear hk2
  unfold boom
  go_wp2_with fail
  refine leaves_cons (f := 33) (args := #[.pointer (some ⟨w.heap.size, 0, none⟩), .pointer (some ⟨eb, 0, none⟩)]) (by simp) (by simp [go_sem]) ?_
  refine (catch_panicking w.heap.size eb (.int .i64 0) (.int .i64 0) (.int .i64 0) (.int .i64 0) (.slice none 0 0) (.int .i64 0) (.int .i64 0) (.int .i64 0) (.int .i64 0) (.int .i64 0) (x) [] w2 I2.out.i I2.out.e I2.out.n).mono ?_
  rintro e u' wz ⟨rfl, rfl, hi, he, hk⟩
  have ci := fun i => blk_cell hi i
  have ce := fun i => blk_cell he i
  have HF : Below w.heap.size w wz := (I2.out.below (Nat.le_refl _) g1).trans (hk.below (I2.out.k.size) (fun j hj e => by omega))
  simp [Leaves, settle, results, Try.results10, go_sem, ci, ce]
  exact HF

set_option maxRecDepth 100000 in
set_option maxHeartbeats 4000000 in
theorem dec_slot_err2 (ao : Option Addr) (n c : Nat) (w : World) (bs : List Int) (hr : Rd w ao n c bs) (h0 : n ≠ 0) (h1 : n ≤ 300) (hnc : n ≤ c) (hk : bs.getD 0 0 = 2) (x p st2 : Int) (a1 a2 : Nat) (h2 : Hid (cnt bs 1 1 4611686018427387904 = .ok (p, a1))) (h3 : Hid (cnt bs a1 0 (p - 1) = .ok (st2, a2))) (h4 : Hid (cnt bs a2 0 15 = .error x ∨ ∃ (s : Int) (a1 : Nat), cnt bs a2 0 15 = .ok (s, a1) ∧ cnt bs a1 1 4611686018427387904 = .error x)) :
    Calls Try.prog 10 #[.slice ao n c] w fun e w' => e = .returned (.tuple #[.agg #[.int .i64 0, .int .i64 0, .int .i64 0, .int .i64 0, .slice none 0 0, .int .i64 0, .int .i64 0, .int .i64 0, .int .i64 0], .int .i64 x]) ∧ Below w.heap.size w w' := by
  have hmf : ∀ (fn : Fn) (first cap : Array Value) (w : World), (Instr.makeFunc fn first cap).run Try.prog w = .ok (.func fn first cap) w := fun _ _ _ _ => rfl
  obtain ⟨b, off, rfl, hc⟩ := rd_cell0 hr h0
  have HR : Hid (Rd w (some ⟨b, off, none⟩) n c bs ∧ bs.getD 0 0 = 2) := ⟨hr, hk⟩
  have hpos : 0 < n := by omega
  clear hr hk hc
  go_enter_defers Try.func10, Try.ntmps10
  go_wp2_with fail
  have I0 : Hid (Ie w ((w.alloc (.cells #[.int .i64 0, .int .i64 0, .int .i64 0, .int .i64 0, .slice none 0 0, .int .i64 0, .int .i64 0, .int .i64 0, .int .i64 0] 28)).alloc (.cells #[.int .i64 0] 30)) w.heap.size #[.int .i64 0, .int .i64 0, .int .i64 0, .int .i64 0, .slice none 0 0, .int .i64 0, .int .i64 0, .int .i64 0, .int .i64 0] (w.heap.size + 1) #[.int .i64 0]) := Ie.new w _ _
  have z0 : ((w.alloc (.cells #[.int .i64 0, .int .i64 0, .int .i64 0, .int .i64 0, .slice none 0 0, .int .i64 0, .int .i64 0, .int .i64 0, .int .i64 0] 28)).alloc (.cells #[.int .i64 0] 30)).heap.size = w.heap.size + 1 + 1 := by simp
  generalize (w.alloc (.cells #[.int .i64 0, .int .i64 0, .int .i64 0, .int .i64 0, .slice none 0 0, .int .i64 0, .int .i64 0, .int .i64 0, .int .i64 0] 28)).alloc (.cells #[.int .i64 0] 30) = W0 at *
  have g1 : w.heap.size ≤ w.heap.size + 1 := by omega
  have g2 : w.heap.size + 1 < W0.heap.size := by omega
  generalize w.heap.size + 1 = eb at *
  refine (open_ok (some ⟨b, off, none⟩) n c bs W0 (HR.out.1.below (I0.out.below (Nat.le_refl _) g1)) h0 h1 (by rw [HR.out.2]; decide)).mono ?_
  rintro e w1 ⟨rfl, hb1, hw1⟩
  have I1 : Hid (Ie w w1 w.heap.size #[.int .i64 0, .int .i64 0, .int .i64 0, .int .i64 0, .slice none 0 0, .int .i64 0, .int .i64 0, .int .i64 0, .int .i64 0] eb #[.int .i64 0]) := I0.out.still hw1
  have R1 : Hid (Rb w1 W0.heap.size (some ⟨b, off, none⟩) n c 1) := hb1
  have z1 := hw1.size
  have HW1 : Hid (Below w.heap.size w w1) := I1.out.below (Nat.le_refl _) g1
  obtain ⟨b', off', hx, c1⟩ := rd_cell0 (HR.out.1.below HW1.out) h0
  rw [HR.out.2] at c1
  simp only [Option.some.injEq, Addr.mk.injEq, and_true] at hx
  obtain ⟨rfl, rfl⟩ := hx
  have g3 : w.heap.size ≤ W0.heap.size := by omega
  have g4 : W0.heap.size ≠ w.heap.size := by omega
  have g5 : W0.heap.size ≠ eb := by omega
  have g6 : w.heap.size < w1.heap.size := lt_heap I1.out.i
  have g7 : W0.heap.size < w1.heap.size := lt_heap hb1
  have g8 : eb < w1.heap.size := lt_heap I1.out.e
  generalize W0.heap.size = rb at *
  clear hb1 hw1 I0 z0
  have hw1' : wrap64 2 = 2 := w64 _ (by omega)
  go_wp2_with fail
  refine (witem_slot_err2 w rb n c (some ⟨b, off, none⟩) bs 1 w1 R1.out HR.out.1 HW1.out g3 h1 hnc x p st2 a1 a2 h2 h3 h4.out).mono ?_
  rintro e w2 ⟨rfl, hk2⟩
  have I2 : Hid (Ie w w2 w.heap.size #[.int .i64 0, .int .i64 0, .int .i64 0, .int .i64 0, .slice none 0 0, .int .i64 0, .int .i64 0, .int .i64 0, .int .i64 0] eb #[.int .i64 0]) := I1.out.call hk2 g3 g4 g5
  clear hk2
  unfold boom
  go_wp2_with fail
  refine leaves_cons (f := 33) (args := #[.pointer (some ⟨w.heap.size, 0, none⟩), .pointer (some ⟨eb, 0, none⟩)]) (by simp) (by simp [go_sem]) ?_
  refine (catch_panicking w.heap.size eb (.int .i64 0) (.int .i64 0) (.int .i64 0) (.int .i64 0) (.slice none 0 0) (.int .i64 0) (.int .i64 0) (.int .i64 0) (.int .i64 0) (.int .i64 0) (x) [] w2 I2.out.i I2.out.e I2.out.n).mono ?_
  rintro e u' wz ⟨rfl, rfl, hi, he, hk⟩
  have ci := fun i => blk_cell hi i
  have ce := fun i => blk_cell he i
  have HF : Below w.heap.size w wz := (I2.out.below (Nat.le_refl _) g1).trans (hk.below (I2.out.k.size) (fun j hj e => by omega))
  simp [Leaves, settle, results, Try.results10, go_sem, ci, ce]
  exact HF

end Go.Proofs.Ytbjpbcanmpimnab.Lo
