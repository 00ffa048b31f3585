import Derived.Test.YtjgjpepmfiklfaaGreatDoorMxn
namespace Go.Proofs.YtjgjpepmfiklfaaGreatDoor.Mx
open Go.RowKit Mb Mh Lo
set_option linter.unusedVariables false
set_option maxRecDepth 100000
set_option linter.unusedSimpArgs false
def endO (bs : List Int) (v0 v1 v2 v3 : Int) (s0 s1 s2 : List Int) (a : Nat) : Option (Int × Int × Int × Int × ByteArray × ByteArray × ByteArray) := if a = bs.length ∧ okC v0 v1 v2 v3 (strOfNums s0) (strOfNums s1) (strOfNums s2) = true then some (v0, v1, v2, v3, strOfNums s0, strOfNums s1, strOfNums s2) else none
def txtsO (bs : List Int) (v0 v1 v2 v3 : Int) (a : Nat) : Option (Int × Int × Int × Int × ByteArray × ByteArray × ByteArray) :=
  (txtO bs a 0 8).bind fun p0 => (txtO bs p0.2 0 8).bind fun p1 => (txtO bs p1.2 0 8).bind fun p2 => endO bs v0 v1 v2 v3 p0.1 p1.1 p2.1 p2.2
def decO (bs : List Int) : Option (Int × Int × Int × Int × ByteArray × ByteArray × ByteArray) :=
  (cntO bs 0 0 4611686018427387904).bind fun q0 => (cntO bs q0.2 0 4611686018427387904).bind fun q1 => (cntO bs q1.2 0 4611686018427387904).bind fun q2 => (cntO bs q2.2 0 4611686018427387904).bind fun q3 => txtsO bs q0.1 q1.1 q2.1 q3.1 q3.2
def decV : Option (Int × Int × Int × Int × ByteArray × ByteArray × ByteArray) → Value
  | none => .tuple #[.agg #[.int .i64 0, .int .i64 0, .int .i64 0, .int .i64 0, .string ⟨#[]⟩, .string ⟨#[]⟩, .string ⟨#[]⟩], .int .i64 130]
  | some (v0, v1, v2, v3, s0, s1, s2) => .tuple #[.agg #[.int .i64 v0, .int .i64 v1, .int .i64 v2, .int .i64 v3, .string s0, .string s1, .string s2], .int .i64 0]
theorem rb_set {w : World} {rb n c k a : Nat} {ao : Option Addr} (h : Rb w rb ao n c a) (hne : rb ≠ k) (i : Nat) (v : Value) : Rb (w.setCell ⟨k, i, none⟩ v) rb ao n c a :=
  (Below.heap_setCell w ⟨k, i, none⟩ v rb hne).trans h
section
variable {w w' W : World} {B : Nat}
set_option maxHeartbeats 8000000 in
theorem dec_any (hg : Gl w) {ao : Option Addr} {n c : Nat} {bs : List Int} (hr : Rd w ao n c bs) (hnc : n ≤ c) (hn : n ≤ 140737488355328) :
    Calls Tryz.prog 6 #[.slice ao n c] w fun e w' => e = .returned (decV (decO bs)) ∧ Below w.heap.size w w' := by
  have hmf : ∀ (fn : Fn) (first cap : Array Value) (w : World), (Instr.makeFunc fn first cap).run Tryz.prog w = .ok (.func fn first cap) w := fun _ _ _ _ => rfl
  obtain ⟨D, hD⟩ : ∃ x, decO bs = x := ⟨_, rfl⟩
  have HD : Hid (decO bs = D) := hD
  rw [hD]
  have HR : Hid (Rd w ao n c bs) := hr
  have HG : Hid (Gl w) := hg
  have HN : Hid (n ≤ 140737488355328 ∧ bs.length = n) := ⟨by omega, hr.1⟩
  have HNC : Hid (n ≤ c ∧ n ≤ 140737488355328) := ⟨hnc, hn⟩
  clear hD hr hg hnc hn
  obtain ⟨ib, hib⟩ : ∃ x, w.heap.size = x := ⟨_, rfl⟩
  obtain ⟨A1, hA1⟩ : ∃ X, w.alloc (.cells #[.int .i64 0, .int .i64 0, .int .i64 0, .int .i64 0, .string ⟨#[]⟩, .string ⟨#[]⟩, .string ⟨#[]⟩] 23) = X := ⟨_, rfl⟩
  obtain ⟨eb, heb⟩ : ∃ x, A1.heap.size = x := ⟨_, rfl⟩
  have z1 : eb = ib + 1 := by rw [← heb, ← hA1, ← hib]; simp
  obtain ⟨A2, hA2⟩ : ∃ X, A1.alloc (.cells #[.int .i64 0] 25) = X := ⟨_, rfl⟩
  obtain ⟨rb, hrb⟩ : ∃ x, A2.heap.size = x := ⟨_, rfl⟩
  have z2 : rb = ib + 2 := by rw [← hrb, ← hA2, ← hA1, ← hib]; simp
  obtain ⟨A3, hA3⟩ : ∃ X, A2.alloc (.cells #[.slice none 0 0, .int .i64 0] 52) = X := ⟨_, rfl⟩
  obtain ⟨A4, hA4⟩ : ∃ X, A3.setCell ⟨rb, 0, none⟩ (.slice ao n c) = X := ⟨_, rfl⟩
  obtain ⟨A5, hA5⟩ : ∃ X, A4.setCell ⟨rb, 1, none⟩ (.int .i64 0) = X := ⟨_, rfl⟩
  have I2 : Hid (Ie w A2 ib #[.int .i64 0, .int .i64 0, .int .i64 0, .int .i64 0, .string ⟨#[]⟩, .string ⟨#[]⟩, .string ⟨#[]⟩] eb #[.int .i64 0]) := by
    have := Ie.new w #[.int .i64 0, .int .i64 0, .int .i64 0, .int .i64 0, .string ⟨#[]⟩, .string ⟨#[]⟩, .string ⟨#[]⟩] #[.int .i64 0]
    rw [hA1, hA2, hib] at this
    rw [z1]
    exact this
  have h3 : A3.heap[rb]? = some (.cells #[.slice none 0 0, .int .i64 0] 52 (0, 0)) := by
    have := heap_alloc_new A2 (.cells #[.slice none 0 0, .int .i64 0] 52)
    rw [hA3, hrb] at this
    exact this
  have h4 : A4.heap[rb]? = some (.cells #[.slice ao n c, .int .i64 0] 52 (0, 0)) := by rw [← hA4]; exact blk_set h3 rfl
  have R0 : Hid (Rb A5 rb ao n c 0) := by rw [← hA5]; exact blk_set h4 rfl
  have g3 : w.heap.size ≤ rb := by omega
  have g4 : rb ≠ ib := by omega
  have g5 : rb ≠ eb := by omega
  have g1 : w.heap.size ≤ ib := by omega
  have g2 : w.heap.size ≤ eb := by omega
  have I0 : Hid (Ie w A5 ib #[.int .i64 0, .int .i64 0, .int .i64 0, .int .i64 0, .string ⟨#[]⟩, .string ⟨#[]⟩, .string ⟨#[]⟩] eb #[.int .i64 0]) := by
    have hk3 : Below A2.heap.size A2 A3 := by rw [← hA3]; exact balloc (Below.refl _ _)
    have hk : Kept A3 A5 (fun j => j = rb) := by rw [← hA5, ← hA4]; exact (kset (P := fun j => j = rb) _ _ _ _ rfl).trans (kset (P := fun j => j = rb) _ _ _ _ rfl)
    exact (I2.out.still hk3).call hk g3 g4 g5
  have k30 := blk_cell h3 0
  have k31 := blk_cell h3 1
  have k41 := blk_cell h4 1
  simp only [List.getElem?_toArray, List.getElem?_cons_succ, List.getElem?_cons_zero] at k30 k31 k41
  have f30 := frozen_of_row A3 rb 0 _ _ h3
  have f41 := frozen_of_row A4 rb 1 _ _ h4
  have HZ : Hid (eb = ib + 1 ∧ rb = ib + 2 ∧ w.heap.size ≤ rb ∧ rb ≠ ib ∧ rb ≠ eb ∧ w.heap.size ≤ ib ∧ w.heap.size ≤ eb) := ⟨z1, z2, g3, g4, g5, g1, g2⟩
  clear z1 z2 g1 g2 g3 g4 g5 h3 h4 I2
  go_enter_defers Tryz.func6, Tryz.ntmps6
  go_wp2_with fail
  clear k30 k31 k41 f30 f41 hA1 hA2 hA3 hA4 hA5 heb hrb hmf
  rcases hc0 : cntO bs 0 0 4611686018427387904 with _ | ⟨v0, a0⟩
  · have HC0 : Hid (cntO bs 0 0 4611686018427387904 = none) := hc0
    refine (any_no (HR.out.below (I0.out.below HZ.out.2.2.2.2.2.1 HZ.out.2.2.2.2.2.2)) HN.out.1 R0.out hc0).mono ?_
    rintro e w1 ⟨rfl, hk⟩
    have I1 : Hid (Ie w w1 ib #[.int .i64 0, .int .i64 0, .int .i64 0, .int .i64 0, .string ⟨#[]⟩, .string ⟨#[]⟩, .string ⟨#[]⟩] eb #[.int .i64 0]) := I0.out.call hk HZ.out.2.2.1 HZ.out.2.2.2.1 HZ.out.2.2.2.2.1
    clear hk hc0
    unfold boom
    go_wp2_with fail
    refine leaves_cons (f := 22) (args := #[.pointer (some ⟨ib, 0, none⟩), .pointer (some ⟨eb, 0, none⟩)]) (by simp) (by simp [go_sem]) ?_
    refine (catch_panicking ib eb (.int .i64 0) (.int .i64 0) (.int .i64 0) (.int .i64 0) (.string ⟨#[]⟩) (.string ⟨#[]⟩) (.string ⟨#[]⟩) (.int .i64 0) 14 [] w1 I1.out.i I1.out.e I1.out.n).mono ?_
    rintro e u' wz ⟨rfl, rfl, hi, he, hk⟩
    have ci := fun i => blk_cell hi i
    have ce := fun i => blk_cell he i
    have HF : Below w.heap.size w wz := (I1.out.below HZ.out.2.2.2.2.2.1 HZ.out.2.2.2.2.2.2).trans (hk.below (I1.out.k.size) (fun j hj e => by have := HZ.out; omega))
    have hDn : D = none := by rw [← HD.out]; unfold decO; simp [txtsO, endO, HC0.out]
    subst hDn
    simp [Leaves, settle, results, Tryz.results6, go_sem, ci, ce, decV]
    exact HF
  · have HC0 : Hid (cntO bs 0 0 4611686018427387904 = some (v0, a0)) := hc0
    refine (any_ok (HR.out.below (I0.out.below HZ.out.2.2.2.2.2.1 HZ.out.2.2.2.2.2.2)) HN.out.1 R0.out hc0).mono ?_
    rintro e w1 ⟨rfl, hb, hk⟩
    have I1 : Hid (Ie w w1 ib #[.int .i64 0, .int .i64 0, .int .i64 0, .int .i64 0, .string ⟨#[]⟩, .string ⟨#[]⟩, .string ⟨#[]⟩] eb #[.int .i64 0]) := I0.out.call hk HZ.out.2.2.1 HZ.out.2.2.2.1 HZ.out.2.2.2.2.1
    have R1 : Hid (Rb w1 rb ao n c a0) := hb
    clear hk hc0 hb I0 R0
    go_wp2_with fail
    rcases hc1 : cntO bs a0 0 4611686018427387904 with _ | ⟨v1, a1⟩
    · have HC1 : Hid (cntO bs a0 0 4611686018427387904 = none) := hc1
      refine (any_no (HR.out.below (I1.out.below HZ.out.2.2.2.2.2.1 HZ.out.2.2.2.2.2.2)) HN.out.1 R1.out hc1).mono ?_
      rintro e w2 ⟨rfl, hk⟩
      have I2 : Hid (Ie w w2 ib #[.int .i64 0, .int .i64 0, .int .i64 0, .int .i64 0, .string ⟨#[]⟩, .string ⟨#[]⟩, .string ⟨#[]⟩] eb #[.int .i64 0]) := I1.out.call hk HZ.out.2.2.1 HZ.out.2.2.2.1 HZ.out.2.2.2.2.1
      clear hk hc1
      unfold boom
      go_wp2_with fail
      refine leaves_cons (f := 22) (args := #[.pointer (some ⟨ib, 0, none⟩), .pointer (some ⟨eb, 0, none⟩)]) (by simp) (by simp [go_sem]) ?_
      refine (catch_panicking ib eb (.int .i64 0) (.int .i64 0) (.int .i64 0) (.int .i64 0) (.string ⟨#[]⟩) (.string ⟨#[]⟩) (.string ⟨#[]⟩) (.int .i64 0) 14 [] w2 I2.out.i I2.out.e I2.out.n).mono ?_
      rintro e u' wz ⟨rfl, rfl, hi, he, hk⟩
      have ci := fun i => blk_cell hi i
      have ce := fun i => blk_cell he i
      have HF : Below w.heap.size w wz := (I2.out.below HZ.out.2.2.2.2.2.1 HZ.out.2.2.2.2.2.2).trans (hk.below (I2.out.k.size) (fun j hj e => by have := HZ.out; omega))
      have hDn : D = none := by rw [← HD.out]; unfold decO; simp [txtsO, endO, HC0.out, HC1.out]
      subst hDn
      simp [Leaves, settle, results, Tryz.results6, go_sem, ci, ce, decV]
      exact HF
    · have HC1 : Hid (cntO bs a0 0 4611686018427387904 = some (v1, a1)) := hc1
      refine (any_ok (HR.out.below (I1.out.below HZ.out.2.2.2.2.2.1 HZ.out.2.2.2.2.2.2)) HN.out.1 R1.out hc1).mono ?_
      rintro e w2 ⟨rfl, hb, hk⟩
      have I2 : Hid (Ie w w2 ib #[.int .i64 0, .int .i64 0, .int .i64 0, .int .i64 0, .string ⟨#[]⟩, .string ⟨#[]⟩, .string ⟨#[]⟩] eb #[.int .i64 0]) := I1.out.call hk HZ.out.2.2.1 HZ.out.2.2.2.1 HZ.out.2.2.2.2.1
      have R2 : Hid (Rb w2 rb ao n c a1) := hb
      clear hk hc1 hb I1 R1
      go_wp2_with fail
      rcases hc2 : cntO bs a1 0 4611686018427387904 with _ | ⟨v2, a2⟩
      · have HC2 : Hid (cntO bs a1 0 4611686018427387904 = none) := hc2
        refine (any_no (HR.out.below (I2.out.below HZ.out.2.2.2.2.2.1 HZ.out.2.2.2.2.2.2)) HN.out.1 R2.out hc2).mono ?_
        rintro e w3 ⟨rfl, hk⟩
        have I3 : Hid (Ie w w3 ib #[.int .i64 0, .int .i64 0, .int .i64 0, .int .i64 0, .string ⟨#[]⟩, .string ⟨#[]⟩, .string ⟨#[]⟩] eb #[.int .i64 0]) := I2.out.call hk HZ.out.2.2.1 HZ.out.2.2.2.1 HZ.out.2.2.2.2.1
        clear hk hc2
        unfold boom
        go_wp2_with fail
        refine leaves_cons (f := 22) (args := #[.pointer (some ⟨ib, 0, none⟩), .pointer (some ⟨eb, 0, none⟩)]) (by simp) (by simp [go_sem]) ?_
        refine (catch_panicking ib eb (.int .i64 0) (.int .i64 0) (.int .i64 0) (.int .i64 0) (.string ⟨#[]⟩) (.string ⟨#[]⟩) (.string ⟨#[]⟩) (.int .i64 0) 14 [] w3 I3.out.i I3.out.e I3.out.n).mono ?_
        rintro e u' wz ⟨rfl, rfl, hi, he, hk⟩
        have ci := fun i => blk_cell hi i
        have ce := fun i => blk_cell he i
        have HF : Below w.heap.size w wz := (I3.out.below HZ.out.2.2.2.2.2.1 HZ.out.2.2.2.2.2.2).trans (hk.below (I3.out.k.size) (fun j hj e => by have := HZ.out; omega))
        have hDn : D = none := by rw [← HD.out]; unfold decO; simp [txtsO, endO, HC0.out, HC1.out, HC2.out]
        subst hDn
        simp [Leaves, settle, results, Tryz.results6, go_sem, ci, ce, decV]
        exact HF
      · have HC2 : Hid (cntO bs a1 0 4611686018427387904 = some (v2, a2)) := hc2
        refine (any_ok (HR.out.below (I2.out.below HZ.out.2.2.2.2.2.1 HZ.out.2.2.2.2.2.2)) HN.out.1 R2.out hc2).mono ?_
        rintro e w3 ⟨rfl, hb, hk⟩
        have I3 : Hid (Ie w w3 ib #[.int .i64 0, .int .i64 0, .int .i64 0, .int .i64 0, .string ⟨#[]⟩, .string ⟨#[]⟩, .string ⟨#[]⟩] eb #[.int .i64 0]) := I2.out.call hk HZ.out.2.2.1 HZ.out.2.2.2.1 HZ.out.2.2.2.2.1
        have R3 : Hid (Rb w3 rb ao n c a2) := hb
        clear hk hc2 hb I2 R2
        go_wp2_with fail
        rcases hc3 : cntO bs a2 0 4611686018427387904 with _ | ⟨v3, a3⟩
        · have HC3 : Hid (cntO bs a2 0 4611686018427387904 = none) := hc3
          refine (any_no (HR.out.below (I3.out.below HZ.out.2.2.2.2.2.1 HZ.out.2.2.2.2.2.2)) HN.out.1 R3.out hc3).mono ?_
          rintro e w4 ⟨rfl, hk⟩
          have I4 : Hid (Ie w w4 ib #[.int .i64 0, .int .i64 0, .int .i64 0, .int .i64 0, .string ⟨#[]⟩, .string ⟨#[]⟩, .string ⟨#[]⟩] eb #[.int .i64 0]) := I3.out.call hk HZ.out.2.2.1 HZ.out.2.2.2.1 HZ.out.2.2.2.2.1
          clear hk hc3
          unfold boom
          go_wp2_with fail
          refine leaves_cons (f := 22) (args := #[.pointer (some ⟨ib, 0, none⟩), .pointer (some ⟨eb, 0, none⟩)]) (by simp) (by simp [go_sem]) ?_
          refine (catch_panicking ib eb (.int .i64 0) (.int .i64 0) (.int .i64 0) (.int .i64 0) (.string ⟨#[]⟩) (.string ⟨#[]⟩) (.string ⟨#[]⟩) (.int .i64 0) 14 [] w4 I4.out.i I4.out.e I4.out.n).mono ?_
          rintro e u' wz ⟨rfl, rfl, hi, he, hk⟩
          have ci := fun i => blk_cell hi i
          have ce := fun i => blk_cell he i
          have HF : Below w.heap.size w wz := (I4.out.below HZ.out.2.2.2.2.2.1 HZ.out.2.2.2.2.2.2).trans (hk.below (I4.out.k.size) (fun j hj e => by have := HZ.out; omega))
          have hDn : D = none := by rw [← HD.out]; unfold decO; simp [txtsO, endO, HC0.out, HC1.out, HC2.out, HC3.out]
          subst hDn
          simp [Leaves, settle, results, Tryz.results6, go_sem, ci, ce, decV]
          exact HF
        · have HC3 : Hid (cntO bs a2 0 4611686018427387904 = some (v3, a3)) := hc3
          refine (any_ok (HR.out.below (I3.out.below HZ.out.2.2.2.2.2.1 HZ.out.2.2.2.2.2.2)) HN.out.1 R3.out hc3).mono ?_
          rintro e w4 ⟨rfl, hb, hk⟩
          have I4 : Hid (Ie w w4 ib #[.int .i64 0, .int .i64 0, .int .i64 0, .int .i64 0, .string ⟨#[]⟩, .string ⟨#[]⟩, .string ⟨#[]⟩] eb #[.int .i64 0]) := I3.out.call hk HZ.out.2.2.1 HZ.out.2.2.2.1 HZ.out.2.2.2.2.1
          have R4 : Hid (Rb w4 rb ao n c a3) := hb
          clear hk hc3 hb I3 R3
          have fS0 := I4.out.fzI 0
          have qS0 : w4.cell? ⟨ib, 0, none⟩ = some (.int .i64 0) := I4.out.cellI 0
          obtain ⟨S0, hS0⟩ : ∃ X, w4.setCell ⟨ib, 0, none⟩ (.int .i64 v0) = X := ⟨_, rfl⟩
          have IS0 : Hid (Ie w S0 ib #[.int .i64 v0, .int .i64 0, .int .i64 0, .int .i64 0, .string ⟨#[]⟩, .string ⟨#[]⟩, .string ⟨#[]⟩] eb #[.int .i64 0]) := by rw [← hS0]; exact I4.out.setI 0 (.int .i64 v0)
          have RS0 : Hid (Rb S0 rb ao n c a3) := by rw [← hS0]; exact rb_set R4.out HZ.out.2.2.2.1 _ _
          clear I4 R4
          have fS1 := IS0.out.fzI 1
          have qS1 : S0.cell? ⟨ib, 1, none⟩ = some (.int .i64 0) := IS0.out.cellI 1
          obtain ⟨S1, hS1⟩ : ∃ X, S0.setCell ⟨ib, 1, none⟩ (.int .i64 v1) = X := ⟨_, rfl⟩
          have IS1 : Hid (Ie w S1 ib #[.int .i64 v0, .int .i64 v1, .int .i64 0, .int .i64 0, .string ⟨#[]⟩, .string ⟨#[]⟩, .string ⟨#[]⟩] eb #[.int .i64 0]) := by rw [← hS1]; exact IS0.out.setI 1 (.int .i64 v1)
          have RS1 : Hid (Rb S1 rb ao n c a3) := by rw [← hS1]; exact rb_set RS0.out HZ.out.2.2.2.1 _ _
          clear IS0 RS0
          have fS2 := IS1.out.fzI 2
          have qS2 : S1.cell? ⟨ib, 2, none⟩ = some (.int .i64 0) := IS1.out.cellI 2
          obtain ⟨S2, hS2⟩ : ∃ X, S1.setCell ⟨ib, 2, none⟩ (.int .i64 v2) = X := ⟨_, rfl⟩
          have IS2 : Hid (Ie w S2 ib #[.int .i64 v0, .int .i64 v1, .int .i64 v2, .int .i64 0, .string ⟨#[]⟩, .string ⟨#[]⟩, .string ⟨#[]⟩] eb #[.int .i64 0]) := by rw [← hS2]; exact IS1.out.setI 2 (.int .i64 v2)
          have RS2 : Hid (Rb S2 rb ao n c a3) := by rw [← hS2]; exact rb_set RS1.out HZ.out.2.2.2.1 _ _
          clear IS1 RS1
          have fS3 := IS2.out.fzI 3
          have qS3 : S2.cell? ⟨ib, 3, none⟩ = some (.int .i64 0) := IS2.out.cellI 3
          obtain ⟨S3, hS3⟩ : ∃ X, S2.setCell ⟨ib, 3, none⟩ (.int .i64 v3) = X := ⟨_, rfl⟩
          have IS3 : Hid (Ie w S3 ib #[.int .i64 v0, .int .i64 v1, .int .i64 v2, .int .i64 v3, .string ⟨#[]⟩, .string ⟨#[]⟩, .string ⟨#[]⟩] eb #[.int .i64 0]) := by rw [← hS3]; exact IS2.out.setI 3 (.int .i64 v3)
          have RS3 : Hid (Rb S3 rb ao n c a3) := by rw [← hS3]; exact rb_set RS2.out HZ.out.2.2.2.1 _ _
          clear IS2 RS2
          go_wp2_with fail
          clear fS0 qS0 hS0 fS1 qS1 hS1 fS2 qS2 hS2 fS3 qS3 hS3
          rcases ht0 : txtO bs a3 0 8 with _ | ⟨s0, b0⟩
          · have HT0 : Hid (txtO bs a3 0 8 = none) := ht0
            refine (text_no (HR.out.below (IS3.out.below HZ.out.2.2.2.2.2.1 HZ.out.2.2.2.2.2.2)) HNC.out.1 HNC.out.2 (by omega) (by omega) RS3.out ht0).mono ?_
            rintro e y1 ⟨rfl, hk⟩
            have J1 : Hid (Ie w y1 ib #[.int .i64 v0, .int .i64 v1, .int .i64 v2, .int .i64 v3, .string ⟨#[]⟩, .string ⟨#[]⟩, .string ⟨#[]⟩] eb #[.int .i64 0]) := IS3.out.call hk HZ.out.2.2.1 HZ.out.2.2.2.1 HZ.out.2.2.2.2.1
            clear hk ht0
            unfold boom
            go_wp2_with fail
            refine leaves_cons (f := 22) (args := #[.pointer (some ⟨ib, 0, none⟩), .pointer (some ⟨eb, 0, none⟩)]) (by simp) (by simp [go_sem]) ?_
            refine (catch_panicking ib eb (.int .i64 v0) (.int .i64 v1) (.int .i64 v2) (.int .i64 v3) (.string ⟨#[]⟩) (.string ⟨#[]⟩) (.string ⟨#[]⟩) (.int .i64 0) 14 [] y1 J1.out.i J1.out.e J1.out.n).mono ?_
            rintro e u' wz ⟨rfl, rfl, hi, he, hk⟩
            have ci := fun i => blk_cell hi i
            have ce := fun i => blk_cell he i
            have HF : Below w.heap.size w wz := (J1.out.below HZ.out.2.2.2.2.2.1 HZ.out.2.2.2.2.2.2).trans (hk.below (J1.out.k.size) (fun j hj e => by have := HZ.out; omega))
            have hDn : D = none := by rw [← HD.out]; unfold decO; simp [txtsO, endO, HC0.out, HC1.out, HC2.out, HC3.out, HT0.out]
            subst hDn
            simp [Leaves, settle, results, Tryz.results6, go_sem, ci, ce, decV]
            exact HF
          · have HT0 : Hid (txtO bs a3 0 8 = some (s0, b0)) := ht0
            refine (text_ok (HR.out.below (IS3.out.below HZ.out.2.2.2.2.2.1 HZ.out.2.2.2.2.2.2)) HNC.out.1 HNC.out.2 (by omega) (by omega) RS3.out ht0).mono ?_
            rintro e y1 ⟨rfl, hb, hk⟩
            have J1 : Hid (Ie w y1 ib #[.int .i64 v0, .int .i64 v1, .int .i64 v2, .int .i64 v3, .string ⟨#[]⟩, .string ⟨#[]⟩, .string ⟨#[]⟩] eb #[.int .i64 0]) := IS3.out.call hk HZ.out.2.2.1 HZ.out.2.2.2.1 HZ.out.2.2.2.2.1
            have Q1 : Hid (Rb y1 rb ao n c b0) := hb
            obtain ⟨x0, hx0⟩ : ∃ x, strOfNums s0 = x := ⟨_, rfl⟩
            have HX0 : Hid (strOfNums s0 = x0) := hx0
            rw [hx0]
            clear hk ht0 hb hx0 IS3 RS3
            go_wp2_with fail
            rcases ht1 : txtO bs b0 0 8 with _ | ⟨s1, b1⟩
            · have HT1 : Hid (txtO bs b0 0 8 = none) := ht1
              refine (text_no (HR.out.below (J1.out.below HZ.out.2.2.2.2.2.1 HZ.out.2.2.2.2.2.2)) HNC.out.1 HNC.out.2 (by omega) (by omega) Q1.out ht1).mono ?_
              rintro e y2 ⟨rfl, hk⟩
              have J2 : Hid (Ie w y2 ib #[.int .i64 v0, .int .i64 v1, .int .i64 v2, .int .i64 v3, .string ⟨#[]⟩, .string ⟨#[]⟩, .string ⟨#[]⟩] eb #[.int .i64 0]) := J1.out.call hk HZ.out.2.2.1 HZ.out.2.2.2.1 HZ.out.2.2.2.2.1
              clear hk ht1
              unfold boom
              go_wp2_with fail
              refine leaves_cons (f := 22) (args := #[.pointer (some ⟨ib, 0, none⟩), .pointer (some ⟨eb, 0, none⟩)]) (by simp) (by simp [go_sem]) ?_
              refine (catch_panicking ib eb (.int .i64 v0) (.int .i64 v1) (.int .i64 v2) (.int .i64 v3) (.string ⟨#[]⟩) (.string ⟨#[]⟩) (.string ⟨#[]⟩) (.int .i64 0) 14 [] y2 J2.out.i J2.out.e J2.out.n).mono ?_
              rintro e u' wz ⟨rfl, rfl, hi, he, hk⟩
              have ci := fun i => blk_cell hi i
              have ce := fun i => blk_cell he i
              have HF : Below w.heap.size w wz := (J2.out.below HZ.out.2.2.2.2.2.1 HZ.out.2.2.2.2.2.2).trans (hk.below (J2.out.k.size) (fun j hj e => by have := HZ.out; omega))
              have hDn : D = none := by rw [← HD.out]; unfold decO; simp [txtsO, endO, HC0.out, HC1.out, HC2.out, HC3.out, HT0.out, HT1.out]
              subst hDn
              simp [Leaves, settle, results, Tryz.results6, go_sem, ci, ce, decV]
              exact HF
            · have HT1 : Hid (txtO bs b0 0 8 = some (s1, b1)) := ht1
              refine (text_ok (HR.out.below (J1.out.below HZ.out.2.2.2.2.2.1 HZ.out.2.2.2.2.2.2)) HNC.out.1 HNC.out.2 (by omega) (by omega) Q1.out ht1).mono ?_
              rintro e y2 ⟨rfl, hb, hk⟩
              have J2 : Hid (Ie w y2 ib #[.int .i64 v0, .int .i64 v1, .int .i64 v2, .int .i64 v3, .string ⟨#[]⟩, .string ⟨#[]⟩, .string ⟨#[]⟩] eb #[.int .i64 0]) := J1.out.call hk HZ.out.2.2.1 HZ.out.2.2.2.1 HZ.out.2.2.2.2.1
              have Q2 : Hid (Rb y2 rb ao n c b1) := hb
              obtain ⟨x1, hx1⟩ : ∃ x, strOfNums s1 = x := ⟨_, rfl⟩
              have HX1 : Hid (strOfNums s1 = x1) := hx1
              rw [hx1]
              clear hk ht1 hb hx1 J1 Q1
              go_wp2_with fail
              rcases ht2 : txtO bs b1 0 8 with _ | ⟨s2, b2⟩
              · have HT2 : Hid (txtO bs b1 0 8 = none) := ht2
                refine (text_no (HR.out.below (J2.out.below HZ.out.2.2.2.2.2.1 HZ.out.2.2.2.2.2.2)) HNC.out.1 HNC.out.2 (by omega) (by omega) Q2.out ht2).mono ?_
                rintro e y3 ⟨rfl, hk⟩
                have J3 : Hid (Ie w y3 ib #[.int .i64 v0, .int .i64 v1, .int .i64 v2, .int .i64 v3, .string ⟨#[]⟩, .string ⟨#[]⟩, .string ⟨#[]⟩] eb #[.int .i64 0]) := J2.out.call hk HZ.out.2.2.1 HZ.out.2.2.2.1 HZ.out.2.2.2.2.1
                clear hk ht2
                unfold boom
                go_wp2_with fail
                refine leaves_cons (f := 22) (args := #[.pointer (some ⟨ib, 0, none⟩), .pointer (some ⟨eb, 0, none⟩)]) (by simp) (by simp [go_sem]) ?_
                refine (catch_panicking ib eb (.int .i64 v0) (.int .i64 v1) (.int .i64 v2) (.int .i64 v3) (.string ⟨#[]⟩) (.string ⟨#[]⟩) (.string ⟨#[]⟩) (.int .i64 0) 14 [] y3 J3.out.i J3.out.e J3.out.n).mono ?_
                rintro e u' wz ⟨rfl, rfl, hi, he, hk⟩
                have ci := fun i => blk_cell hi i
                have ce := fun i => blk_cell he i
                have HF : Below w.heap.size w wz := (J3.out.below HZ.out.2.2.2.2.2.1 HZ.out.2.2.2.2.2.2).trans (hk.below (J3.out.k.size) (fun j hj e => by have := HZ.out; omega))
                have hDn : D = none := by rw [← HD.out]; unfold decO; simp [txtsO, endO, HC0.out, HC1.out, HC2.out, HC3.out, HT0.out, HT1.out, HT2.out]
                subst hDn
                simp [Leaves, settle, results, Tryz.results6, go_sem, ci, ce, decV]
                exact HF
              · have HT2 : Hid (txtO bs b1 0 8 = some (s2, b2)) := ht2
                refine (text_ok (HR.out.below (J2.out.below HZ.out.2.2.2.2.2.1 HZ.out.2.2.2.2.2.2)) HNC.out.1 HNC.out.2 (by omega) (by omega) Q2.out ht2).mono ?_
                rintro e y3 ⟨rfl, hb, hk⟩
                have J3 : Hid (Ie w y3 ib #[.int .i64 v0, .int .i64 v1, .int .i64 v2, .int .i64 v3, .string ⟨#[]⟩, .string ⟨#[]⟩, .string ⟨#[]⟩] eb #[.int .i64 0]) := J2.out.call hk HZ.out.2.2.1 HZ.out.2.2.2.1 HZ.out.2.2.2.2.1
                have Q3 : Hid (Rb y3 rb ao n c b2) := hb
                obtain ⟨x2, hx2⟩ : ∃ x, strOfNums s2 = x := ⟨_, rfl⟩
                have HX2 : Hid (strOfNums s2 = x2) := hx2
                rw [hx2]
                clear hk ht2 hb hx2 J2 Q2
                have fS4 := J3.out.fzI 4
                have qS4 : y3.cell? ⟨ib, 4, none⟩ = some (.string ⟨#[]⟩) := J3.out.cellI 4
                obtain ⟨S4, hS4⟩ : ∃ X, y3.setCell ⟨ib, 4, none⟩ (.string x0) = X := ⟨_, rfl⟩
                have IS4 : Hid (Ie w S4 ib #[.int .i64 v0, .int .i64 v1, .int .i64 v2, .int .i64 v3, .string x0, .string ⟨#[]⟩, .string ⟨#[]⟩] eb #[.int .i64 0]) := by rw [← hS4]; exact J3.out.setI 4 (.string x0)
                have RS4 : Hid (Rb S4 rb ao n c b2) := by rw [← hS4]; exact rb_set Q3.out HZ.out.2.2.2.1 _ _
                clear J3 Q3
                have fS5 := IS4.out.fzI 5
                have qS5 : S4.cell? ⟨ib, 5, none⟩ = some (.string ⟨#[]⟩) := IS4.out.cellI 5
                obtain ⟨S5, hS5⟩ : ∃ X, S4.setCell ⟨ib, 5, none⟩ (.string x1) = X := ⟨_, rfl⟩
                have IS5 : Hid (Ie w S5 ib #[.int .i64 v0, .int .i64 v1, .int .i64 v2, .int .i64 v3, .string x0, .string x1, .string ⟨#[]⟩] eb #[.int .i64 0]) := by rw [← hS5]; exact IS4.out.setI 5 (.string x1)
                have RS5 : Hid (Rb S5 rb ao n c b2) := by rw [← hS5]; exact rb_set RS4.out HZ.out.2.2.2.1 _ _
                clear IS4 RS4
                have fS6 := IS5.out.fzI 6
                have qS6 : S5.cell? ⟨ib, 6, none⟩ = some (.string ⟨#[]⟩) := IS5.out.cellI 6
                obtain ⟨S6, hS6⟩ : ∃ X, S5.setCell ⟨ib, 6, none⟩ (.string x2) = X := ⟨_, rfl⟩
                have IS6 : Hid (Ie w S6 ib #[.int .i64 v0, .int .i64 v1, .int .i64 v2, .int .i64 v3, .string x0, .string x1, .string x2] eb #[.int .i64 0]) := by rw [← hS6]; exact IS5.out.setI 6 (.string x2)
                have RS6 : Hid (Rb S6 rb ao n c b2) := by rw [← hS6]; exact rb_set RS5.out HZ.out.2.2.2.1 _ _
                clear IS5 RS5
                go_wp2_with fail
                clear fS4 qS4 hS4 fS5 qS5 hS5 fS6 qS6 hS6
                by_cases hE : b2 = n
                rotate_left
                · have HE : Hid (¬ b2 = bs.length) := by rw [HN.out.2]; exact hE
                  refine (end_no RS6.out hE).mono ?_
                  rintro e u1 ⟨rfl, hk⟩
                  have K1 : Hid (Ie w u1 ib #[.int .i64 v0, .int .i64 v1, .int .i64 v2, .int .i64 v3, .string x0, .string x1, .string x2] eb #[.int .i64 0]) := IS6.out.call hk HZ.out.2.2.1 HZ.out.2.2.2.1 HZ.out.2.2.2.2.1
                  clear hk hE
                  unfold boom
                  go_wp2_with fail
                  refine leaves_cons (f := 22) (args := #[.pointer (some ⟨ib, 0, none⟩), .pointer (some ⟨eb, 0, none⟩)]) (by simp) (by simp [go_sem]) ?_
                  refine (catch_panicking ib eb (.int .i64 v0) (.int .i64 v1) (.int .i64 v2) (.int .i64 v3) (.string x0) (.string x1) (.string x2) (.int .i64 0) 14 [] u1 K1.out.i K1.out.e K1.out.n).mono ?_
                  rintro e u' wz ⟨rfl, rfl, hi, he, hk⟩
                  have ci := fun i => blk_cell hi i
                  have ce := fun i => blk_cell he i
                  have HF : Below w.heap.size w wz := (K1.out.below HZ.out.2.2.2.2.2.1 HZ.out.2.2.2.2.2.2).trans (hk.below (K1.out.k.size) (fun j hj e => by have := HZ.out; omega))
                  have hDn : D = none := by rw [← HD.out]; unfold decO; simp [txtsO, endO, HC0.out, HC1.out, HC2.out, HC3.out, HT0.out, HT1.out, HT2.out, HE.out]
                  subst hDn
                  simp [Leaves, settle, results, Tryz.results6, go_sem, ci, ce, decV]
                  exact HF
                have HE : Hid (b2 = bs.length) := by rw [HN.out.2]; exact hE
                refine (end_ok RS6.out hE).mono ?_
                rintro e u1 ⟨rfl, hk⟩
                have K1 : Hid (Ie w u1 ib #[.int .i64 v0, .int .i64 v1, .int .i64 v2, .int .i64 v3, .string x0, .string x1, .string x2] eb #[.int .i64 0]) := IS6.out.call hk HZ.out.2.2.1 HZ.out.2.2.2.1 HZ.out.2.2.2.2.1
                clear hk hE IS6 RS6
                have c0 : u1.cell? ⟨ib, 0, none⟩ = some (.int .i64 v0) := K1.out.cellI 0
                have c1 : u1.cell? ⟨ib, 1, none⟩ = some (.int .i64 v1) := K1.out.cellI 1
                have c2 : u1.cell? ⟨ib, 2, none⟩ = some (.int .i64 v2) := K1.out.cellI 2
                have c3 : u1.cell? ⟨ib, 3, none⟩ = some (.int .i64 v3) := K1.out.cellI 3
                have c4 : u1.cell? ⟨ib, 4, none⟩ = some (.string x0) := K1.out.cellI 4
                have c5 : u1.cell? ⟨ib, 5, none⟩ = some (.string x1) := K1.out.cellI 5
                have c6 : u1.cell? ⟨ib, 6, none⟩ = some (.string x2) := K1.out.cellI 6
                go_wp2_with fail
                clear c0 c1 c2 c3 c4 c5 c6
                refine (check_any (HG.out.still (K1.out.below HZ.out.2.2.2.2.2.1 HZ.out.2.2.2.2.2.2)) x0 x1 x2).mono ?_
                rintro e u2 ⟨rfl, hk⟩
                have K2 : Hid (Ie w u2 ib #[.int .i64 v0, .int .i64 v1, .int .i64 v2, .int .i64 v3, .string x0, .string x1, .string x2] eb #[.int .i64 0]) := K1.out.still hk
                clear hk K1
                rcases hok : okC v0 v1 v2 v3 x0 x1 x2 with _ | _
                · have HO : Hid (okC v0 v1 v2 v3 x0 x1 x2 = false) := hok
                  clear hok
                  simp only [Bool.false_eq_true, if_false]
                  go_wp2_with fail
                  refine (need_no).mono ?_
                  rintro e wx ⟨rfl, rfl⟩
                  unfold boom
                  go_wp2_with fail
                  refine leaves_cons (f := 22) (args := #[.pointer (some ⟨ib, 0, none⟩), .pointer (some ⟨eb, 0, none⟩)]) (by simp) (by simp [go_sem]) ?_
                  refine (catch_panicking ib eb (.int .i64 v0) (.int .i64 v1) (.int .i64 v2) (.int .i64 v3) (.string x0) (.string x1) (.string x2) (.int .i64 0) 14 [] u2 K2.out.i K2.out.e K2.out.n).mono ?_
                  rintro e u' wz ⟨rfl, rfl, hi, he, hk⟩
                  have ci := fun i => blk_cell hi i
                  have ce := fun i => blk_cell he i
                  have HF : Below w.heap.size w wz := (K2.out.below HZ.out.2.2.2.2.2.1 HZ.out.2.2.2.2.2.2).trans (hk.below (K2.out.k.size) (fun j hj e => by have := HZ.out; omega))
                  have hDn : D = none := by rw [← HD.out]; unfold decO; simp [txtsO, endO, HC0.out, HC1.out, HC2.out, HC3.out, HT0.out, HT1.out, HT2.out, HE.out, HX0.out, HX1.out, HX2.out, HO.out]
                  subst hDn
                  simp [Leaves, settle, results, Tryz.results6, go_sem, ci, ce, decV]
                  exact HF
                · have HO : Hid (okC v0 v1 v2 v3 x0 x1 x2 = true) := hok
                  clear hok
                  simp only [if_true]
                  go_wp2_with fail
                  refine (need_yes).mono ?_
                  rintro e wx ⟨rfl, rfl⟩
                  have c0 : u2.cell? ⟨ib, 0, none⟩ = some (.int .i64 v0) := K2.out.cellI 0
                  have c1 : u2.cell? ⟨ib, 1, none⟩ = some (.int .i64 v1) := K2.out.cellI 1
                  have c2 : u2.cell? ⟨ib, 2, none⟩ = some (.int .i64 v2) := K2.out.cellI 2
                  have c3 : u2.cell? ⟨ib, 3, none⟩ = some (.int .i64 v3) := K2.out.cellI 3
                  have c4 : u2.cell? ⟨ib, 4, none⟩ = some (.string x0) := K2.out.cellI 4
                  have c5 : u2.cell? ⟨ib, 5, none⟩ = some (.string x1) := K2.out.cellI 5
                  have c6 : u2.cell? ⟨ib, 6, none⟩ = some (.string x2) := K2.out.cellI 6
                  have fU0 := K2.out.fzI 0
                  have qU0 : u2.cell? ⟨ib, 0, none⟩ = some (.int .i64 v0) := K2.out.cellI 0
                  obtain ⟨U0, hU0⟩ : ∃ X, u2.setCell ⟨ib, 0, none⟩ (.int .i64 v0) = X := ⟨_, rfl⟩
                  have IU0 : Hid (Ie w U0 ib #[.int .i64 v0, .int .i64 v1, .int .i64 v2, .int .i64 v3, .string x0, .string x1, .string x2] eb #[.int .i64 0]) := by rw [← hU0]; exact K2.out.setI 0 (.int .i64 v0)
                  clear K2 
                  have fU1 := IU0.out.fzI 1
                  have qU1 : U0.cell? ⟨ib, 1, none⟩ = some (.int .i64 v1) := IU0.out.cellI 1
                  obtain ⟨U1, hU1⟩ : ∃ X, U0.setCell ⟨ib, 1, none⟩ (.int .i64 v1) = X := ⟨_, rfl⟩
                  have IU1 : Hid (Ie w U1 ib #[.int .i64 v0, .int .i64 v1, .int .i64 v2, .int .i64 v3, .string x0, .string x1, .string x2] eb #[.int .i64 0]) := by rw [← hU1]; exact IU0.out.setI 1 (.int .i64 v1)
                  clear IU0 
                  have fU2 := IU1.out.fzI 2
                  have qU2 : U1.cell? ⟨ib, 2, none⟩ = some (.int .i64 v2) := IU1.out.cellI 2
                  obtain ⟨U2, hU2⟩ : ∃ X, U1.setCell ⟨ib, 2, none⟩ (.int .i64 v2) = X := ⟨_, rfl⟩
                  have IU2 : Hid (Ie w U2 ib #[.int .i64 v0, .int .i64 v1, .int .i64 v2, .int .i64 v3, .string x0, .string x1, .string x2] eb #[.int .i64 0]) := by rw [← hU2]; exact IU1.out.setI 2 (.int .i64 v2)
                  clear IU1 
                  have fU3 := IU2.out.fzI 3
                  have qU3 : U2.cell? ⟨ib, 3, none⟩ = some (.int .i64 v3) := IU2.out.cellI 3
                  obtain ⟨U3, hU3⟩ : ∃ X, U2.setCell ⟨ib, 3, none⟩ (.int .i64 v3) = X := ⟨_, rfl⟩
                  have IU3 : Hid (Ie w U3 ib #[.int .i64 v0, .int .i64 v1, .int .i64 v2, .int .i64 v3, .string x0, .string x1, .string x2] eb #[.int .i64 0]) := by rw [← hU3]; exact IU2.out.setI 3 (.int .i64 v3)
                  clear IU2 
                  have fU4 := IU3.out.fzI 4
                  have qU4 : U3.cell? ⟨ib, 4, none⟩ = some (.string x0) := IU3.out.cellI 4
                  obtain ⟨U4, hU4⟩ : ∃ X, U3.setCell ⟨ib, 4, none⟩ (.string x0) = X := ⟨_, rfl⟩
                  have IU4 : Hid (Ie w U4 ib #[.int .i64 v0, .int .i64 v1, .int .i64 v2, .int .i64 v3, .string x0, .string x1, .string x2] eb #[.int .i64 0]) := by rw [← hU4]; exact IU3.out.setI 4 (.string x0)
                  clear IU3 
                  have fU5 := IU4.out.fzI 5
                  have qU5 : U4.cell? ⟨ib, 5, none⟩ = some (.string x1) := IU4.out.cellI 5
                  obtain ⟨U5, hU5⟩ : ∃ X, U4.setCell ⟨ib, 5, none⟩ (.string x1) = X := ⟨_, rfl⟩
                  have IU5 : Hid (Ie w U5 ib #[.int .i64 v0, .int .i64 v1, .int .i64 v2, .int .i64 v3, .string x0, .string x1, .string x2] eb #[.int .i64 0]) := by rw [← hU5]; exact IU4.out.setI 5 (.string x1)
                  clear IU4 
                  have fU6 := IU5.out.fzI 6
                  have qU6 : U5.cell? ⟨ib, 6, none⟩ = some (.string x2) := IU5.out.cellI 6
                  obtain ⟨U6, hU6⟩ : ∃ X, U5.setCell ⟨ib, 6, none⟩ (.string x2) = X := ⟨_, rfl⟩
                  have IU6 : Hid (Ie w U6 ib #[.int .i64 v0, .int .i64 v1, .int .i64 v2, .int .i64 v3, .string x0, .string x1, .string x2] eb #[.int .i64 0]) := by rw [← hU6]; exact IU5.out.setI 6 (.string x2)
                  clear IU5 
                  have fe := IU6.out.fzE 0
                  have qe : U6.cell? ⟨eb, 0, none⟩ = some (.int .i64 0) := IU6.out.cellE 0
                  obtain ⟨U9, hU9⟩ : ∃ X, U6.setCell ⟨eb, 0, none⟩ (.int .i64 0) = X := ⟨_, rfl⟩
                  have IF : Hid (Ie w U9 ib #[.int .i64 v0, .int .i64 v1, .int .i64 v2, .int .i64 v3, .string x0, .string x1, .string x2] eb #[.int .i64 0]) := by rw [← hU9]; exact IU6.out.setE 0 (.int .i64 0)
                  clear IU6
                  go_wp2_with fail
                  refine leaves_cons (f := 22) (args := #[.pointer (some ⟨ib, 0, none⟩), .pointer (some ⟨eb, 0, none⟩)]) (by simp) (by simp [go_sem]) ?_
                  refine (catch_idle ⟨ib, 0, none⟩ ⟨eb, 0, none⟩ _).mono ?_
                  rintro e u' wz ⟨rfl, rfl, rfl⟩
                  have ci := fun i => IF.out.cellI i
                  have ce := fun i => IF.out.cellE i
                  have hDs : D = some (v0, v1, v2, v3, x0, x1, x2) := by rw [← HD.out]; unfold decO; simp [txtsO, endO, HC0.out, HC1.out, HC2.out, HC3.out, HT0.out, HT1.out, HT2.out, HE.out, HX0.out, HX1.out, HX2.out, HO.out]
                  subst hDs
                  refine ⟨.tuple #[.agg #[.int .i64 v0, .int .i64 v1, .int .i64 v2, .int .i64 v3, .string x0, .string x1, .string x2], .int .i64 0], (by simp [results, Tryz.results6, go_sem, ci, ce]), rfl, IF.out.below HZ.out.2.2.2.2.2.1 HZ.out.2.2.2.2.2.2⟩
end
end Go.Proofs.YtjgjpepmfiklfaaGreatDoor.Mx
