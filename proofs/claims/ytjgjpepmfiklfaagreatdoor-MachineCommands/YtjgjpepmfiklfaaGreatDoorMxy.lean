import Derived.Test.YtjgjpepmfiklfaaGreatDoorMxx
import Derived.Test.YtjgjpepmfiklfaaGreatDoorMxu
namespace Go.Proofs.YtjgjpepmfiklfaaGreatDoor.Mx
open Go.RowKit Mb Mh Lo
set_option linter.unusedVariables false
set_option maxRecDepth 100000
set_option linter.unusedSimpArgs false
section
variable {w w' W : World} {B : Nat}
def qd (bs : List Int) : Option Nat × Int × Int × Int × Int × ByteArray × ByteArray × ByteArray :=
  let p0 := numQ bs 0 15 (some 0)
  let p1 := numQ bs 1 4611686018427387904 p0.2
  let p2 := numQ bs 1 4611686018427387904 p1.2
  let p3 := numQ bs 1 9 p2.2
  let t0 := txtQ bs 8 p3.2
  let t1 := txtQ bs 8 t0.2
  let t2 := txtQ bs 8 t1.2
  (endQ bs t2.2, p0.1, p1.1, p2.1, p3.1, t0.1, t1.1, t2.1)
def qdO (bs : List Int) : Option (Int × Int × Int × Int × ByteArray × ByteArray × ByteArray) :=
  match qd bs with
  | (none, _) => none
  | (some _, v0, v1, v2, v3, s0, s1, s2) => if okC v0 v1 v2 v3 s0 s1 s2 = true then some (v0, v1, v2, v3, s0, s1, s2) else none
theorem narrow {bs : List Int} {a : Nat} {lo hi : Int} (h0 : 0 ≤ lo) (h1 : hi ≤ 4611686018427387904) : cntO bs a lo hi = (cntO bs a 0 4611686018427387904).bind fun p => if lo ≤ p.1 ∧ p.1 ≤ hi then some p else none := by
  unfold cntO
  obtain ⟨t, ht⟩ : ∃ t, Wm.tk bs (a : Int) = t := ⟨_, rfl⟩
  rw [ht]
  obtain ⟨x, y, z⟩ := t
  simp only
  by_cases e : z = 0 ∧ lo ≤ x ∧ x ≤ hi
  · have e' : z = 0 ∧ 0 ≤ x ∧ x ≤ 4611686018427387904 := by omega
    rw [if_pos e, if_pos e', Option.bind_some, if_pos e.2]
  · rw [if_neg e]
    by_cases e' : z = 0 ∧ 0 ≤ x ∧ x ≤ 4611686018427387904
    · rw [if_pos e', Option.bind_some, if_neg (fun h => e ⟨e'.1, h⟩)]
    · rw [if_neg e']
      rfl
theorem num_none (bs : List Int) (lo hi : Int) : numQ bs lo hi none = (0, none) := rfl
theorem txt_nn (bs : List Int) (hi : Int) : txtQ bs hi none = (⟨#[]⟩, none) := rfl
theorem qd_none {bs : List Int} : qdO bs = none ∨ ∃ x, qdO bs = some x := by cases qdO bs with | none => exact .inl rfl | some x => exact .inr ⟨x, rfl⟩
theorem num_some {bs : List Int} {a a' : Nat} {lo hi v : Int} (h : cntO bs a lo hi = some (v, a')) : numQ bs lo hi (some a) = (v, some a') := by unfold numQ; simp only [h]
theorem num_no {bs : List Int} {a : Nat} {lo hi : Int} (h : cntO bs a lo hi = none) : numQ bs lo hi (some a) = (0, none) := by unfold numQ; simp only [h]
theorem txtQ_some {bs s : List Int} {a a' : Nat} {hi : Int} (h : txtO bs a 0 hi = some (s, a')) : txtQ bs hi (some a) = (strOfNums s, some a') := by unfold txtQ; simp only [h]
theorem txtQ_no {bs : List Int} {a : Nat} {hi : Int} (h : txtO bs a 0 hi = none) : txtQ bs hi (some a) = (⟨#[]⟩, none) := by unfold txtQ; simp only [h]
theorem rest_none (bs : List Int) (v0 v1 v2 v3 : Int) : endQ bs (txtQ bs 8 (txtQ bs 8 (txtQ bs 8 none).2).2).2 = none := rfl
theorem dec_not {bs : List Int} {x} (h : decO bs = some x) : ∃ v0 a0 v1 a1 v2 a2 v3 a3, cntO bs 0 0 4611686018427387904 = some (v0, a0) ∧ cntO bs a0 0 4611686018427387904 = some (v1, a1) ∧ cntO bs a1 0 4611686018427387904 = some (v2, a2) ∧ cntO bs a2 0 4611686018427387904 = some (v3, a3) ∧ (0 ≤ v0 ∧ v0 ≤ 15) ∧ (1 ≤ v1 ∧ v1 ≤ 4611686018427387904) ∧ (1 ≤ v2 ∧ v2 ≤ 4611686018427387904) ∧ (1 ≤ v3 ∧ v3 ≤ 9) ∧ txtsO bs v0 v1 v2 v3 a3 = some x := by
  unfold decO at h
  simp only [Option.bind_eq_some_iff] at h
  obtain ⟨⟨v0, a0⟩, h0, ⟨v1, a1⟩, h1, ⟨v2, a2⟩, h2, ⟨v3, a3⟩, h3, h4⟩ := h
  refine ⟨v0, a0, v1, a1, v2, a2, v3, a3, h0, h1, h2, h3, ?_⟩
  have h5 := h4
  unfold txtsO at h5
  simp only [Option.bind_eq_some_iff] at h5
  obtain ⟨⟨s0, b0⟩, _, ⟨s1, b1⟩, _, ⟨s2, b2⟩, _, h6⟩ := h5
  unfold endO at h6
  split at h6
  · rename_i hk
    obtain ⟨r1, r2, r3, r4, _⟩ := okC_rng hk.2
    simp only at r1 r2 r3 r4 h4
    exact ⟨by omega, by omega, by omega, by omega, h4⟩
  · cases h6
theorem qd_of {bs : List Int} {v0 v1 v2 v3 : Int} {a0 a1 a2 a3 : Nat} (h0 : cntO bs 0 0 4611686018427387904 = some (v0, a0)) (h1 : cntO bs a0 0 4611686018427387904 = some (v1, a1)) (h2 : cntO bs a1 0 4611686018427387904 = some (v2, a2)) (h3 : cntO bs a2 0 4611686018427387904 = some (v3, a3)) (r0 : 0 ≤ v0 ∧ v0 ≤ 15) (r1 : 1 ≤ v1 ∧ v1 ≤ 4611686018427387904) (r2 : 1 ≤ v2 ∧ v2 ≤ 4611686018427387904) (r3 : 1 ≤ v3 ∧ v3 ≤ 9) : qdO bs = txtsO bs v0 v1 v2 v3 a3 := by
  have n0 : numQ bs 0 15 (some 0) = (v0, some a0) := num_some (by rw [narrow (by omega) (by omega), h0, Option.bind_some, if_pos r0])
  have n1 : numQ bs 1 4611686018427387904 (some a0) = (v1, some a1) := num_some (by rw [narrow (by omega) (by omega), h1, Option.bind_some, if_pos r1])
  have n2 : numQ bs 1 4611686018427387904 (some a1) = (v2, some a2) := num_some (by rw [narrow (by omega) (by omega), h2, Option.bind_some, if_pos r2])
  have n3 : numQ bs 1 9 (some a2) = (v3, some a3) := num_some (by rw [narrow (by omega) (by omega), h3, Option.bind_some, if_pos r3])
  unfold qdO qd txtsO
  simp only [n0, n1, n2, n3]
  cases k0 : txtO bs a3 0 8 with
  | none => simp [txtQ_no k0, txt_nn, endQ]
  | some p0 =>
    obtain ⟨s0, b0⟩ := p0
    simp only [txtQ_some k0, Option.bind_some]
    cases k1 : txtO bs b0 0 8 with
    | none => simp [txtQ_no k1, txt_nn, endQ]
    | some p1 =>
      obtain ⟨s1, b1⟩ := p1
      simp only [txtQ_some k1, Option.bind_some]
      cases k2 : txtO bs b1 0 8 with
      | none => simp [txtQ_no k2, endQ]
      | some p2 =>
        obtain ⟨s2, b2⟩ := p2
        simp only [txtQ_some k2, Option.bind_some, endO, endQ]
        by_cases hb : b2 = bs.length
        · simp [hb]
        · simp [hb]
theorem num_inv {bs : List Int} {lo hi v : Int} {st : Option Nat} {a' : Nat} (h0 : 0 ≤ lo) (h1 : hi ≤ 4611686018427387904) (h : numQ bs lo hi st = (v, some a')) : ∃ a, st = some a ∧ cntO bs a 0 4611686018427387904 = some (v, a') ∧ lo ≤ v ∧ v ≤ hi := by
  cases st with
  | none => simp [numQ] at h
  | some a =>
    refine ⟨a, rfl, ?_⟩
    cases hc : cntO bs a lo hi with
    | none => rw [num_no hc] at h; simp at h
    | some p =>
      obtain ⟨u, b⟩ := p
      rw [num_some hc] at h
      simp only [Prod.mk.injEq, Option.some.injEq] at h
      obtain ⟨rfl, rfl⟩ := h
      rw [narrow h0 h1] at hc
      simp only [Option.bind_eq_some_iff] at hc
      obtain ⟨⟨y, z⟩, h3, h4⟩ := hc
      split at h4
      · rename_i hr
        simp only [Option.some.injEq, Prod.mk.injEq] at h4
        obtain ⟨rfl, rfl⟩ := h4
        exact ⟨h3, hr⟩
      · cases h4
theorem qd_eq (bs : List Int) : qdO bs = decO bs := by
  cases hd : decO bs with
  | some x =>
    obtain ⟨v0, a0, v1, a1, v2, a2, v3, a3, h0, h1, h2, h3, r0, r1, r2, r3, h4⟩ := dec_not hd
    rw [qd_of h0 h1 h2 h3 r0 r1 r2 r3, h4]
  | none =>
    cases hq : qdO bs with
    | none => rfl
    | some x =>
      have key : ∃ v0 a0 v1 a1 v2 a2 v3 a3, cntO bs 0 0 4611686018427387904 = some (v0, a0) ∧ cntO bs a0 0 4611686018427387904 = some (v1, a1) ∧ cntO bs a1 0 4611686018427387904 = some (v2, a2) ∧ cntO bs a2 0 4611686018427387904 = some (v3, a3) ∧ (0 ≤ v0 ∧ v0 ≤ 15) ∧ (1 ≤ v1 ∧ v1 ≤ 4611686018427387904) ∧ (1 ≤ v2 ∧ v2 ≤ 4611686018427387904) ∧ (1 ≤ v3 ∧ v3 ≤ 9) := by
        unfold qdO qd at hq
        obtain ⟨p0, e0⟩ : ∃ p, numQ bs 0 15 (some 0) = p := ⟨_, rfl⟩
        obtain ⟨v0, st0⟩ := p0
        simp only [e0] at hq
        obtain ⟨p1, e1⟩ : ∃ p, numQ bs 1 4611686018427387904 st0 = p := ⟨_, rfl⟩
        obtain ⟨v1, st1⟩ := p1
        simp only [e1] at hq
        obtain ⟨p2, e2⟩ : ∃ p, numQ bs 1 4611686018427387904 st1 = p := ⟨_, rfl⟩
        obtain ⟨v2, st2⟩ := p2
        simp only [e2] at hq
        obtain ⟨p3, e3⟩ : ∃ p, numQ bs 1 9 st2 = p := ⟨_, rfl⟩
        obtain ⟨v3, st3⟩ := p3
        simp only [e3] at hq
        cases st3 with
        | none => simp [txt_nn, endQ] at hq
        | some a3 =>
          obtain ⟨a2, rfl, c3, r3⟩ := num_inv (by omega) (by omega) e3
          obtain ⟨a1, rfl, c2, r2⟩ := num_inv (by omega) (by omega) e2
          obtain ⟨a0, rfl, c1, r1⟩ := num_inv (by omega) (by omega) e1
          obtain ⟨z, hz, c0, r0⟩ := num_inv (by omega) (by omega) e0
          simp only [Option.some.injEq] at hz
          subst hz
          exact ⟨v0, a0, v1, a1, v2, a2, v3, a3, c0, c1, c2, c3, r0, r1, r2, r3⟩
      obtain ⟨v0, a0, v1, a1, v2, a2, v3, a3, h0, h1, h2, h3, r0, r1, r2, r3⟩ := key
      rw [qd_of h0 h1 h2 h3 r0 r1 r2 r3] at hq
      have hd2 : decO bs = txtsO bs v0 v1 v2 v3 a3 := by
        unfold decO
        simp only [h0, h1, h2, h3, Option.bind_some]
      rw [hd2, hq] at hd
      cases hd
theorem setcmd (X : World) {b : Nat} {o0 o1 o2 o3 o4 o5 o6 : Value} (v0 v1 v2 v3 v4 v5 v6 : Value) (hb : X.heap[b]? = some (.cells #[o0, o1, o2, o3, o4, o5, o6] 23 (0, 0))) : ∃ S0 S1 S2 S3 S4 S5 S6 : World, X.frozen? ⟨b, 0, none⟩ = false ∧ X.cell? ⟨b, 0, none⟩ = some o0 ∧ X.setCell ⟨b, 0, none⟩ v0 = S0 ∧ S0.frozen? ⟨b, 1, none⟩ = false ∧ S0.cell? ⟨b, 1, none⟩ = some o1 ∧ S0.setCell ⟨b, 1, none⟩ v1 = S1 ∧ S1.frozen? ⟨b, 2, none⟩ = false ∧ S1.cell? ⟨b, 2, none⟩ = some o2 ∧ S1.setCell ⟨b, 2, none⟩ v2 = S2 ∧ S2.frozen? ⟨b, 3, none⟩ = false ∧ S2.cell? ⟨b, 3, none⟩ = some o3 ∧ S2.setCell ⟨b, 3, none⟩ v3 = S3 ∧ S3.frozen? ⟨b, 4, none⟩ = false ∧ S3.cell? ⟨b, 4, none⟩ = some o4 ∧ S3.setCell ⟨b, 4, none⟩ v4 = S4 ∧ S4.frozen? ⟨b, 5, none⟩ = false ∧ S4.cell? ⟨b, 5, none⟩ = some o5 ∧ S4.setCell ⟨b, 5, none⟩ v5 = S5 ∧ S5.frozen? ⟨b, 6, none⟩ = false ∧ S5.cell? ⟨b, 6, none⟩ = some o6 ∧ S5.setCell ⟨b, 6, none⟩ v6 = S6 ∧ Hid (S6.heap[b]? = some (.cells #[v0, v1, v2, v3, v4, v5, v6] 23 (0, 0))) ∧ Hid (Kept X S6 (fun j => j = b)) := by
  obtain ⟨Y0, hY0⟩ : ∃ Y, X.setCell ⟨b, 0, none⟩ v0 = Y := ⟨_, rfl⟩
  have h0 : Y0.heap[b]? = some (.cells #[v0, o1, o2, o3, o4, o5, o6] 23 (0, 0)) := by rw [← hY0]; exact blk_set hb rfl
  have g0 : Kept X Y0 (fun j => j = b) := by rw [← hY0]; exact kset (P := fun j => j = b) _ _ _ _ rfl
  obtain ⟨Y1, hY1⟩ : ∃ Y, Y0.setCell ⟨b, 1, none⟩ v1 = Y := ⟨_, rfl⟩
  have h1 : Y1.heap[b]? = some (.cells #[v0, v1, o2, o3, o4, o5, o6] 23 (0, 0)) := by rw [← hY1]; exact blk_set h0 rfl
  have g1 : Kept Y0 Y1 (fun j => j = b) := by rw [← hY1]; exact kset (P := fun j => j = b) _ _ _ _ rfl
  obtain ⟨Y2, hY2⟩ : ∃ Y, Y1.setCell ⟨b, 2, none⟩ v2 = Y := ⟨_, rfl⟩
  have h2 : Y2.heap[b]? = some (.cells #[v0, v1, v2, o3, o4, o5, o6] 23 (0, 0)) := by rw [← hY2]; exact blk_set h1 rfl
  have g2 : Kept Y1 Y2 (fun j => j = b) := by rw [← hY2]; exact kset (P := fun j => j = b) _ _ _ _ rfl
  obtain ⟨Y3, hY3⟩ : ∃ Y, Y2.setCell ⟨b, 3, none⟩ v3 = Y := ⟨_, rfl⟩
  have h3 : Y3.heap[b]? = some (.cells #[v0, v1, v2, v3, o4, o5, o6] 23 (0, 0)) := by rw [← hY3]; exact blk_set h2 rfl
  have g3 : Kept Y2 Y3 (fun j => j = b) := by rw [← hY3]; exact kset (P := fun j => j = b) _ _ _ _ rfl
  obtain ⟨Y4, hY4⟩ : ∃ Y, Y3.setCell ⟨b, 4, none⟩ v4 = Y := ⟨_, rfl⟩
  have h4 : Y4.heap[b]? = some (.cells #[v0, v1, v2, v3, v4, o5, o6] 23 (0, 0)) := by rw [← hY4]; exact blk_set h3 rfl
  have g4 : Kept Y3 Y4 (fun j => j = b) := by rw [← hY4]; exact kset (P := fun j => j = b) _ _ _ _ rfl
  obtain ⟨Y5, hY5⟩ : ∃ Y, Y4.setCell ⟨b, 5, none⟩ v5 = Y := ⟨_, rfl⟩
  have h5 : Y5.heap[b]? = some (.cells #[v0, v1, v2, v3, v4, v5, o6] 23 (0, 0)) := by rw [← hY5]; exact blk_set h4 rfl
  have g5 : Kept Y4 Y5 (fun j => j = b) := by rw [← hY5]; exact kset (P := fun j => j = b) _ _ _ _ rfl
  obtain ⟨Y6, hY6⟩ : ∃ Y, Y5.setCell ⟨b, 6, none⟩ v6 = Y := ⟨_, rfl⟩
  have h6 : Y6.heap[b]? = some (.cells #[v0, v1, v2, v3, v4, v5, v6] 23 (0, 0)) := by rw [← hY6]; exact blk_set h5 rfl
  have g6 : Kept Y5 Y6 (fun j => j = b) := by rw [← hY6]; exact kset (P := fun j => j = b) _ _ _ _ rfl
  exact ⟨Y0, Y1, Y2, Y3, Y4, Y5, Y6, frozen_of_row _ _ _ _ _ hb, blk_cell hb 0, hY0, frozen_of_row _ _ _ _ _ h0, blk_cell h0 1, hY1, frozen_of_row _ _ _ _ _ h1, blk_cell h1 2, hY2, frozen_of_row _ _ _ _ _ h2, blk_cell h2 3, hY3, frozen_of_row _ _ _ _ _ h3, blk_cell h3 4, hY4, frozen_of_row _ _ _ _ _ h4, blk_cell h4 5, hY5, frozen_of_row _ _ _ _ _ h5, blk_cell h5 6, hY6, h6, g0.trans (g1.trans (g2.trans (g3.trans (g4.trans (g5.trans g6)))))⟩
structure Dq (w w' : World) (ib cb : Nat) (cs : Array Value) : Prop where
  i : w'.heap[ib]? = some (.cells #[.int .i64 0, .int .i64 0, .int .i64 0, .int .i64 0, .string ⟨#[]⟩, .string ⟨#[]⟩, .string ⟨#[]⟩] 23 (0, 0))
  c : w'.heap[cb]? = some (.cells cs 23 (0, 0))
  lo : Below w.heap.size w w'
  n : ib ≠ cb
  h : w.heap.size ≤ ib ∧ w.heap.size ≤ cb
theorem Dq.set {ib cb : Nat} {cs : Array Value} (h : Dq w w' ib cb cs) (i : Nat) (v : Value) : Dq w (w'.setCell ⟨cb, i, none⟩ v) ib cb (cs.setIfInBounds i v) :=
  ⟨(Below.heap_setCell w' ⟨cb, i, none⟩ v ib h.n).trans h.i, heap_setCell_same w' cb i cs 23 v h.c, h.lo.trans ((kset (P := fun j => j = cb) w' cb i v rfl).below h.lo.size (fun j hj e => by have := h.h.2; omega)), h.n, h.h⟩
theorem Dq.call {w'' : World} {ib cb rb : Nat} {cs : Array Value} (h : Dq w w' ib cb cs) (hk : Bk.Kept w' w'' (fun j => j = rb)) (hr : w.heap.size ≤ rb) (n1 : ib ≠ rb) (n2 : cb ≠ rb) : Dq w w'' ib cb cs :=
  ⟨(hk.block ib (lt_heap h.i) n1).trans h.i, (hk.block cb (lt_heap h.c) n2).trans h.c, h.lo.trans ⟨hk.os, hk.tape, hk.output, hk.size, fun j hj => hk.block j (Nat.lt_of_lt_of_le hj h.lo.size) (fun e => by omega)⟩, h.n, h.h⟩
theorem Dq.still {w'' : World} {ib cb : Nat} {cs : Array Value} (h : Dq w w' ib cb cs) (hb : Below w'.heap.size w' w'') : Dq w w'' ib cb cs :=
  ⟨(hb.block ib (lt_heap h.i)).trans h.i, (hb.block cb (lt_heap h.c)).trans h.c, Mb.bstep h.lo hb, h.n, h.h⟩
theorem Rs.set {rb n c k i : Nat} {ao : Option Addr} {st : Option Nat} {v : Value} (h : Rs w rb ao n c st) (hne : rb ≠ k) : Rs (w.setCell ⟨k, i, none⟩ v) rb ao n c st := by
  cases st with
  | none => obtain ⟨a, x, hx, hb⟩ := h; exact ⟨a, x, hx, (Below.heap_setCell w ⟨k, i, none⟩ v rb hne).trans hb⟩
  | some a => exact (Below.heap_setCell w ⟨k, i, none⟩ v rb hne).trans h
set_option maxHeartbeats 8000000 in
theorem qdec_any {ao : Option Addr} {n c : Nat} {bs : List Int} (hr : Rd w ao n c bs) (hnc : n ≤ c) (hn : n ≤ 140737488355328) : Calls Tryz.prog 14 #[.slice ao n c] w fun e w' => e = .returned (decV (decO bs)) ∧ Below w.heap.size w w' := by
  rw [← qd_eq bs]
  have HL : Hid (bs.length = n) := hr.1
  have HR : Hid (Rd w ao n c bs) := hr
  have HN : Hid (n ≤ c ∧ n ≤ 140737488355328) := ⟨hnc, hn⟩
  obtain ⟨ib, hib⟩ : ∃ x, w.heap.size = x := ⟨_, rfl⟩
  obtain ⟨A1, hA1⟩ : ∃ X, w.alloc (.cells #[.int .i64 0, .int .i64 0, .int .i64 0, .int .i64 0, .string ⟨#[]⟩, .string ⟨#[]⟩, .string ⟨#[]⟩] 23) = X := ⟨_, rfl⟩
  obtain ⟨rb, hrb⟩ : ∃ x, A1.heap.size = x := ⟨_, rfl⟩
  have z1 : rb = ib + 1 := by rw [← hrb, ← hA1, ← hib]; simp
  obtain ⟨A2, hA2⟩ : ∃ X, A1.alloc (.cells #[.slice ao n c, .int .i64 0, .int .i64 0] 71) = X := ⟨_, rfl⟩
  obtain ⟨cb, hcb⟩ : ∃ x, A2.heap.size = x := ⟨_, rfl⟩
  have z2 : cb = ib + 2 := by rw [← hcb, ← hA2]; simp [hrb]; omega
  obtain ⟨aA, aS0, aS1, aS2, aS3, aS4, aS5, X0, ahA, af0, aq0, ah0, af1, aq1, ah1, af2, aq2, ah2, af3, aq3, ah3, af4, aq4, ah4, af5, aq5, ah5, af6, aq6, ah6, aH, aB⟩ := newcmd A2 (.int .i64 0) (.int .i64 0) (.int .i64 0) (.int .i64 0) (.string ⟨#[]⟩) (.string ⟨#[]⟩) (.string ⟨#[]⟩)
  have b1 : Below w.heap.size w A1 := by rw [← hA1]; exact balloc (Below.refl _ _)
  have b2 : Below A1.heap.size A1 A2 := by rw [← hA2]; exact balloc (Below.refl _ _)
  have k1 : A1.heap[ib]? = some (.cells #[.int .i64 0, .int .i64 0, .int .i64 0, .int .i64 0, .string ⟨#[]⟩, .string ⟨#[]⟩, .string ⟨#[]⟩] 23 (0, 0)) := by rw [← hA1, ← hib]; exact heap_alloc_new w _
  have k2 : A2.heap[rb]? = some (.cells #[.slice ao n c, .int .i64 0, .int .i64 0] 71 (0, 0)) := by rw [← hA2, ← hrb]; exact heap_alloc_new A1 _
  have k2' : A2.heap[ib]? = some (.cells #[.int .i64 0, .int .i64 0, .int .i64 0, .int .i64 0, .string ⟨#[]⟩, .string ⟨#[]⟩, .string ⟨#[]⟩] 23 (0, 0)) := (b2.block _ (lt_heap k1)).trans k1
  have D0 : Hid (Dq w X0 ib cb #[.int .i64 0, .int .i64 0, .int .i64 0, .int .i64 0, .string ⟨#[]⟩, .string ⟨#[]⟩, .string ⟨#[]⟩]) := ⟨(aB.out.block _ (lt_heap k2')).trans k2', by rw [← hcb]; exact aH.out, Mb.bstep (Mb.bstep b1 b2) aB.out, by omega, by omega, by omega⟩
  have R0 : Hid (Rs X0 rb ao n c (some 0)) := (aB.out.block _ (lt_heap k2)).trans k2
  have HZ : Hid (w.heap.size ≤ rb ∧ ib ≠ rb ∧ cb ≠ rb) := ⟨by omega, by omega, by omega⟩
  rw [hcb] at af0 aq0 ah0 af1 aq1 ah1 af2 aq2 ah2 af3 aq3 ah3 af4 aq4 ah4 af5 aq5 ah5 af6 aq6 ah6
  obtain ⟨Q, hQ⟩ : ∃ Q, qdO bs = Q := ⟨_, rfl⟩
  have HQ : Hid (qdO bs = Q) := hQ
  rw [hQ]
  clear z1 z2 b1 b2 k1 k2 k2' aH aB hQ hr hnc hn
  go_enter Tryz.func14, Tryz.ntmps14
  go_wp2_with fail
  clear hA1 hA2 hrb hcb ahA af0 aq0 ah0 af1 aq1 ah1 af2 aq2 ah2 af3 aq3 ah3 af4 aq4 ah4 af5 aq5 ah5 af6 aq6 ah6
  refine (qnum_any (lo := 0) (hi := 15) R0.out (HR.out.below D0.out.lo) HN.out.2).mono ?_
  rintro e w0 ⟨rfl, hR, hk⟩
  obtain ⟨p0, hp0⟩ : ∃ p, numQ bs 0 15 (some 0) = p := ⟨_, rfl⟩
  obtain ⟨v0, s0⟩ := p0
  rw [hp0] at hR ⊢
  have E0 : Hid (numQ bs 0 15 (some 0) = (v0, s0)) := hp0
  have Dk : Dq w w0 ib cb #[.int .i64 0, .int .i64 0, .int .i64 0, .int .i64 0, .string ⟨#[]⟩, .string ⟨#[]⟩, .string ⟨#[]⟩] := D0.out.call hk HZ.out.1 HZ.out.2.1 HZ.out.2.2
  have f0 : w0.frozen? ⟨cb, 0, none⟩ = false := frozen_of_row w0 cb 0 _ _ Dk.c
  have q0 : w0.cell? ⟨cb, 0, none⟩ = some (.int .i64 0) := blk_cell Dk.c 0
  obtain ⟨X1, hX1⟩ : ∃ X, w0.setCell ⟨cb, 0, none⟩ (.int .i64 v0) = X := ⟨_, rfl⟩
  have D1 : Hid (Dq w X1 ib cb #[.int .i64 v0, .int .i64 0, .int .i64 0, .int .i64 0, .string ⟨#[]⟩, .string ⟨#[]⟩, .string ⟨#[]⟩]) := by show Dq _ _ _ _ _; rw [← hX1]; exact Dk.set 0 _
  have R1 : Hid (Rs X1 rb ao n c s0) := by show Rs _ _ _ _ _ _; rw [← hX1]; exact Rs.set hR (fun e => HZ.out.2.2 e.symm)
  clear hR hk hp0 Dk D0 R0
  go_wp2_with fail
  clear f0 q0 hX1
  refine (qnum_any (lo := 1) (hi := 4611686018427387904) R1.out (HR.out.below D1.out.lo) HN.out.2).mono ?_
  rintro e w1 ⟨rfl, hR, hk⟩
  obtain ⟨p1, hp1⟩ : ∃ p, numQ bs 1 4611686018427387904 s0 = p := ⟨_, rfl⟩
  obtain ⟨v1, s1⟩ := p1
  rw [hp1] at hR ⊢
  have E1 : Hid (numQ bs 1 4611686018427387904 s0 = (v1, s1)) := hp1
  have Dk : Dq w w1 ib cb #[.int .i64 v0, .int .i64 0, .int .i64 0, .int .i64 0, .string ⟨#[]⟩, .string ⟨#[]⟩, .string ⟨#[]⟩] := D1.out.call hk HZ.out.1 HZ.out.2.1 HZ.out.2.2
  have f1 : w1.frozen? ⟨cb, 1, none⟩ = false := frozen_of_row w1 cb 1 _ _ Dk.c
  have q1 : w1.cell? ⟨cb, 1, none⟩ = some (.int .i64 0) := blk_cell Dk.c 1
  obtain ⟨X2, hX2⟩ : ∃ X, w1.setCell ⟨cb, 1, none⟩ (.int .i64 v1) = X := ⟨_, rfl⟩
  have D2 : Hid (Dq w X2 ib cb #[.int .i64 v0, .int .i64 v1, .int .i64 0, .int .i64 0, .string ⟨#[]⟩, .string ⟨#[]⟩, .string ⟨#[]⟩]) := by show Dq _ _ _ _ _; rw [← hX2]; exact Dk.set 1 _
  have R2 : Hid (Rs X2 rb ao n c s1) := by show Rs _ _ _ _ _ _; rw [← hX2]; exact Rs.set hR (fun e => HZ.out.2.2 e.symm)
  clear hR hk hp1 Dk D1 R1
  go_wp2_with fail
  clear f1 q1 hX2
  refine (qnum_any (lo := 1) (hi := 4611686018427387904) R2.out (HR.out.below D2.out.lo) HN.out.2).mono ?_
  rintro e w2 ⟨rfl, hR, hk⟩
  obtain ⟨p2, hp2⟩ : ∃ p, numQ bs 1 4611686018427387904 s1 = p := ⟨_, rfl⟩
  obtain ⟨v2, s2⟩ := p2
  rw [hp2] at hR ⊢
  have E2 : Hid (numQ bs 1 4611686018427387904 s1 = (v2, s2)) := hp2
  have Dk : Dq w w2 ib cb #[.int .i64 v0, .int .i64 v1, .int .i64 0, .int .i64 0, .string ⟨#[]⟩, .string ⟨#[]⟩, .string ⟨#[]⟩] := D2.out.call hk HZ.out.1 HZ.out.2.1 HZ.out.2.2
  have f2 : w2.frozen? ⟨cb, 2, none⟩ = false := frozen_of_row w2 cb 2 _ _ Dk.c
  have q2 : w2.cell? ⟨cb, 2, none⟩ = some (.int .i64 0) := blk_cell Dk.c 2
  obtain ⟨X3, hX3⟩ : ∃ X, w2.setCell ⟨cb, 2, none⟩ (.int .i64 v2) = X := ⟨_, rfl⟩
  have D3 : Hid (Dq w X3 ib cb #[.int .i64 v0, .int .i64 v1, .int .i64 v2, .int .i64 0, .string ⟨#[]⟩, .string ⟨#[]⟩, .string ⟨#[]⟩]) := by show Dq _ _ _ _ _; rw [← hX3]; exact Dk.set 2 _
  have R3 : Hid (Rs X3 rb ao n c s2) := by show Rs _ _ _ _ _ _; rw [← hX3]; exact Rs.set hR (fun e => HZ.out.2.2 e.symm)
  clear hR hk hp2 Dk D2 R2
  go_wp2_with fail
  clear f2 q2 hX3
  refine (qnum_any (lo := 1) (hi := 9) R3.out (HR.out.below D3.out.lo) HN.out.2).mono ?_
  rintro e w3 ⟨rfl, hR, hk⟩
  obtain ⟨p3, hp3⟩ : ∃ p, numQ bs 1 9 s2 = p := ⟨_, rfl⟩
  obtain ⟨v3, s3⟩ := p3
  rw [hp3] at hR ⊢
  have E3 : Hid (numQ bs 1 9 s2 = (v3, s3)) := hp3
  have Dk : Dq w w3 ib cb #[.int .i64 v0, .int .i64 v1, .int .i64 v2, .int .i64 0, .string ⟨#[]⟩, .string ⟨#[]⟩, .string ⟨#[]⟩] := D3.out.call hk HZ.out.1 HZ.out.2.1 HZ.out.2.2
  have f3 : w3.frozen? ⟨cb, 3, none⟩ = false := frozen_of_row w3 cb 3 _ _ Dk.c
  have q3 : w3.cell? ⟨cb, 3, none⟩ = some (.int .i64 0) := blk_cell Dk.c 3
  obtain ⟨X4, hX4⟩ : ∃ X, w3.setCell ⟨cb, 3, none⟩ (.int .i64 v3) = X := ⟨_, rfl⟩
  have D4 : Hid (Dq w X4 ib cb #[.int .i64 v0, .int .i64 v1, .int .i64 v2, .int .i64 v3, .string ⟨#[]⟩, .string ⟨#[]⟩, .string ⟨#[]⟩]) := by show Dq _ _ _ _ _; rw [← hX4]; exact Dk.set 3 _
  have R4 : Hid (Rs X4 rb ao n c s3) := by show Rs _ _ _ _ _ _; rw [← hX4]; exact Rs.set hR (fun e => HZ.out.2.2 e.symm)
  clear hR hk hp3 Dk D3 R3
  go_wp2_with fail
  clear f3 q3 hX4
  refine (qtext_any (hi := 8) R4.out HR.out D4.out.lo HZ.out.1 HN.out.2 HN.out.1).mono ?_
  rintro e w4 ⟨rfl, hR, hk⟩
  obtain ⟨p4, hp4⟩ : ∃ p, txtQ bs 8 s3 = p := ⟨_, rfl⟩
  obtain ⟨v4, s4⟩ := p4
  rw [hp4] at hR ⊢
  have E4 : Hid (txtQ bs 8 s3 = (v4, s4)) := hp4
  have Dk : Dq w w4 ib cb #[.int .i64 v0, .int .i64 v1, .int .i64 v2, .int .i64 v3, .string ⟨#[]⟩, .string ⟨#[]⟩, .string ⟨#[]⟩] := D4.out.call hk HZ.out.1 HZ.out.2.1 HZ.out.2.2
  have f4 : w4.frozen? ⟨cb, 4, none⟩ = false := frozen_of_row w4 cb 4 _ _ Dk.c
  have q4 : w4.cell? ⟨cb, 4, none⟩ = some (.string ⟨#[]⟩) := blk_cell Dk.c 4
  obtain ⟨X5, hX5⟩ : ∃ X, w4.setCell ⟨cb, 4, none⟩ (.string v4) = X := ⟨_, rfl⟩
  have D5 : Hid (Dq w X5 ib cb #[.int .i64 v0, .int .i64 v1, .int .i64 v2, .int .i64 v3, .string v4, .string ⟨#[]⟩, .string ⟨#[]⟩]) := by show Dq _ _ _ _ _; rw [← hX5]; exact Dk.set 4 _
  have R5 : Hid (Rs X5 rb ao n c s4) := by show Rs _ _ _ _ _ _; rw [← hX5]; exact Rs.set hR (fun e => HZ.out.2.2 e.symm)
  clear hR hk hp4 Dk D4 R4
  go_wp2_with fail
  clear f4 q4 hX5
  refine (qtext_any (hi := 8) R5.out HR.out D5.out.lo HZ.out.1 HN.out.2 HN.out.1).mono ?_
  rintro e w5 ⟨rfl, hR, hk⟩
  obtain ⟨p5, hp5⟩ : ∃ p, txtQ bs 8 s4 = p := ⟨_, rfl⟩
  obtain ⟨v5, s5⟩ := p5
  rw [hp5] at hR ⊢
  have E5 : Hid (txtQ bs 8 s4 = (v5, s5)) := hp5
  have Dk : Dq w w5 ib cb #[.int .i64 v0, .int .i64 v1, .int .i64 v2, .int .i64 v3, .string v4, .string ⟨#[]⟩, .string ⟨#[]⟩] := D5.out.call hk HZ.out.1 HZ.out.2.1 HZ.out.2.2
  have f5 : w5.frozen? ⟨cb, 5, none⟩ = false := frozen_of_row w5 cb 5 _ _ Dk.c
  have q5 : w5.cell? ⟨cb, 5, none⟩ = some (.string ⟨#[]⟩) := blk_cell Dk.c 5
  obtain ⟨X6, hX6⟩ : ∃ X, w5.setCell ⟨cb, 5, none⟩ (.string v5) = X := ⟨_, rfl⟩
  have D6 : Hid (Dq w X6 ib cb #[.int .i64 v0, .int .i64 v1, .int .i64 v2, .int .i64 v3, .string v4, .string v5, .string ⟨#[]⟩]) := by show Dq _ _ _ _ _; rw [← hX6]; exact Dk.set 5 _
  have R6 : Hid (Rs X6 rb ao n c s5) := by show Rs _ _ _ _ _ _; rw [← hX6]; exact Rs.set hR (fun e => HZ.out.2.2 e.symm)
  clear hR hk hp5 Dk D5 R5
  go_wp2_with fail
  clear f5 q5 hX6
  refine (qtext_any (hi := 8) R6.out HR.out D6.out.lo HZ.out.1 HN.out.2 HN.out.1).mono ?_
  rintro e w6 ⟨rfl, hR, hk⟩
  obtain ⟨p6, hp6⟩ : ∃ p, txtQ bs 8 s5 = p := ⟨_, rfl⟩
  obtain ⟨v6, s6⟩ := p6
  rw [hp6] at hR ⊢
  have E6 : Hid (txtQ bs 8 s5 = (v6, s6)) := hp6
  have Dk : Dq w w6 ib cb #[.int .i64 v0, .int .i64 v1, .int .i64 v2, .int .i64 v3, .string v4, .string v5, .string ⟨#[]⟩] := D6.out.call hk HZ.out.1 HZ.out.2.1 HZ.out.2.2
  have f6 : w6.frozen? ⟨cb, 6, none⟩ = false := frozen_of_row w6 cb 6 _ _ Dk.c
  have q6 : w6.cell? ⟨cb, 6, none⟩ = some (.string ⟨#[]⟩) := blk_cell Dk.c 6
  obtain ⟨X7, hX7⟩ : ∃ X, w6.setCell ⟨cb, 6, none⟩ (.string v6) = X := ⟨_, rfl⟩
  have D7 : Hid (Dq w X7 ib cb #[.int .i64 v0, .int .i64 v1, .int .i64 v2, .int .i64 v3, .string v4, .string v5, .string v6]) := by show Dq _ _ _ _ _; rw [← hX7]; exact Dk.set 6 _
  have R7 : Hid (Rs X7 rb ao n c s6) := by show Rs _ _ _ _ _ _; rw [← hX7]; exact Rs.set hR (fun e => HZ.out.2.2 e.symm)
  clear hR hk hp6 Dk D6 R6
  go_wp2_with fail
  clear f6 q6 hX7
  refine (qend_any R7.out HL.out).mono ?_
  rintro e w8 ⟨rfl, hR, hk⟩
  obtain ⟨F, hF⟩ : ∃ F, endQ bs s6 = F := ⟨_, rfl⟩
  rw [hF] at hR
  have D8 : Hid (Dq w w8 ib cb #[.int .i64 v0, .int .i64 v1, .int .i64 v2, .int .i64 v3, .string v4, .string v5, .string v6]) := D7.out.call hk HZ.out.1 HZ.out.2.1 HZ.out.2.2
  have HQd : Hid (qd bs = (F, v0, v1, v2, v3, v4, v5, v6)) := by
    show qd bs = _
    unfold qd
    simp only [E0.out, E1.out, E2.out, E3.out, E4.out, E5.out, E6.out, hF]
  have ci : ∀ i, w8.cell? ⟨ib, i, none⟩ = #[.int .i64 0, .int .i64 0, .int .i64 0, .int .i64 0, .string ⟨#[]⟩, .string ⟨#[]⟩, .string ⟨#[]⟩][i]? := fun i => blk_cell D8.out.i i
  have fi : ∀ i, w8.frozen? ⟨ib, i, none⟩ = false := fun i => frozen_of_row w8 ib i _ _ D8.out.i
  clear hk hF E0 E1 E2 E3 E4 E5 E6 D7 R7
  cases F with
  | none =>
    obtain ⟨ea, ex, hex, hRR⟩ := hR
    have r2 : w8.cell? ⟨rb, 2, none⟩ = some (.int .i64 ex) := blk_cell hRR 2
    have hx1 : (ex != 0) = true := by simp [hex]
    have hQn : Q = none := by rw [← HQ.out]; unfold qdO; rw [HQd.out]
    obtain ⟨S0, S1, S2, S3, S4, S5, S6, af0, aq0, ah0, af1, aq1, ah1, af2, aq2, ah2, af3, aq3, ah3, af4, aq4, ah4, af5, aq5, ah5, af6, aq6, ah6, aH, aK⟩ := setcmd w8 (.int .i64 0) (.int .i64 0) (.int .i64 0) (.int .i64 0) (.string ⟨#[]⟩) (.string ⟨#[]⟩) (.string ⟨#[]⟩) D8.out.i
    clear hRR hex
    go_wp2_with fail
    (try simp only [Exit.inBlock, Exit.then])
    have ci : ∀ i, S6.cell? ⟨ib, i, none⟩ = #[.int .i64 0, .int .i64 0, .int .i64 0, .int .i64 0, .string ⟨#[]⟩, .string ⟨#[]⟩, .string ⟨#[]⟩][i]? := fun i => blk_cell aH.out i
    refine bodyPost_ret (v := .tuple #[.agg #[.int .i64 0, .int .i64 0, .int .i64 0, .int .i64 0, .string ⟨#[]⟩, .string ⟨#[]⟩, .string ⟨#[]⟩], .int .i64 130]) (by simp [results, Tryz.results14, go_sem, ci]) rfl ⟨?_, ?_⟩
    · rw [hQn]; rfl
    · exact D8.out.lo.trans (aK.out.below D8.out.lo.size (fun j hj e => by have := D8.out.h.1; omega))
  | some fa =>
    have r2 : w8.cell? ⟨rb, 2, none⟩ = some (.int .i64 0) := blk_cell (show RRb w8 rb ao n c (fa : Int) 0 from hR) 2
    have HRg : Hid (w8.rangeAt cb 0 [.int .i64 v0, .int .i64 v1, .int .i64 v2, .int .i64 v3, .string v4, .string v5, .string v6]) := blk_range D8.out.c
    have HCk : Hid (Calls Tryz.prog 11 #[.agg #[.int .i64 v0, .int .i64 v1, .int .i64 v2, .int .i64 v3, .string v4, .string v5, .string v6]] w8 fun e w' => e = .returned (.int .i64 (if okC v0 v1 v2 v3 v4 v5 v6 = true then 0 else 130)) ∧ Below w8.heap.size w8 w') := qcheck_any v4 v5 v6
    cases hok : okC v0 v1 v2 v3 v4 v5 v6 with
    | false =>
      have hQn : Q = none := by rw [← HQ.out]; unfold qdO; rw [HQd.out]; simp [hok]
      rw [hok] at HCk
      clear hR
      go_wp2_with (first
        | (refine load_mid 23 (.tmp 5) HRg.out _ Tryz.underlying23 rfl cmd_info rfl rfl rfl ?_)
        | fail)
      refine HCk.out.mono ?_
      rintro e w9 ⟨rfl, hb9⟩
      have D9 : Hid (Dq w w9 ib cb #[.int .i64 v0, .int .i64 v1, .int .i64 v2, .int .i64 v3, .string v4, .string v5, .string v6]) := D8.out.still hb9
      obtain ⟨S0, S1, S2, S3, S4, S5, S6, af0, aq0, ah0, af1, aq1, ah1, af2, aq2, ah2, af3, aq3, ah3, af4, aq4, ah4, af5, aq5, ah5, af6, aq6, ah6, aH, aK⟩ := setcmd w9 (.int .i64 0) (.int .i64 0) (.int .i64 0) (.int .i64 0) (.string ⟨#[]⟩) (.string ⟨#[]⟩) (.string ⟨#[]⟩) D9.out.i
      clear ci fi r2 hb9 HCk D8
      go_wp2_with fail
      (try simp only [Exit.inBlock, Exit.then])
      have ci : ∀ i, S6.cell? ⟨ib, i, none⟩ = #[.int .i64 0, .int .i64 0, .int .i64 0, .int .i64 0, .string ⟨#[]⟩, .string ⟨#[]⟩, .string ⟨#[]⟩][i]? := fun i => blk_cell aH.out i
      refine bodyPost_ret (v := .tuple #[.agg #[.int .i64 0, .int .i64 0, .int .i64 0, .int .i64 0, .string ⟨#[]⟩, .string ⟨#[]⟩, .string ⟨#[]⟩], .int .i64 130]) (by simp [results, Tryz.results14, go_sem, ci]) rfl ⟨?_, ?_⟩
      · rw [hQn]; rfl
      · exact D9.out.lo.trans (aK.out.below D9.out.lo.size (fun j hj e => by have := D9.out.h.1; omega))
    | true =>
      have hQn : Q = some (v0, v1, v2, v3, v4, v5, v6) := by rw [← HQ.out]; unfold qdO; rw [HQd.out]; simp [hok]
      rw [hok] at HCk
      clear hR
      go_wp2_with (first
        | (refine load_mid 23 (.tmp 5) HRg.out _ Tryz.underlying23 rfl cmd_info rfl rfl rfl ?_)
        | fail)
      refine HCk.out.mono ?_
      rintro e w9 ⟨rfl, hb9⟩
      have D9 : Hid (Dq w w9 ib cb #[.int .i64 v0, .int .i64 v1, .int .i64 v2, .int .i64 v3, .string v4, .string v5, .string v6]) := D8.out.still hb9
      have HRg9 : Hid (w9.rangeAt cb 0 [.int .i64 v0, .int .i64 v1, .int .i64 v2, .int .i64 v3, .string v4, .string v5, .string v6]) := blk_range D9.out.c
      obtain ⟨S0, S1, S2, S3, S4, S5, S6, af0, aq0, ah0, af1, aq1, ah1, af2, aq2, ah2, af3, aq3, ah3, af4, aq4, ah4, af5, aq5, ah5, af6, aq6, ah6, aH, aK⟩ := setcmd w9 (.int .i64 v0) (.int .i64 v1) (.int .i64 v2) (.int .i64 v3) (.string v4) (.string v5) (.string v6) D9.out.i
      clear ci fi r2 hb9 HCk D8 HRg
      go_wp2_with (first
        | (refine load_mid 23 (.tmp 5) HRg9.out _ Tryz.underlying23 rfl cmd_info rfl rfl rfl ?_)
        | fail)
      (try simp only [Exit.inBlock, Exit.then])
      have ci : ∀ i, S6.cell? ⟨ib, i, none⟩ = #[.int .i64 v0, .int .i64 v1, .int .i64 v2, .int .i64 v3, .string v4, .string v5, .string v6][i]? := fun i => blk_cell aH.out i
      refine bodyPost_ret (v := .tuple #[.agg #[.int .i64 v0, .int .i64 v1, .int .i64 v2, .int .i64 v3, .string v4, .string v5, .string v6], .int .i64 0]) (by simp [results, Tryz.results14, go_sem, ci]) rfl ⟨?_, ?_⟩
      · rw [hQn]; rfl
      · exact D9.out.lo.trans (aK.out.below D9.out.lo.size (fun j hj e => by have := D9.out.h.1; omega))
end
end Go.Proofs.YtjgjpepmfiklfaaGreatDoor.Mx
