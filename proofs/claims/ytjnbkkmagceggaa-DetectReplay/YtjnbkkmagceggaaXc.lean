import Derived.Test.YtjnbkkmagceggaaXb
namespace Go.Proofs.Ytjnbkkmagceggaa.Dt
open Go.RowKit
set_option linter.unusedVariables false
set_option maxRecDepth 100000
set_option linter.unusedSimpArgs false
section
variable {D D' : De} {w w' W V : World} {B m : Nat}
theorem and1 (x : Int) : 0 ≤ bits BinOp.and IntKind.i64 x 1 ∧ bits BinOp.and IntKind.i64 x 1 ≤ 1 := by
  have e : bits BinOp.and IntKind.i64 x 1 = IntKind.i64.wrap (((BitVec.ofInt IntKind.i64.bits x &&& BitVec.ofInt IntKind.i64.bits 1).toNat : Nat) : Int) := rfl
  rw [e]
  clear e
  have h : (BitVec.ofInt IntKind.i64.bits x &&& BitVec.ofInt IntKind.i64.bits 1).toNat ≤ 1 := by
    rw [BitVec.toNat_and]
    exact Nat.and_le_right
  generalize (BitVec.ofInt IntKind.i64.bits x &&& BitVec.ofInt IntKind.i64.bits 1).toNat = y at h
  have := wrap_id (a := (y : Int)) (by omega) (by omega)
  rw [this]
  omega
theorem info_op : (Try.prog.info? 61).map (fun i => (i.zero, i.size, i.bytes)) = some (some (.agg #[.int .i64 0, .int .i64 0, .int .i64 0, .int .i64 0, .slice none 0 0]), 5, 56) := by kernel_rfl
structure Rp (w1 V : World) (B n s : Nat) (inc step lim : Int) (b k : Nat) (v5 : Value) (D : De) (ks : List Opx) : Prop where
  ok : D.Ok V B k
  lk : Lk D n s inc step lim b
  own : ∀ g, D.own g → g < w1.heap.size
  row : RowK V w1.heap.size v5 ks
  len : ks.length ≤ k
  all : ∀ o ∈ ks, KOk D n s o
  lo : Below B w1 V
  hB : B ≤ w1.heap.size
section
variable {w1 : World} {n s b k : Nat} {inc step lim : Int} {v5 : Value} {ks : List Opx}
theorem Rp.sz (h : Rp w1 V B n s inc step lim b k v5 D ks) : w1.heap.size ≤ V.heap.size := h.lo.size
theorem Rp.still {V' : World} (h : Rp w1 V B n s inc step lim b k v5 D ks) (hb : Below V.heap.size V V') : Rp w1 V' B n s inc step lim b k v5 D ks :=
  ⟨h.ok.still hb, h.lk, h.own, h.row.still hb, h.len, h.all, h.lo.trans (hb.mono (Nat.le_trans h.hB h.sz)), h.hB⟩
theorem Rp.up (h : Rp w1 V B n s inc step lim b k v5 D ks) (hk : k + 1 ≤ 1000) : Rp w1 V B n s inc step lim b (k + 1) v5 D ks :=
  ⟨h.ok.mono (Nat.le_succ _) (by omega), h.lk, h.own, h.row, Nat.le_succ_of_le h.len, h.all, h.lo, h.hB⟩
theorem Rp.go {V' : World} {k' : Nat} (h : Rp w1 V B n s inc step lim b k v5 D ks) (T : Dtep V V' D D' B k') (hkk : k ≤ k') (h62 : k' ≤ 1000) (L : Lk D' n s inc step lim b) (ha : ∀ o, KOk D n s o → KOk D' n s o) : Rp w1 V' B n s inc step lim b k' v5 D' ks := by
  refine ⟨T.ok, L, fun g hg => h.own g ((T.own g).1 hg), ?_, Nat.le_trans h.len hkk, fun o ho => ha o (h.all o ho), h.lo.trans (T.low (h.ok.mono hkk (by omega)) (Nat.le_trans h.hB h.sz)), h.hB⟩
  exact T.kept.owns h.row (fun j hj hp => by have := h.row.ge j hj; have := h.own j hp; omega)
theorem Rp.tick {V' : World} (h : Rp w1 V B n s inc step lim b k v5 D ks) (hk : k + 1 ≤ 1000) (T : Dtep V V' D D.ticked B k) : Rp w1 V' B n s inc step lim b (k + 1) v5 D.ticked ks :=
  (h.go T (Nat.le_refl _) (by omega) h.lk.tick (fun o K => K.tick)).up hk
theorem Rp.after {V' : World} (h : Rp w1 V B n s inc step lim b k v5 D ks) (hk : k + 1 ≤ 1000) {q i t : Int} {xs : List Int} (T : Dtep V V' D (D.after q i t xs) B (k + 1)) : Rp w1 V' B n s inc step lim b (k + 1) v5 (D.after q i t xs) ks :=
  h.go T (Nat.le_succ _) hk (h.lk.after q i t xs) (fun o K => K.after q i t xs)
theorem Rp.push {V' : World} {v' : Value} {o : Opx} (h : Rp w1 V B n s inc step lim b k v5 D ks) (hl : ks.length + 1 ≤ k) (K : KOk D n s o) (ho : V'.ownsRow w1.heap.size 61 5 v' (ks.length + 1) (opCells ks ++ o.cs.toList)) (hg : V.grownBy V' v5.ownBlock) : Rp w1 V' B n s inc step lim b k v' D (ks ++ [o]) := by
  have hk := Kept.ofGrown hg
  have hno : ∀ j, D.own j → ¬ some j = v5.ownBlock := fun j hj e => by have := h.row.ge j e.symm; have := h.own j hj; omega
  refine ⟨h.ok.keep hk hno, h.lk, h.own, ?_, by simpa using hl, ?_, h.lo.trans (hk.below (Nat.le_trans h.hB h.sz) (fun j hj e => by have := h.row.ge j e.symm; have := h.hB; omega)), h.hB⟩
  · unfold RowK
    rw [opCells_app]
    simpa [opCells] using ho
  · intro x hx
    rcases List.mem_append.1 hx with h1 | h1
    · exact h.all x h1
    · simp at h1; subst h1; exact K
theorem Rp.slice (h : Rp w1 V B n s inc step lim b k v5 D ks) : ∃ a c, v5 = .slice a ks.length c := h.row.slice
theorem Rp.asked (h : Rp w1 V B n s inc step lim b k v5 D ks) : Calls Try.prog 29 #[.pointer (some ⟨b, 0, none⟩), .int .i64 n] V fun e w' => ∃ a n c, e = .returned (.slice a n c) ∧ RdI w' a n D.asked ∧ n ≤ 1000 ∧ Below V.heap.size V w' := by
  have := asked_any h.ok
  rw [h.lk.b, h.lk.n] at this
  exact this
theorem Rp.known (h : Rp w1 V B n s inc step lim b k v5 D ks) (q : Int) : Calls Try.prog 18 #[.pointer (some ⟨b, 0, none⟩), .int .i64 q] V fun e w' => e = .returned (.int .i64 (D.known q)) ∧ V = w' := by
  have := known_any h.ok q
  rw [h.lk.b] at this
  exact this
theorem Rp.heard (h : Rp w1 V B n s inc step lim b k v5 D ks) (hk : k + 1 ≤ 1000) (q i t x : Int) {g : Nat} (hg : w1.heap.size ≤ g) (hB : BlkI V g (heaI n s x)) : Calls Try.prog 15 #[.pointer (some ⟨b, 0, none⟩), .int .i64 q, .int .i64 i, .agg #[.int .i64 t, .slice (some ⟨g, 0, none⟩) n n]] V fun e w2 => e = .returned (.int .i64 (D.herr q i t (heaI n s x))) ∧ Rp w1 w2 B n s inc step lim b (k + 1) v5 (D.after q i t (heaI n s x)) ks ∧ Kept V w2 D.own := by
  have := heard_any (c := n) h.ok (by omega) q i t (hB.rd (heaI_len n s x)) (fun g' ⟨off', e⟩ ho => by
    have := h.own g' ho
    simp only [Option.some.injEq, Addr.mk.injEq] at e
    omega)
  rw [h.lk.b] at this
  exact this.mono fun e w2 ⟨e1, e2⟩ => ⟨e1, h.after hk e2, e2.kept⟩
theorem Rp.none_of (h : Rp w1 V B n s inc step lim b k v5 D ks) {g : Nat} (hg : w1.heap.size ≤ g) : ¬ D.own g := fun e => by have := h.own g e; omega
end
structure RC (V : World) (r : Nat) (n s inc : Int) (oa : Option Addr) (on oc : Nat) : Prop where
  n0 : V.cell? ⟨r, 0, none⟩ = some (.int .i64 n)
  n1 : V.cell? ⟨r, 1, none⟩ = some (.int .i64 s)
  n2 : V.cell? ⟨r, 2, none⟩ = some (.int .i64 inc)
  n6 : V.cell? ⟨r, 6, none⟩ = some (.slice oa on oc)
theorem RC.to {r : Nat} {n s inc : Int} {oa : Option Addr} {on oc : Nat} (h : RC W r n s inc oa on oc) {B : Nat} (hb : Below B W V) (h1 : r < B) : RC V r n s inc oa on oc :=
  ⟨below_to hb h1 h.n0, below_to hb h1 h.n1, below_to hb h1 h.n2, below_to hb h1 h.n6⟩

set_option maxHeartbeats 1000000 in
theorem replay_no (n s inc base step lim : Int) (oa : Option Addr) (on oc : Nat) (hno : newOk n s inc base step lim = false) : Calls Try.prog 6 #[.agg (rc n s inc base step lim oa on oc)] w fun e w' => e = .returned (.bool true) ∧ Below w.heap.size w w' := by
  generalize hW : w.alloc (.cells (rc n s inc base step lim oa on oc) 31) = W
  have hbW : Below w.heap.size w W := by rw [← hW]; exact balloc (Below.refl _ w)
  have hblk : W.heap[w.heap.size]? = some (.cells (rc n s inc base step lim oa on oc) 31 (0, 0)) := by rw [← hW]; exact heap_alloc_new w _
  obtain ⟨c0, c1, c2, c3, c4, c5, c6⟩ := run_cells hblk
  have HB : Hid (∀ w1, Calls Try.prog 9 #[.agg (rc n s inc base step lim none 0 0)] w1 fun e w' => e = .returned (.tuple #[.pointer none, .bool true]) ∧ Below w1.heap.size w1 w') := fun w1 => began_no n s inc base step lim none 0 0 hno
  have Hb : Hid (Below w.heap.size w W) := hbW
  unfold rc at hW HB ⊢
  clear hbW hblk hno
  go_enter Try.func6, Try.ntmps6
  go_wp2_with (fail)
  refine (HB.out _).mono ?_
  rintro e w1 ⟨rfl, hb1⟩
  have B1 : Hid (Below W.heap.size W w1) := hb1
  clear hb1
  go_wp2
  go_ret
  exact ⟨rfl, bstep Hb.out B1.out⟩
end
end Go.Proofs.Ytjnbkkmagceggaa.Dt
