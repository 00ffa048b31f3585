import Derived.Test.YtapenemfnngniaaPw3
import Derived.Test.YtapenemfnngniaaPr3
namespace Go.Proofs.Ytapenemfnngniaa.Qm
open Go.RowKit Mb
set_option linter.unusedVariables false
set_option maxRecDepth 100000
set_option linter.unusedSimpArgs false
section
variable {w w' W : World} {B : Nat}
theorem RdI.keep0 {P : Nat → Prop} {ao : Option Addr} {n c : Nat} {xs : List Int} (h : RdI w ao n c xs) (k : Kept w w' P) (hp : 0 < n → ∀ b off, ao = some ⟨b, off, none⟩ → ¬ P b) : RdI w' ao n c xs :=
  ⟨h.len, h.cap, h.nil, h.at_.elim (fun hh => .inl hh) (fun ⟨b, off, e, hc⟩ => .inr ⟨b, off, e, fun i hi => Kept.cell k (hc i hi) (hp (by omega) b off e)⟩)⟩
structure An (w : World) (lo hi n : Nat) (x : Value) (E : List El) : Prop where
  ll : Ll w lo n x E
  ap : Ap E
  row : ∀ q, x.ownBlock = some q → q < hi
  els : ∀ e ∈ E, ∀ q, e.b = some q → q < hi
theorem An.of {lo n : Nat} {x : Value} {E : List El} (h : Ll w lo n x E) (ha : Ap E) : An w lo w.heap.size n x E :=
  ⟨h, ha, fun q hq => (World.ownsRow.lt h.row q hq).2, fun e he q hq => (World.ownsRow.lt (h.el e he) q hq).2⟩
theorem An.keep {P : Nat → Prop} {lo hi n : Nat} {x : Value} {E : List El} (h : An w lo hi n x E) (k : Kept w w' P) (hp : ∀ q, lo ≤ q → q < hi → ¬ P q) : An w' lo hi n x E :=
  ⟨⟨k.owns h.ll.row (fun q hq => hp q (World.ownsRow.lt h.ll.row q hq).1 (h.row q hq)), fun e he => k.owns (h.ll.el e he) (fun q hq => hp q (World.ownsRow.lt (h.ll.el e he) q hq).1 (h.els e he q hq))⟩, h.ap, h.row, h.els⟩
theorem An.still {lo hi n : Nat} {x : Value} {E : List El} (h : An w lo hi n x E) (hb : Below w.heap.size w w') : An w' lo hi n x E := h.keep (Kept.ofBelow hb (fun _ => False)) (fun _ _ _ => id)
theorem An.to16 {lo hi n : Nat} {x : Value} {E : List El} {xs : List Int} (h : An w lo hi n x E) (he : E.map El.s = mnL xs) (hl : xs.length = n) : Ll w lo 16 x E ∧ ∀ e ∈ E, (listN e.s 16).length ≤ 16 := by
  have key : ∀ e ∈ E, e.s < 2 ^ n ∧ n ≤ 16 := fun e hm => by
    have h1 : e.s ∈ mnL xs := by rw [← he]; exact List.mem_map_of_mem hm
    unfold mnL at h1
    cases hok : okI xs with
    | false => rw [hok] at h1; simp at h1
    | true =>
      rw [hok] at h1
      have ho := okI_ok hok
      have hl2 : (nv xs).length = n := by rw [nv_len, hl]
      have h16 : n ≤ 16 := by rw [← hl2]; exact ho.1
      have e1 := frm_all ho
      have h2 : e.s ∈ frm (nv xs) (xs.length + 1) 0 0 := by simpa using h1
      rw [nv_len] at e1
      have h3 := (ML_mem.1 (e1.mem_iff.1 h2)).1
      rw [hl] at h3
      exact ⟨h3, h16⟩
  refine ⟨⟨h.ll.row, fun e hm => ?_⟩, fun e hm => listN_len e.s 16⟩
  rw [listN_of (key e hm).1 (key e hm).2]
  exact h.ll.el e hm
theorem app_rows {w0 : World} {ops : Array Oper} {rest : List Oper} {o : Oper} {a : Act} {Q : Exit → Act → World → Prop} (hgd : o.guard = none) (s x : Operand)
    (ho : o.op = .call { callee := .builtin .append, args := #[s, x], argTypes := #[32, 32] })
    (v : Value) (E : List El) (hs : a.eval s = v) (hown : w.ownsRow w0.heap.size 22 1 v E.length (E.map El.v)) (hb : Below w0.heap.size w0 w)
    (v2 : Value) (E2 : List El) {R : Nat} (hx : a.eval x = v2) (h2 : w.ownsRow R 22 1 v2 E2.length (E2.map El.v)) (hn : E.length + E2.length ≤ 1000000)
    (h : ∀ v' w', Hid (w'.ownsRow w0.heap.size 22 1 v' (E ++ E2).length ((E ++ E2).map El.v)) → Hid (Below w0.heap.size w0 w') → wpList Try.prog ops Q rest (a.put o.dst v') w') : wpList Try.prog ops Q (o :: rest) a w := by
  obtain ⟨i0, hi, hz0, hz1, hz2⟩ := iss_info
  rcases h2.2 with ⟨g1, g2⟩ | ⟨g, cap, cur, hv, hB, hg, hnc, hcm, hcs, htk⟩
  · obtain rfl : E2 = [] := List.eq_nil_of_length_eq_zero g2
    subst g1
    exact wpList_append_own_none hgd s x 32 ho w0.heap.size 22 i0 1 Try.underlying32 hi v E.length (E.map El.v) hs hown hx (h v w (by show World.ownsRow _ _ _ _ _ _ _; simpa using hown) hb)
  · subst hv
    refine wpList_append_own w hgd s x 32 ho w0.heap.size 22 i0 (.slice none 0 0) 1 24 Try.underlying32 hi hz0 hz1 hz2 (by rfl) (by decide) v E.length (E.map El.v) hs hown ⟨g, 0, none⟩ E2.length cap (E2.map El.v) hx (by simp) (fun j u hu => by
      rw [Addr.add_lit, Nat.zero_add, blk_cell hg]
      rw [← htk] at hu
      have hj : j < E2.length * 1 := by
        apply Classical.byContradiction
        intro hj
        rw [List.getElem?_eq_none (by rw [List.length_take]; omega)] at hu
        cases hu
      rw [List.getElem?_take_of_lt hj] at hu
      simpa using hu) (by intro u hu; obtain ⟨e, -, rfl⟩ := List.mem_map.1 hu; rfl) (by unfold maxLen; omega) (by omega) hb.size ?_
    intro v' w' h2' h3 _
    exact h v' w' (by show World.ownsRow _ _ _ _ _ _ _; rw [List.length_append, List.map_append]; exact h2') (hb.grown h3 hb.size (fun q hq => (World.ownsRow.lt hown q hq).1))
theorem app_rows2 {w0 : World} {ops : Array Oper} {rest : List Oper} {o : Oper} {a : Act} {Q : Exit → Act → World → Prop} (hgd : o.guard = none) (s x : Operand)
    (ho : o.op = .call { callee := .builtin .append, args := #[s, x], argTypes := #[32, 32] })
    (v : Value) (E : List El) (hs : a.eval s = v) (hown : w.ownsRow w0.heap.size 22 1 v E.length (E.map El.v)) (hb : Below w0.heap.size w0 w)
    (v2 : Value) (E2 : List El) {R : Nat} (hx : a.eval x = v2) (h2 : w.ownsRow R 22 1 v2 E2.length (E2.map El.v)) (hn : E.length + E2.length ≤ 1000000) (A : List El) (hA : E ++ E2 = A)
    (h : ∀ v' w', Hid (w'.ownsRow w0.heap.size 22 1 v' A.length (A.map El.v)) → Hid (Below w0.heap.size w0 w') → wpList Try.prog ops Q rest (a.put o.dst v') w') : wpList Try.prog ops Q (o :: rest) a w := by
  subst hA
  exact app_rows hgd s x ho v E hs hown hb v2 E2 hx h2 hn h
structure An0 (w : World) (lo hi n : Nat) (x : Value) (E : List El) : Prop where
  ll : Ll w lo n x E
  row : ∀ q, x.ownBlock = some q → q < hi
  els : ∀ e ∈ E, ∀ q, e.b = some q → q < hi
theorem An0.of {lo n : Nat} {x : Value} {E : List El} (h : Ll w lo n x E) : An0 w lo w.heap.size n x E :=
  ⟨h, fun q hq => (World.ownsRow.lt h.row q hq).2, fun e he q hq => (World.ownsRow.lt (h.el e he) q hq).2⟩
theorem An0.keep {P : Nat → Prop} {lo hi n : Nat} {x : Value} {E : List El} (h : An0 w lo hi n x E) (k : Kept w w' P) (hp : ∀ q, lo ≤ q → q < hi → ¬ P q) : An0 w' lo hi n x E :=
  ⟨⟨k.owns h.ll.row (fun q hq => hp q (World.ownsRow.lt h.ll.row q hq).1 (h.row q hq)), fun e he => k.owns (h.ll.el e he) (fun q hq => hp q (World.ownsRow.lt (h.ll.el e he) q hq).1 (h.els e he q hq))⟩, h.row, h.els⟩
theorem An0.still {lo hi n : Nat} {x : Value} {E : List El} (h : An0 w lo hi n x E) (hb : Below w.heap.size w w') : An0 w' lo hi n x E := h.keep (Kept.ofBelow hb (fun _ => False)) (fun _ _ _ => id)
structure Dt where
  n : Nat
  m : Nat
  xs : List Int
  ys : List Int
  fb : Nat
  fc : Nat
  rb : Nat
  rc : Nat
  vo : Option Addr
  vc : Nat
  oo : Option Addr
  oc : Nat
  w0 : World
  x : Nat → Value
  E : Nat → List El
  t : Nat → Nat
structure Bs (D : Dt) (V : World) : Prop where
  bw : Below D.w0.heap.size D.w0 V
  wt : D.w0.heap.size ≤ D.t 0
  tl : D.t 7 ≤ V.heap.size
  f : RdI V (some ⟨D.fb, 0, none⟩) (D.n + 64) D.fc (D.xs ++ mks 64)
  fl : D.fb < D.t 0
  r : RdI V (some ⟨D.rb, 0, none⟩) (D.m + 64) D.rc (D.ys ++ mks 64)
  rl : D.rb < D.t 0
  v : RdI V D.vo D.n D.vc D.xs
  vl : 0 < D.n → ∀ b off, D.vo = some ⟨b, off, none⟩ → b < D.t 0
  o : RdI V D.oo D.m D.oc D.ys
  ol : 0 < D.m → ∀ b off, D.oo = some ⟨b, off, none⟩ → b < D.t 0
  up : ∀ i, D.t i ≤ D.t (i + 1)
  n1 : D.n ≤ 17592186043904
  m1 : D.m ≤ 17592186043904
  a6 : An0 V (D.t 5) (D.t 6) D.n (D.x 6) (D.E 6)
  a7 : An0 V (D.t 6) (D.t 7) D.m (D.x 7) (D.E 7)
  e6 : (D.E 6).map El.s = mnL D.xs
  e7 : (D.E 7).map El.s = mnL D.ys
structure Sv (D : Dt) (V : World) : Prop where
  bs : Bs D V
  a1 : An V (D.t 0) (D.t 1) D.n (D.x 1) (D.E 1)
  a2 : An V (D.t 1) (D.t 2) D.m (D.x 2) (D.E 2)
  a3 : An V (D.t 2) (D.t 3) D.n (D.x 3) (D.E 3)
  a4 : An V (D.t 3) (D.t 4) D.m (D.x 4) (D.E 4)
  a5 : An V (D.t 4) (D.t 5) D.m (D.x 5) (D.E 5)
  e1 : (D.E 1).map El.s = mnL D.xs
  e2 : (D.E 2).map El.s = mnL D.ys
  e3 : (D.E 3).map El.s = mnL D.xs
  e4 : (D.E 4).map El.s = mnL D.ys
  e5 : (D.E 5).map El.s = mnL D.ys
theorem ups {t : Nat → Nat} (h : ∀ i, t i ≤ t (i + 1)) (i : Nat) : ∀ k, t i ≤ t (i + k)
  | 0 => Nat.le_refl _
  | k + 1 => Nat.le_trans (ups h i k) (h (i + k))
theorem Bs.keep {D : Dt} {V V' : World} {P : Nat → Prop} (h : Bs D V) (k : Kept V V' P) (hp : ∀ q, P q → D.t 0 ≤ q ∧ q < D.t 5) : Bs D V' :=
  ⟨bstepK h.bw k (fun j hj hP => by have := (hp _ hP).1; have := h.wt; omega), h.wt, Nat.le_trans h.tl k.size, h.f.keep0 k (fun _ b off e hP => by cases e; have := (hp _ hP).1; have := h.fl; omega), h.fl, h.r.keep0 k (fun _ b off e hP => by cases e; have := (hp _ hP).1; have := h.rl; omega), h.rl,
    h.v.keep0 k (fun h0 b off e hP => by have := (hp _ hP).1; have := h.vl h0 b off e; omega), h.vl, h.o.keep0 k (fun h0 b off e hP => by have := (hp _ hP).1; have := h.ol h0 b off e; omega), h.ol, h.up, h.n1, h.m1,
    h.a6.keep k (fun q hl _ hP => by have := (hp _ hP).2; omega), h.a7.keep k (fun q hl _ hP => by have := (hp _ hP).2; have : D.t 5 ≤ D.t 6 := h.up 5; omega), h.e6, h.e7⟩
theorem Bs.still {D : Dt} {V V' : World} (h : Bs D V) (hb : Below V.heap.size V V') : Bs D V' := h.keep (Kept.ofBelow hb (fun _ => False)) (fun _ => False.elim)
theorem Sv.still {D : Dt} {V V' : World} (h : Sv D V) (hb : Below V.heap.size V V') : Sv D V' :=
  ⟨h.bs.still hb, h.a1.still hb, h.a2.still hb, h.a3.still hb, h.a4.still hb, h.a5.still hb, h.e1, h.e2, h.e3, h.e4, h.e5⟩
theorem Sv.g1 {D : Dt} {V V' : World} (h : Sv D V) (k : Kept V V' (fun i => some i = (D.x 1).ownBlock)) (hl : Ll V' (D.t 0) D.n (D.x 1) (D.E 1)) : Sv D V' := by
  have hu := h.bs.up
  have key : ∀ q, some q = (D.x 1).ownBlock → D.t 0 ≤ q ∧ q < D.t 1 := fun q hq => ⟨(World.ownsRow.lt h.a1.ll.row q hq.symm).1, h.a1.row q hq.symm⟩
  have u1 : D.t 1 ≤ D.t 2 := hu 1; have u2 : D.t 2 ≤ D.t 3 := hu 2; have u3 : D.t 3 ≤ D.t 4 := hu 3; have u4 : D.t 4 ≤ D.t 5 := hu 4
  exact ⟨h.bs.keep k (fun q hq => by have := key q hq; omega), ⟨hl, h.a1.ap, h.a1.row, h.a1.els⟩, h.a2.keep k (fun q h1 _ hq => by have := key q hq; omega), h.a3.keep k (fun q h1 _ hq => by have := key q hq; omega), h.a4.keep k (fun q h1 _ hq => by have := key q hq; omega), h.a5.keep k (fun q h1 _ hq => by have := key q hq; omega), h.e1, h.e2, h.e3, h.e4, h.e5⟩
theorem Sv.g2 {D : Dt} {V V' : World} (h : Sv D V) (k : Kept V V' (fun i => some i = (D.x 2).ownBlock)) (hl : Ll V' (D.t 1) D.m (D.x 2) (D.E 2)) : Sv D V' := by
  have hu := h.bs.up
  have key : ∀ q, some q = (D.x 2).ownBlock → D.t 1 ≤ q ∧ q < D.t 2 := fun q hq => ⟨(World.ownsRow.lt h.a2.ll.row q hq.symm).1, h.a2.row q hq.symm⟩
  have u0 : D.t 0 ≤ D.t 1 := hu 0; have u1 : D.t 1 ≤ D.t 2 := hu 1; have u2 : D.t 2 ≤ D.t 3 := hu 2; have u3 : D.t 3 ≤ D.t 4 := hu 3; have u4 : D.t 4 ≤ D.t 5 := hu 4
  exact ⟨h.bs.keep k (fun q hq => by have := key q hq; omega), h.a1.keep k (fun q h1 _ hq => by have := key q hq; omega), ⟨hl, h.a2.ap, h.a2.row, h.a2.els⟩, h.a3.keep k (fun q h1 _ hq => by have := key q hq; omega), h.a4.keep k (fun q h1 _ hq => by have := key q hq; omega), h.a5.keep k (fun q h1 _ hq => by have := key q hq; omega), h.e1, h.e2, h.e3, h.e4, h.e5⟩
theorem mn_len {E : List El} {xs : List Int} (h : E.map El.s = mnL xs) : E.length ≤ 65536 := by
  have h1 := congrArg List.length h
  rw [List.length_map] at h1
  have := mnL_len xs
  omega
theorem Sv.lists16 {D : Dt} {V : World} (h : Sv D V) : Calls Try.prog 15 #[D.x 1, D.x 6] V fun e w' => e = .returned (.bool true) ∧ Sv D w' :=
  (lists_yes h.a1.ll h.bs.a6.ll (h.e1.trans h.bs.e6.symm) (by have := h.bs.n1; omega) (by have := mn_len h.e1; omega)).mono fun e w' ⟨h1, h2⟩ => ⟨h1, h.still h2⟩
theorem Sv.lists36 {D : Dt} {V : World} (h : Sv D V) : Calls Try.prog 15 #[D.x 3, D.x 6] V fun e w' => e = .returned (.bool true) ∧ Sv D w' :=
  (lists_yes h.a3.ll h.bs.a6.ll (h.e3.trans h.bs.e6.symm) (by have := h.bs.n1; omega) (by have := mn_len h.e3; omega)).mono fun e w' ⟨h1, h2⟩ => ⟨h1, h.still h2⟩
theorem Sv.lists27 {D : Dt} {V : World} (h : Sv D V) : Calls Try.prog 15 #[D.x 2, D.x 7] V fun e w' => e = .returned (.bool true) ∧ Sv D w' :=
  (lists_yes h.a2.ll h.bs.a7.ll (h.e2.trans h.bs.e7.symm) (by have := h.bs.m1; omega) (by have := mn_len h.e2; omega)).mono fun e w' ⟨h1, h2⟩ => ⟨h1, h.still h2⟩
theorem Sv.lists47 {D : Dt} {V : World} (h : Sv D V) : Calls Try.prog 15 #[D.x 4, D.x 7] V fun e w' => e = .returned (.bool true) ∧ Sv D w' :=
  (lists_yes h.a4.ll h.bs.a7.ll (h.e4.trans h.bs.e7.symm) (by have := h.bs.m1; omega) (by have := mn_len h.e4; omega)).mono fun e w' ⟨h1, h2⟩ => ⟨h1, h.still h2⟩
theorem Sv.lists57 {D : Dt} {V : World} (h : Sv D V) : Calls Try.prog 15 #[D.x 5, D.x 7] V fun e w' => e = .returned (.bool true) ∧ Sv D w' :=
  (lists_yes h.a5.ll h.bs.a7.ll (h.e5.trans h.bs.e7.symm) (by have := h.bs.m1; omega) (by have := mn_len h.e5; omega)).mono fun e w' ⟨h1, h2⟩ => ⟨h1, h.still h2⟩
theorem Sv.grown1 {D : Dt} {V : World} (h : Sv D V) : Calls Try.prog 17 #[D.x 1, D.x 6] V fun e w' => e = .returned (.bool true) ∧ Sv D w' := by
  refine (grown_yes h.a1.ll h.bs.a6.ll (h.e1.trans h.bs.e6.symm) (by have := h.bs.n1; omega) (by have := mn_len h.e1; omega) ?_ ?_).mono fun e w' ⟨h1, h2, h3⟩ => ⟨h1, h.g1 h3 h2⟩
  · have h1 := ups h.bs.up 0 0
    have h3 := ups h.bs.up 0 7
    simp only [Nat.zero_add, Nat.add_zero, Nat.reduceAdd] at h3
    have h4 := h.bs.tl
    omega
  · intro g hg e
    have h1 := h.a1.row g hg
    have h2 := (World.ownsRow.lt h.bs.a6.ll.row g e).1
    have h3 := ups h.bs.up 1 4
    simp only [Nat.reduceAdd] at h3
    omega
theorem Sv.grown2 {D : Dt} {V : World} (h : Sv D V) : Calls Try.prog 17 #[D.x 2, D.x 7] V fun e w' => e = .returned (.bool true) ∧ Sv D w' := by
  refine (grown_yes h.a2.ll h.bs.a7.ll (h.e2.trans h.bs.e7.symm) (by have := h.bs.m1; omega) (by have := mn_len h.e2; omega) ?_ ?_).mono fun e w' ⟨h1, h2, h3⟩ => ⟨h1, h.g2 h3 h2⟩
  · have h1 := ups h.bs.up 0 1
    have h3 := ups h.bs.up 1 6
    simp only [Nat.zero_add, Nat.add_zero, Nat.reduceAdd] at h3
    have h4 := h.bs.tl
    omega
  · intro g hg e
    have h1 := h.a2.row g hg
    have h2 := (World.ownsRow.lt h.bs.a7.ll.row g e).1
    have h3 := ups h.bs.up 2 4
    simp only [Nat.reduceAdd] at h3
    omega
theorem Bs.last {D : Dt} {V : World} (h : Bs D V) : Calls Try.prog 9 #[.slice (some ⟨D.fb, 0, none⟩) D.n D.fc] V fun e w' => ∃ x, e = .returned (.tuple #[x, .int .i64 (chkE D.xs)]) ∧ Bs D w' ∧ ∀ V', Bs D V' → Below w'.heap.size w' V' → Calls Try.prog 15 #[x, D.x 6] V' fun e w2 => e = .returned (.bool true) ∧ Bs D w2 := by
  have h1 := h.f.take (m := D.n) (by omega)
  rw [← h.v.len, List.take_left, h.v.len] at h1
  refine (minT2 h1).mono fun e w' ⟨x, E, e1, e2, e3, e4, _⟩ => ⟨x, e1, h.still e4, fun V' hV' hb => ?_⟩
  exact (lists_yes (e3.still hb) hV'.a6.ll (e2.trans hV'.e6.symm) (by have := h.n1; omega) (by have := mn_len e2; omega)).mono fun e w2 ⟨h1, h2⟩ => ⟨h1, hV'.still h2⟩
def all5 (D : Dt) : List El := [] ++ D.E 1 ++ D.E 2 ++ D.E 3 ++ D.E 4 ++ D.E 5
theorem Sv.al {D : Dt} {V W0 : World} {v : Value} (h : Sv D V) (hr : V.ownsRow W0.heap.size 22 1 v (all5 D).length ((all5 D).map El.v)) (hB : D.t 0 ≤ W0.heap.size) : Al V (D.t 0) v (all5 D) (fun i => zi (listN ((all5 D).getD i el0).s 16)) := by
  have hu := h.bs.up
  have u0 : D.t 0 ≤ D.t 1 := hu 0; have u1 : D.t 1 ≤ D.t 2 := hu 1; have u2 : D.t 2 ≤ D.t 3 := hu 2; have u3 : D.t 3 ≤ D.t 4 := hu 3; have u4 : D.t 4 ≤ D.t 5 := hu 4
  have q1 := (h.a1.to16 h.e1 h.bs.v.len).1
  have q2 := (h.a2.to16 h.e2 h.bs.o.len).1
  have q3 := (h.a3.to16 h.e3 h.bs.v.len).1
  have q4 := (h.a4.to16 h.e4 h.bs.o.len).1
  have q5 := (h.a5.to16 h.e5 h.bs.o.len).1
  have lo : ∀ {l2 hi n : Nat} {x : Value} {F : List El}, An V l2 hi n x F → ∀ e ∈ F, ∀ q, e.b = some q → l2 ≤ q := fun h e he q hq => (World.ownsRow.lt (h.ll.el e he) q hq).1
  refine ⟨own_lower hr hB, fun i hi => ?_, ?_⟩
  · rw [zi_len]
    have hm := mem_getD hi
    have key : ∀ e ∈ all5 D, V.ownsRow (D.t 0) 3 1 e.v (listN e.s 16).length (ints (zi (listN e.s 16))) := fun e he => by
      simp only [all5, List.nil_append, List.mem_append] at he
      rcases he with (((he | he) | he) | he) | he
      · exact q1.el e he
      · exact own_lower (q2.el e he) (by omega)
      · exact own_lower (q3.el e he) (by omega)
      · exact own_lower (q4.el e he) (by omega)
      · exact own_lower (q5.el e he) (by omega)
    exact key _ hm
  · unfold all5
    rw [List.nil_append]
    have b1 : ∀ e ∈ D.E 1, ∀ g, e.b = some g → g < D.t 1 := h.a1.els
    have b2 : ∀ e ∈ D.E 1 ++ D.E 2, ∀ g, e.b = some g → g < D.t 2 := fun e he g hg => by
      rcases List.mem_append.1 he with h1 | h1
      · have := b1 e h1 g hg; omega
      · exact h.a2.els e h1 g hg
    have b3 : ∀ e ∈ D.E 1 ++ D.E 2 ++ D.E 3, ∀ g, e.b = some g → g < D.t 3 := fun e he g hg => by
      rcases List.mem_append.1 he with h1 | h1
      · have := b2 e h1 g hg; omega
      · exact h.a3.els e h1 g hg
    have b4 : ∀ e ∈ D.E 1 ++ D.E 2 ++ D.E 3 ++ D.E 4, ∀ g, e.b = some g → g < D.t 4 := fun e he g hg => by
      rcases List.mem_append.1 he with h1 | h1
      · have := b3 e h1 g hg; omega
      · exact h.a4.els e h1 g hg
    exact ap_app (ap_app (ap_app (ap_app h.a1.ap h.a2.ap b1 (lo h.a2)) h.a3.ap b2 (lo h.a3)) h.a4.ap b3 (lo h.a4)) h.a5.ap b4 (lo h.a5)
theorem Sv.inE5 {D : Dt} {V : World} (h : Sv D V) : ∀ q, inE (all5 D) q → D.t 0 ≤ q ∧ q < D.t 5 := fun q ⟨i, hi, hq⟩ => by
  have hu := h.bs.up
  have u0 : D.t 0 ≤ D.t 1 := hu 0; have u1 : D.t 1 ≤ D.t 2 := hu 1; have u2 : D.t 2 ≤ D.t 3 := hu 2; have u3 : D.t 3 ≤ D.t 4 := hu 3; have u4 : D.t 4 ≤ D.t 5 := hu 4
  have lo : ∀ {l2 hi n : Nat} {x : Value} {F : List El}, An V l2 hi n x F → ∀ e ∈ F, ∀ q, e.b = some q → l2 ≤ q ∧ q < hi := fun h e he q hq => ⟨(World.ownsRow.lt (h.ll.el e he) q hq).1, h.els e he q hq⟩
  have hm := mem_getD hi
  generalize (all5 D).getD i el0 = e at *
  simp only [all5, List.nil_append, List.mem_append] at hm
  rcases hm with (((he | he) | he) | he) | he
  · have := lo h.a1 e he q hq; omega
  · have := lo h.a2 e he q hq; omega
  · have := lo h.a3 e he q hq; omega
  · have := lo h.a4 e he q hq; omega
  · have := lo h.a5 e he q hq; omega
end
end Go.Proofs.Ytapenemfnngniaa.Qm
