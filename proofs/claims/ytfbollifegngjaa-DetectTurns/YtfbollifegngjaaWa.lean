import Derived.Test.YtfbollifegngjaaVr
namespace Go.Proofs.Ytfbollifegngjaa.Dt
open Go.RowKit
set_option linter.unusedVariables false
set_option maxRecDepth 100000
set_option linter.unusedSimpArgs false
structure Pst where
  k : Int
  q : Int
  inc : Int
  t : Int
  mu : Bool
def Pst.cs (x : Pst) : Array Value := #[.int .i64 x.k, .int .i64 x.q, .int .i64 x.inc, .int .i64 x.t, .bool x.mu]
def x0 : Pst := ⟨0, 0, 0, 0, false⟩
def psCells (xs : List Pst) : List Value := xs.flatMap fun x => x.cs.toList
theorem psCells_app (a b : List Pst) : psCells (a ++ b) = psCells a ++ psCells b := by simp [psCells]
theorem psCells_len (xs : List Pst) : (psCells xs).length = xs.length * 5 := by
  induction xs with
  | nil => rfl
  | cons x xs ih => simp only [psCells, List.flatMap_cons, List.length_append] at ih ⊢; rw [ih]; simp [Pst.cs]; omega
theorem psCells_one (xs : List Pst) : ∀ u ∈ psCells xs, u.oneCell' = true := by
  intro u hu
  simp only [psCells, List.mem_flatMap] at hu
  obtain ⟨x, _, hx⟩ := hu
  simp [Pst.cs] at hx
  rcases hx with rfl | rfl | rfl | rfl | rfl <;> rfl
theorem psCells_get (xs : List Pst) (i : Nat) (hi : i < xs.length) (j : Nat) (hj : j < 5) : (psCells xs)[i * 5 + j]? = (xs.getD i x0).cs[j]? := by
  induction xs generalizing i with
  | nil => simp at hi
  | cons x xs ih =>
    have hl : x.cs.toList.length = 5 := rfl
    cases i with
    | zero =>
      simp only [psCells, List.flatMap_cons, Nat.zero_mul, Nat.zero_add]
      rw [List.getElem?_append_left (by rw [hl]; exact hj)]
      simp
    | succ i =>
      have := ih i (by simpa using hi)
      simp only [psCells, List.flatMap_cons] at this ⊢
      rw [List.getElem?_append_right (by rw [hl]; omega), hl, show (i + 1) * 5 + j - 5 = i * 5 + j by omega, this]
      simp
structure Py where
  known : Int
  last : Int
  age : Int
  ticks : Int
  wrong : Int
  heard : Bool
  both : Bool
  left : Bool
def Py.cs (p : Py) : Array Value := #[.int .i64 p.known, .int .i64 p.last, .int .i64 p.age, .int .i64 p.ticks, .int .i64 p.wrong, .bool p.heard, .bool p.both, .bool p.left]
def py0 (base : Int) : Py := ⟨0, 0, 0, base, 0, false, false, false⟩
def Py.meet (p : Py) (inc step lim : Int) : Py := if p.known < inc then { p with known := inc } else if p.heard = false ∧ p.left = false then { p with wrong := p.wrong + 1, ticks := if lim < p.ticks + step then lim else p.ticks + step } else p
def Py.beat (p : Py) (x : Pst) (step lim : Int) : Py := { p.meet x.inc step lim with heard := !p.left, last := x.t, age := 0, both := x.mu }
def Py.next (p : Py) (q step lim : Int) (x : Pst) : Py :=
  if x.k = 3 then { p with left := true, heard := false }
  else if x.k = 1 ∧ p.heard = true then { p with age := p.age + 1, heard := decide (p.age + 1 ≤ p.ticks) }
  else if x.k = 2 ∧ x.q = q then p.beat x step lim
  else p
def ofP (base step lim q : Int) (xs : List Pst) : Py := xs.foldl (fun p x => p.next q step lim x) (py0 base)
theorem ofP_app (base step lim q : Int) (xs : List Pst) (x : Pst) : ofP base step lim q (xs ++ [x]) = (ofP base step lim q xs).next q step lim x := by simp [ofP]
structure Py.In (p : Py) (lim : Int) (m : Nat) : Prop where
  age : 0 ≤ p.age ∧ p.age ≤ 65
  ticks : 1 ≤ p.ticks ∧ p.ticks ≤ lim
  wrong : 0 ≤ p.wrong ∧ p.wrong ≤ m
  heard : p.heard = true → p.age ≤ p.ticks
  left : p.left = true → p.heard = false
theorem Py.In.next {p : Py} {lim q step : Int} {m : Nat} (h : p.In lim m) (hl : lim ≤ 64) (hs : 1 ≤ step) (x : Pst) : (p.next q step lim x).In lim (m + 1) := by
  obtain ⟨h1, h2, h3, h4, h5⟩ := h
  unfold Py.next
  by_cases e3 : x.k = 3
  · rw [if_pos e3]
    exact ⟨h1, h2, ⟨h3.1, by have := h3.2; show p.wrong ≤ ((m + 1 : Nat) : Int); omega⟩, (fun e => by cases e), fun _ => rfl⟩
  · rw [if_neg e3]
    by_cases e1 : x.k = 1 ∧ p.heard = true
    · rw [if_pos e1]
      have h6 := h4 e1.2
      refine ⟨⟨by show 0 ≤ p.age + 1; omega, by show p.age + 1 ≤ 65; omega⟩, h2, ⟨h3.1, by have := h3.2; show p.wrong ≤ ((m + 1 : Nat) : Int); omega⟩, fun e => of_decide_eq_true e, fun e => ?_⟩
      have := h5 e
      rw [e1.2] at this
      cases this
    · rw [if_neg e1]
      by_cases e2 : x.k = 2 ∧ x.q = q
      · rw [if_pos e2]
        unfold Py.beat Py.meet
        have hw : p.wrong ≤ ((m + 1 : Nat) : Int) := by have := h3.2; omega
        have hz : (!p.left) = true → (0 : Int) ≤ p.ticks := fun _ => by omega
        have hz2 : p.left = true → (!p.left) = false := fun e => by rw [e]; rfl
        by_cases f1 : p.known < x.inc
        · simp only [f1, if_true]
          exact ⟨⟨by show (0 : Int) ≤ 0; omega, by show (0 : Int) ≤ 65; omega⟩, h2, ⟨h3.1, hw⟩, hz, hz2⟩
        · simp only [f1, if_false]
          by_cases f2 : p.heard = false ∧ p.left = false
          · rw [if_pos f2]
            by_cases f3 : lim < p.ticks + step
            · simp only [f3, if_true]
              exact ⟨⟨by show (0 : Int) ≤ 0; omega, by show (0 : Int) ≤ 65; omega⟩, ⟨by show 1 ≤ lim; omega, by show lim ≤ lim; omega⟩, ⟨by show 0 ≤ p.wrong + 1; omega, by show p.wrong + 1 ≤ ((m + 1 : Nat) : Int); omega⟩, fun _ => by show (0 : Int) ≤ lim; omega, hz2⟩
            · simp only [f3, if_false]
              exact ⟨⟨by show (0 : Int) ≤ 0; omega, by show (0 : Int) ≤ 65; omega⟩, ⟨by show 1 ≤ p.ticks + step; omega, by show p.ticks + step ≤ lim; omega⟩, ⟨by show 0 ≤ p.wrong + 1; omega, by show p.wrong + 1 ≤ ((m + 1 : Nat) : Int); omega⟩, fun _ => by show (0 : Int) ≤ p.ticks + step; omega, hz2⟩
          · rw [if_neg f2]
            exact ⟨⟨by show (0 : Int) ≤ 0; omega, by show (0 : Int) ≤ 65; omega⟩, h2, ⟨h3.1, hw⟩, hz, hz2⟩
      · rw [if_neg e2]
        exact ⟨h1, h2, ⟨h3.1, by have := h3.2; omega⟩, h4, h5⟩
theorem ofP_in {base step lim : Int} (q : Int) (hl : lim ≤ 64) (hs : 1 ≤ step) (hb : 1 ≤ base ∧ base ≤ lim) (xs : List Pst) : (ofP base step lim q xs).In lim xs.length := by
  suffices h : ∀ (n : Nat) (xs : List Pst), xs.length = n → (ofP base step lim q xs).In lim n from h _ xs rfl
  intro n
  induction n with
  | zero =>
    intro xs hx
    rw [List.eq_nil_of_length_eq_zero hx]
    exact ⟨⟨by show (0 : Int) ≤ 0; omega, by show (0 : Int) ≤ 65; omega⟩, hb, ⟨by show (0 : Int) ≤ 0; omega, by show (0 : Int) ≤ ((0 : Nat) : Int); omega⟩, (fun e => by cases e), (fun e => by cases e)⟩
  | succ n ih =>
    intro xs hx
    have hne : xs ≠ [] := by intro e; rw [e] at hx; simp at hx
    have e := List.dropLast_concat_getLast hne
    rw [← e, ofP_app]
    exact (ih xs.dropLast (by simp [hx])).next hl hs _
structure Rf where
  b : Nat
  n : Nat
  s : Nat
  inc : Int
  base : Int
  step : Int
  lim : Int
  all : List Pst
  va : Option Addr
  vc : Nat
def Rf.cs (R : Rf) : Array Value := #[.int .i64 (R.n : Int), .int .i64 (R.s : Int), .int .i64 R.inc, .int .i64 R.base, .int .i64 R.step, .int .i64 R.lim, .slice R.va R.all.length R.vc]
def Rf.own (R : Rf) (j : Nat) : Prop := j = R.b ∨ (Value.slice R.va R.all.length R.vc).ownBlock = some j
structure Rf.Ok (R : Rf) (w : World) (B : Nat) : Prop where
  blk : w.heap[R.b]? = some (.cells R.cs 88 (0, 0))
  row : w.ownsRow B 100 5 (.slice R.va R.all.length R.vc) R.all.length (psCells R.all)
  ge : B ≤ R.b
  num : 1 ≤ R.n ∧ R.n ≤ 16 ∧ R.s < R.n ∧ 1 ≤ R.inc ∧ R.inc ≤ 4611686018427387904 ∧ 1 ≤ R.base ∧ R.base ≤ R.lim ∧ 1 ≤ R.step ∧ R.step ≤ 64 ∧ R.lim ≤ 64
section
variable {R R' : Rf} {w w' W V : World} {B m : Nat}
theorem Rf.Ok.c (h : R.Ok w B) (i : Nat) {v : Value} (e : R.cs[i]? = some v) : w.cell? ⟨R.b, i, none⟩ = some v := (blk_cell h.blk i).trans e
theorem Rf.Ok.cells (h : R.Ok w B) : w.cell? ⟨R.b, 0, none⟩ = some (.int .i64 (R.n : Int)) ∧ w.cell? ⟨R.b, 1, none⟩ = some (.int .i64 (R.s : Int)) ∧ w.cell? ⟨R.b, 2, none⟩ = some (.int .i64 R.inc) ∧ w.cell? ⟨R.b, 3, none⟩ = some (.int .i64 R.base) ∧ w.cell? ⟨R.b, 4, none⟩ = some (.int .i64 R.step) ∧ w.cell? ⟨R.b, 5, none⟩ = some (.int .i64 R.lim) ∧ w.cell? ⟨R.b, 6, none⟩ = some (.slice R.va R.all.length R.vc) :=
  ⟨h.c 0 rfl, h.c 1 rfl, h.c 2 rfl, h.c 3 rfl, h.c 4 rfl, h.c 5 rfl, h.c 6 rfl⟩
theorem Rf.Ok.fz (h : R.Ok w B) (i : Nat) : w.frozen? ⟨R.b, i, none⟩ = false := frozen_of_row w _ i _ _ h.blk
theorem Rf.Ok.still (h : R.Ok w B) (hb : Below w.heap.size w w') : R.Ok w' B := ⟨(hb.block _ (lt_heap h.blk)).trans h.blk, own_still h.row hb, h.ge, h.num⟩
theorem Rf.Ok.keep {P : Nat → Prop} (h : R.Ok w B) (k : Kept w w' P) (hp : ∀ j, R.own j → ¬ P j) : R.Ok w' B := ⟨k.obj h.blk (hp _ (.inl rfl)), k.owns h.row (fun j hj => hp j (.inr hj)), h.ge, h.num⟩
theorem Rf.Ok.geOwn (h : R.Ok w B) {j : Nat} (hj : R.own j) : B ≤ j := by
  rcases hj with rfl | hj
  · exact h.ge
  · exact (World.ownsRow.lt h.row j hj).1
theorem Rf.Ok.ltOwn (h : R.Ok w B) {j : Nat} (hj : R.own j) : j < w.heap.size := by
  rcases hj with rfl | hj
  · exact lt_heap h.blk
  · exact (World.ownsRow.lt h.row j hj).2
theorem Rf.Ok.at (h : R.Ok w B) {k : Nat} (hk : k < R.all.length) : ∃ g, R.va = some ⟨g, 0, none⟩ ∧ w.cell? ⟨g, k * 5, none⟩ = some (.int .i64 (R.all.getD k x0).k) ∧ w.cell? ⟨g, k * 5 + 1, none⟩ = some (.int .i64 (R.all.getD k x0).q) ∧ w.cell? ⟨g, k * 5 + 2, none⟩ = some (.int .i64 (R.all.getD k x0).inc) ∧ w.cell? ⟨g, k * 5 + 3, none⟩ = some (.int .i64 (R.all.getD k x0).t) ∧ w.cell? ⟨g, k * 5 + 4, none⟩ = some (.bool (R.all.getD k x0).mu) := by
  rcases h.row.2 with ⟨h1, h2⟩ | ⟨g, cap, cur, hv, hB, hg, hnc, hcm, hcs, htk⟩
  · omega
  · simp at hv
    obtain ⟨hva, rfl⟩ := hv
    have hx : ∀ j, j < 5 → w.cell? ⟨g, k * 5 + j, none⟩ = (R.all.getD k x0).cs[j]? := by
      intro j hj
      rw [blk_cell hg _, ← psCells_get R.all k hk j hj, ← htk, List.getElem?_take_of_lt (by omega), Array.getElem?_toList]
    exact ⟨g, hva, hx 0 (by omega), hx 1 (by omega), hx 2 (by omega), hx 3 (by omega), hx 4 (by omega)⟩
def PyAt (w : World) (g : Nat) (p : Py) : Prop := w.heap[g]? = some (.cells p.cs 96 (0, 0))
theorem PyAt.c {g : Nat} {p : Py} (h : PyAt w g p) : w.cell? ⟨g, 0, none⟩ = some (.int .i64 p.known) ∧ w.cell? ⟨g, 1, none⟩ = some (.int .i64 p.last) ∧ w.cell? ⟨g, 2, none⟩ = some (.int .i64 p.age) ∧ w.cell? ⟨g, 3, none⟩ = some (.int .i64 p.ticks) ∧ w.cell? ⟨g, 4, none⟩ = some (.int .i64 p.wrong) ∧ w.cell? ⟨g, 5, none⟩ = some (.bool p.heard) ∧ w.cell? ⟨g, 6, none⟩ = some (.bool p.both) ∧ w.cell? ⟨g, 7, none⟩ = some (.bool p.left) :=
  ⟨blk_cell h 0, blk_cell h 1, blk_cell h 2, blk_cell h 3, blk_cell h 4, blk_cell h 5, blk_cell h 6, blk_cell h 7⟩
theorem PyAt.f {g : Nat} {p : Py} (h : PyAt w g p) (i : Nat) : w.frozen? ⟨g, i, none⟩ = false := frozen_of_row w _ i _ _ h
theorem PyAt.still {g : Nat} {p : Py} (h : PyAt w g p) (hb : Below w.heap.size w w') : PyAt w' g p := (hb.block _ (lt_heap h)).trans h
end
end Go.Proofs.Ytfbollifegngjaa.Dt
