import Derived.Test.YthanifbimndhaaaM19
namespace Go.Proofs.Ythanifbimndhaaa.Bk
set_option maxHeartbeats 40000000
open Go.RowKit Lo
set_option linter.unusedVariables false

structure Pg where
 B : Value
 G : Value
 V : Value
 id : Int
 dn : Bool
 gr : Bool
 bs : List Int

def pgc (p : Pg) : List Value := [p.B, p.G, p.V, .int .i64 p.id, .bool p.dn]
def rows (ps : List Pg) : List Value := ps.flatMap pgc
theorem rows_len (ps : List Pg) : (rows ps).length = ps.length * 5 := by
 induction ps with
 | nil => rfl
 | cons p ps ih => simp only [rows, List.flatMap_cons, List.length_append, List.length_cons] at *; rw [ih]; simp [pgc]; omega
theorem rows_get (ps : List Pg) (k : Nat) (p : Pg) (hk : ps[k]? = some p) (j : Nat) (hj : j < 5) : (rows ps)[k * 5 + j]? = (pgc p)[j]? := by
 induction ps generalizing k with
 | nil => simp at hk
 | cons q ps ih =>
  cases k with
  | zero =>
   simp at hk
   subst hk
   simp only [rows, List.flatMap_cons, Nat.zero_mul, Nat.zero_add]
   rw [List.getElem?_append_left (by simp [pgc]; omega)]
  | succ k =>
   simp only [List.getElem?_cons_succ] at hk
   have h := ih k hk
   simp only [rows, List.flatMap_cons] at *
   rw [List.getElem?_append_right (by simp [pgc]; omega)]
   rw [<- h]
   congr 1
   simp [pgc]
   omega
theorem rows_snoc (ps : List Pg) (p : Pg) : rows (ps ++ [p]) = rows ps ++ pgc p := by simp [rows]

def cont (p : Pg) : List Int := if p.dn then pats p.id p.bs.length else p.bs
theorem cont_len (p : Pg) : (cont p).length = p.bs.length := by unfold cont; split <;> simp [pats_len]

structure PgOK (w : World) (base : Nat) (p : Pg) : Prop where
 b : Own w base p.B (cont p)
 v : p.dn = false -> Own w base p.V p.bs
 g : p.gr = true -> Own w base p.G (cont p ++ pats (p.id + 100000) 64)
 i0 : 0 ≤ p.id
 i1 : p.id ≤ 1000
 len : p.bs.length ≤ 140737488355264
 gd : p.gr = true -> p.dn = true

def holds (p : Pg) (k : Nat) : Prop := p.B.ownBlock = some k ∨ (p.gr = true /\ p.G.ownBlock = some k) ∨ (p.dn = false /\ p.V.ownBlock = some k)
def Sep (ps : List Pg) : Prop := ∀ (i j : Nat) (p q : Pg), ps[i]? = some p -> ps[j]? = some q -> i ≠ j -> ∀ k, p.B.ownBlock = some k -> ¬ holds q k

structure Fr where
 p0 : Value
 p1 : Value
 p2 : Value
 d0 : Value
 d1 : Value
 d2 : Value
 ls : Value
 os : Value
 tn : Value
structure BookIs (F : Fr) (w : World) (base kb : Nat) (vp : Value) (nx : Int) (ps : List Pg) : Prop where
 k : w.heap[kb]? = some (.cells #[F.p0, F.p1, F.p2, F.d0, F.d1, F.d2, vp, .slice none 0 0, .int .i64 nx, F.ls, F.os, F.tn] 37 (0, 0))
 o : w.ownsRow base 89 5 vp ps.length (rows ps)
 ok : ∀ p ∈ ps, PgOK w base p
 sep : Sep ps
 b : base ≤ w.heap.size
 n0 : 0 ≤ nx
 n1 : nx ≤ 900
 cnt : ps.length ≤ 96
variable {F : Fr}

theorem PgOK.kept {w w' : World} {base : Nat} {p : Pg} {P : Nat -> Prop} (h : PgOK w base p) (hk : Kept w w' P) (hp : ∀ k, holds p k -> ¬ P k) : PgOK w' base p :=
 ⟨hk.owns h.b (fun k e => hp k (.inl e)), fun e => hk.owns (h.v e) (fun k e' => hp k (.inr (.inr ⟨e, e'⟩))), fun e => hk.owns (h.g e) (fun k e' => hp k (.inr (.inl ⟨e, e'⟩))), h.i0, h.i1, h.len, h.gd⟩

theorem holds_type {w : World} {base : Nat} {p : Pg} (h : PgOK w base p) {k : Nat} (hk : holds p k) : ∃ cur, w.heap[k]? = some (.cells cur 5 (0, 0)) := by
 have key : ∀ (v : Value) (xs : List Int), Own w base v xs -> v.ownBlock = some k -> ∃ cur, w.heap[k]? = some (.cells cur 5 (0, 0)) := by
  intro v xs ho e
  rcases ho.2 with ⟨rfl, _⟩ | ⟨g, cap, cur, rfl, _, hg, _⟩
  ·simp [Value.ownBlock] at e
  ·simp [Value.ownBlock] at e
   subst e
   exact ⟨cur, hg⟩
 rcases hk with e | ⟨h1, e⟩ | ⟨h1, e⟩
 ·exact key _ _ h.b e
 ·exact key _ _ (h.g h1) e
 ·exact key _ _ (h.v h1) e

theorem BookIs.below {w w' : World} {base kb : Nat} {vp : Value} {nx : Int} {ps : List Pg} (h : BookIs F w base kb vp nx ps) (hb : Below w.heap.size w w') : BookIs F w' base kb vp nx ps := by
 have hk : Kept w w' (fun _ => False) := ⟨hb.os, hb.tape, hb.output, hb.size, fun i hi _ => hb.block i hi⟩
 exact ⟨(hk.block kb (lt_heap h.k) (fun h => h)).trans h.k, hk.owns h.o (fun _ _ h => h), fun p hp => (h.ok p hp).kept hk (fun _ _ h => h), h.sep, Nat.le_trans h.b hb.size, h.n0, h.n1, h.cnt⟩

theorem shows_page {w : World} {base : Nat} (p : Pg) (h : PgOK w base p) (hi : p.gr = p.dn) : Calls Try.prog 74 #[.agg #[p.B, p.G, p.V, .int .i64 p.id, .bool p.dn]] w fun e w' => e = .returned (.bool true) /\ Below w.heap.size w w' := by
 cases hd : p.dn with
 | false =>
  have hb := h.b
  unfold cont at hb
  rw [hd] at hb
  exact shows_fresh p.B p.G p.V p.id base p.bs w hb (h.v hd) (by have := h.len; omega)
 | true =>
  have hb := h.b
  have hg := h.g (by rw [hi, hd])
  unfold cont at hb hg
  rw [hd] at hb hg
  exact shows_done p.B p.G p.V p.id base p.bs.length w hb hg h.len h.i0 (by have := h.i1; omega)

set_option maxRecDepth 100000 in
theorem intact_some (base kb pk cp : Nat) (nx : Int) (ps : List Pg) (w : World) (h : BookIs F w base kb (.slice (some ⟨pk, 0, none⟩) ps.length cp) nx ps) (hi : ∀ p ∈ ps, p.gr = p.dn) :
  Calls Try.prog 32 #[.pointer (some ⟨kb, 6, none⟩)] w fun e w' => e = .returned (.bool true) /\ Below w.heap.size w w' := by
 have H : Hid (BookIs F w base kb (.slice (some ⟨pk, 0, none⟩) ps.length cp) nx ps) := h
 have HI : Hid (∀ p ∈ ps, p.gr = p.dn) := hi
 have hcnt := h.cnt
 clear h hi
 go_enter Try.func32, Try.ntmps32
 go_wp2
 go_loopw [3] (fun i wr => ∃ k : Nat, k ≤ ps.length /\ i = .int .i64 k /\ Below w.heap.size w wr) (fun i _ => ps.length - (intOf i).toNat)
 case atStart => exact ⟨0, Nat.zero_le _, rfl, Below.refl _ _⟩
 case round =>
  obtain ⟨k, hk, rfl, hbel⟩ := hrel
  have HW : Hid (BookIs F wr base kb (.slice (some ⟨pk, 0, none⟩) ps.length cp) nx ps) := H.out.below hbel
  have c0 : wr.cell? ⟨kb, 6, none⟩ = some (.slice (some ⟨pk, 0, none⟩) ps.length cp) := (cell_block HW.out.k).trans rfl
  have c1 : wr.cell? ⟨kb, 7, none⟩ = some (.slice none 0 0) := (cell_block HW.out.k).trans rfl
  by_cases hlt : k < ps.length
  ·obtain ⟨p, hp⟩ : ∃ p, ps[k]? = some p := ⟨_, List.getElem?_eq_getElem hlt⟩
   have hmem : p ∈ ps := List.mem_of_getElem? hp
   have cell : ∀ j, j < 5 -> wr.cell? ⟨pk, k * 5 + j, none⟩ = (pgc p)[j]? := fun j hj => (World.ownsRow.cellAt HW.out.o (k * 5 + j) (by omega)).trans (rows_get ps k p hp j hj)
   have e0 : wr.cell? ⟨pk, k * 5, none⟩ = some p.B := cell 0 (by decide)
   have e1 : wr.cell? ⟨pk, k * 5 + 1, none⟩ = some p.G := cell 1 (by decide)
   have e2 : wr.cell? ⟨pk, k * 5 + 2, none⟩ = some p.V := cell 2 (by decide)
   have e3 : wr.cell? ⟨pk, k * 5 + 3, none⟩ = some (.int .i64 p.id) := cell 3 (by decide)
   have e4 : wr.cell? ⟨pk, k * 5 + 4, none⟩ = some (.bool p.dn) := cell 4 (by decide)
   have HS : Hid (Calls Try.prog 74 #[.agg #[p.B, p.G, p.V, .int .i64 p.id, .bool p.dn]] wr fun e w' => e = .returned (.bool true) /\ Below wr.heap.size wr w') := shows_page p (HW.out.ok p hmem) (HI.out p hmem)
   have Hbel : Hid (Below w.heap.size w wr) := hbel
   clear cell hbel
   go_wp2_with fail
   refine HS.out.mono ?_
   rintro e w1 ⟨rfl, hb1⟩
   have HB1 : Hid (Below w.heap.size w w1) := Hbel.out.trans (hb1.mono Hbel.out.size)
   clear hb1 e0 e1 e2 e3 e4 c0 c1 HS
   go_wp2
   go_roundw
   case rel => exact ⟨k + 1, by omega, by go_num, HB1⟩
   case measure => simp [intOf]; omega
  ·have Hbel : Hid (Below w.heap.size w wr) := hbel
   clear hbel
   go_wp2
   refine wp_loop_rounds 1 ?_
   rw [rounds_succ]
   go_wp2
   go_ret
   exact ⟨rfl, Hbel⟩

set_option maxRecDepth 100000 in
theorem intact_none (base kb : Nat) (nx : Int) (w : World) (h : BookIs F w base kb (.slice none 0 0) nx []) :
  Calls Try.prog 32 #[.pointer (some ⟨kb, 6, none⟩)] w fun e w' => e = .returned (.bool true) /\ Below w.heap.size w w' := by
 have c0 : w.cell? ⟨kb, 6, none⟩ = some (.slice none 0 0) := (cell_block h.k).trans rfl
 have c1 : w.cell? ⟨kb, 7, none⟩ = some (.slice none 0 0) := (cell_block h.k).trans rfl
 clear h
 go_enter Try.func32, Try.ntmps32
 go_wp2
 refine wp_loop_rounds 1 ?_
 rw [rounds_succ]
 go_wp2
 refine wp_loop_rounds 1 ?_
 rw [rounds_succ]
 go_wp2
 go_ret
 exact ⟨rfl, Below.refl _ _⟩

theorem vp_shape {w : World} {base n : Nat} {vp : Value} {xs : List Value} (h : w.ownsRow base 89 5 vp n xs) : (vp = .slice none 0 0 /\ n = 0) ∨ ∃ pk cp, vp = .slice (some ⟨pk, 0, none⟩) n cp := by
 rcases h.2 with h | ⟨g, cap, cur, hv, _⟩
 ·exact .inl h
 ·exact .inr ⟨g, cap, hv⟩

theorem intact_any (base kb : Nat) (vp : Value) (nx : Int) (ps : List Pg) (w : World) (h : BookIs F w base kb vp nx ps) (hi : ∀ p ∈ ps, p.gr = p.dn) :
  Calls Try.prog 32 #[.pointer (some ⟨kb, 6, none⟩)] w fun e w' => e = .returned (.bool true) /\ Below w.heap.size w w' := by
 rcases vp_shape h.o with ⟨rfl, h0⟩ | ⟨pk, cp, rfl⟩
 ·obtain rfl : ps = [] := List.eq_nil_of_length_eq_zero h0
  exact intact_none base kb nx w h
 ·exact intact_some base kb pk cp nx ps w h hi

end Go.Proofs.Ythanifbimndhaaa.Bk
