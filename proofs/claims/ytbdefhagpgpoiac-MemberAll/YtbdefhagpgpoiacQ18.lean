import Derived.Test.YtbdefhagpgpoiacQ00
import Derived.Test.YtbdefhagpgpoiacQ17
namespace Go.Proofs.Ytbdefhagpgpoiac.Mb
open Go.RowKit
set_option linter.unusedVariables false
set_option maxRecDepth 100000
set_option linter.unusedSimpArgs false
section
variable {A A' : Ag} {w w' W : World} {B : Nat} {T : Int}
structure Hx where
  q : Int
  inc : Int
  p : Pq
def Hx.cs (h : Hx) : List Value := [.int .i64 h.q, .int .i64 h.inc, .slice h.p.sa h.p.sn h.p.sc, .int .i64 h.p.cid, .int .i64 h.p.rev, .int .i64 h.p.top, .int .i64 (h.p.prev[0]?.getD 0), .int .i64 (h.p.prev[1]?.getD 0), .int .i64 (h.p.prev[2]?.getD 0), .int .i64 (h.p.prev[3]?.getD 0), .slice h.p.va h.p.vn h.p.vc]
def h0 : Hx := ⟨0, 0, ⟨none, 0, 0, [], 0, 0, 0, [0, 0, 0, 0], none, 0, 0, []⟩⟩
def hCells (xs : List Hx) : List Value := xs.flatMap Hx.cs
theorem hCells_app (a b : List Hx) : hCells (a ++ b) = hCells a ++ hCells b := by simp [hCells]
theorem hCells_get (xs : List Hx) (i : Nat) (hi : i < xs.length) (j : Nat) (hj : j < 11) : (hCells xs)[i * 11 + j]? = (xs.getD i h0).cs[j]? := by
  induction xs generalizing i with
  | nil => simp at hi
  | cons x xs ih =>
    have hl : x.cs.length = 11 := rfl
    cases i with
    | zero =>
      simp only [hCells, List.flatMap_cons, Nat.zero_mul, Nat.zero_add]
      rw [List.getElem?_append_left (by rw [hl]; exact hj)]
      simp
    | succ i =>
      have := ih i (by simpa using hi)
      simp only [hCells, List.flatMap_cons] at this ⊢
      rw [List.getElem?_append_right (by rw [hl]; omega), hl, show (i + 1) * 11 + j - 11 = i * 11 + j by omega, this]
      simp
def RowH (w : World) (B : Nat) (v : Value) (xs : List Hx) : Prop := w.ownsRow B 86 11 v xs.length (hCells xs)
theorem RowH.at {v : Value} {xs : List Hx} (h : RowH w B v xs) {k : Nat} (hk : k < xs.length) : ∃ g c, v = .slice (some ⟨g, 0, none⟩) xs.length c ∧ w.rangeAt g (k * 11) (xs.getD k h0).cs := by
  rcases h.2 with ⟨h1, h2⟩ | ⟨g, cap, cur, hv, hB, hg, hnc, hcm, hcs, htk⟩
  · omega
  · refine ⟨g, cap, hv, fun j u hu => ?_⟩
    have hj : j < 11 := (List.getElem?_eq_some_iff.1 hu).1
    rw [blk_cell hg, ← hu, ← hCells_get xs k hk j hj, ← htk, List.getElem?_take_of_lt (by omega), ← Array.getElem?_toList]
structure Rg where
  b : Nat
  n : Nat
  self : Nat
  inc : Int
  id : List Int
  mv : Value
  k : Nat
  ms : List Int
  op : Bool
  own : Pq
  ha : Option Addr
  hc : Nat
  all : List Hx
def Rg.cs (R : Rg) : List Value := [.int .i64 (R.n : Int), .int .i64 (R.self : Int), .int .i64 R.inc, .int .i64 (R.id[0]?.getD 0), .int .i64 (R.id[1]?.getD 0), .int .i64 (R.id[2]?.getD 0), .int .i64 (R.id[3]?.getD 0), R.mv, .bool R.op, .slice R.own.sa R.own.sn R.own.sc, .int .i64 R.own.cid, .int .i64 R.own.rev, .int .i64 R.own.top, .int .i64 (R.own.prev[0]?.getD 0), .int .i64 (R.own.prev[1]?.getD 0), .int .i64 (R.own.prev[2]?.getD 0), .int .i64 (R.own.prev[3]?.getD 0), .slice R.own.va R.own.vn R.own.vc, .slice R.ha R.all.length R.hc]
def RowI (w : World) (B : Nat) (a : Option Addr) (n c : Nat) (xs : List Int) : Prop := w.ownsRow B 3 1 (.slice a n c) n (ints xs)
structure Rg.Ok (R : Rg) (w : World) (B : Nat) : Prop where
  blk : w.heap[R.b]? = some (.cells R.cs.toArray 57 (0, 0))
  ge : B ≤ R.b
  n16 : 1 ≤ R.n ∧ R.n ≤ 16 ∧ R.self < R.n
  il : R.id.length = 4
  pl : R.own.prev.length = 4
  mem : w.ownsRow B 92 3 R.mv R.k (ints R.ms)
  k16 : R.k ≤ 16
  os : RowI w B R.own.sa R.own.sn R.own.sc R.own.ss
  ov : RowI w B R.own.va R.own.vn R.own.vc R.own.vs
  sl : R.own.ss.length = R.n
  vl : R.own.vs.length = R.n
  row : RowH w B (.slice R.ha R.all.length R.hc) R.all
  el : ∀ h ∈ R.all, RowI w B h.p.sa h.p.sn h.p.sc h.p.ss ∧ RowI w B h.p.va h.p.vn h.p.vc h.p.vs ∧ h.p.ss.length = R.n ∧ h.p.vs.length = R.n ∧ h.p.prev.length = 4
def Rg.own1 (R : Rg) (j : Nat) : Prop := j = R.b ∨ (Value.slice R.ha R.all.length R.hc).ownBlock = some j
section
variable {R R' : Rg}
theorem RowI.still {a : Option Addr} {n c : Nat} {xs : List Int} (h : RowI w B a n c xs) (hb : Below w.heap.size w w') : RowI w' B a n c xs := own_still h hb
theorem RowI.rd {a : Option Addr} {n c : Nat} {xs : List Int} (h : RowI w B a n c xs) : RdI w a n xs := own_rd h
theorem Rg.Ok.still (h : R.Ok w B) (hb : Below w.heap.size w w') : R.Ok w' B :=
  { h with blk := (hb.block _ (lt_heap h.blk)).trans h.blk, mem := own_still h.mem hb, os := h.os.still hb, ov := h.ov.still hb, row := own_still h.row hb, el := fun x hx => ⟨(h.el x hx).1.still hb, (h.el x hx).2.1.still hb, (h.el x hx).2.2⟩ }
theorem Rg.Ok.c (h : R.Ok w B) (i : Nat) : w.cell? ⟨R.b, i, none⟩ = R.cs[i]? := by rw [blk_cell h.blk, List.getElem?_toArray]
theorem Rg.Ok.cn (h : R.Ok w B) : w.cell? ⟨R.b, 0, none⟩ = some (.int .i64 (R.n : Int)) := h.c 0
theorem Rg.Ok.cself (h : R.Ok w B) : w.cell? ⟨R.b, 1, none⟩ = some (.int .i64 (R.self : Int)) := h.c 1
theorem Rg.Ok.call (h : R.Ok w B) : w.cell? ⟨R.b, 18, none⟩ = some (.slice R.ha R.all.length R.hc) := h.c 18
def bet (x y : Hx) : Bool := decide (y.inc < x.inc) || (decide (x.inc = y.inc) && decide (y.p.rev < x.p.rev))
def latS (all : List Hx) (q : Int) (k : Option Nat) (i : Nat) : Option Nat := if (all.getD i h0).q ≠ q then k else match k with
  | none => some i
  | some j => if bet (all.getD i h0) (all.getD j h0) then some i else k
def latN (all : List Hx) (q : Int) (m : Nat) : Option Nat := (List.range m).foldl (latS all q) none
def lat (all : List Hx) (q : Int) : Option Nat := latN all q all.length
def oI (k : Option Nat) : Int := match k with | none => -1 | some j => (j : Int)
theorem latN_next (all : List Hx) (q : Int) (m : Nat) : latN all q (m + 1) = latS all q (latN all q m) m := by unfold latN; rw [List.range_succ, List.foldl_append]; rfl
theorem latN_lt (all : List Hx) (q : Int) (m : Nat) : ∀ j, latN all q m = some j → j < m := by
  induction m with
  | zero => intro j h; cases h
  | succ m ih =>
    intro j h
    rw [latN_next] at h
    unfold latS at h
    split at h
    · have := ih j h; omega
    · split at h
      · cases h; omega
      · split at h
        · cases h; omega
        · have := ih j h
          omega
set_option maxHeartbeats 16000000 in
theorem rlatest_any (h : R.Ok w B) (q : Int) (hL : R.all.length ≤ 1000000000000) : Calls Try.prog 40 #[.pointer (some ⟨R.b, 0, none⟩), .int .i64 q] w fun e w' => e = .returned (.int .i64 (oI (lat R.all q))) ∧ Below w.heap.size w w' := by
  have Hh : Hid (R.Ok w B) := h
  clear h
  go_enter Try.func40, Try.ntmps40
  go_wp2
  go_loopw [5, 6] (fun v5 v6 wr => ∃ m : Nat, m ≤ R.all.length ∧ v5 = .int .i64 (oI (latN R.all q m)) ∧ v6 = .int .i64 (m : Int) ∧ Below w.heap.size w wr) (fun _ v6 _ => R.all.length - (intOf v6).toNat)
  case atStart => exact ⟨0, Nat.zero_le _, rfl, rfl, Below.refl _ _⟩
  case round =>
    obtain ⟨m, hm, rfl, rfl, hb⟩ := hrel
    have hR := Hh.out.still hb
    have y18 := hR.call
    by_cases hlt : m < R.all.length
    · obtain ⟨g, c, hv, hrg⟩ := hR.row.at hlt
      have hnx := latN_next R.all q m
      have hj := latN_lt R.all q m
      have hrow : ∀ j, j < R.all.length → wr.rangeAt g (j * 11) (R.all.getD j h0).cs := fun j hj => by
        obtain ⟨g2, c2, e2, h2⟩ := hR.row.at hj
        have := hv.symm.trans e2
        simp at this
        rw [this.1]
        exact h2
      rw [hv] at y18
      unfold latS at hnx
      have Hrow : Hid (∀ j, j < R.all.length → wr.rangeAt g (j * 11) (R.all.getD j h0).cs) := hrow
      generalize hh : R.all.getD m h0 = h at hrg hnx
      generalize hX : wr.alloc (.cells [.int .i64 h.q, .int .i64 h.inc, .slice h.p.sa h.p.sn h.p.sc, .int .i64 h.p.cid, .int .i64 h.p.rev, .int .i64 h.p.top, .int .i64 (h.p.prev[0]?.getD 0), .int .i64 (h.p.prev[1]?.getD 0), .int .i64 (h.p.prev[2]?.getD 0), .int .i64 (h.p.prev[3]?.getD 0), .slice h.p.va h.p.vn h.p.vc].toArray 86) = X
      have bX : Below wr.heap.size wr X := by rw [← hX]; exact balloc (Below.refl _ _)
      have kX : X.heap[wr.heap.size]? = some (.cells [.int .i64 h.q, .int .i64 h.inc, .slice h.p.sa h.p.sn h.p.sc, .int .i64 h.p.cid, .int .i64 h.p.rev, .int .i64 h.p.top, .int .i64 (h.p.prev[0]?.getD 0), .int .i64 (h.p.prev[1]?.getD 0), .int .i64 (h.p.prev[2]?.getD 0), .int .i64 (h.p.prev[3]?.getD 0), .slice h.p.va h.p.vn h.p.vc].toArray 86 (0, 0)) := by rw [← hX]; exact heap_alloc_new wr _
      have y0 : X.cell? ⟨wr.heap.size, 0, none⟩ = some (.int .i64 h.q) := blk_cell kX 0
      have y1 : X.cell? ⟨wr.heap.size, 1, none⟩ = some (.int .i64 h.inc) := blk_cell kX 1
      have y4 : X.cell? ⟨wr.heap.size, 4, none⟩ = some (.int .i64 h.p.rev) := blk_cell kX 4
      have Hrg : Hid (wr.rangeAt g (m * 11) [.int .i64 h.q, .int .i64 h.inc, .slice h.p.sa h.p.sn h.p.sc, .int .i64 h.p.cid, .int .i64 h.p.rev, .int .i64 h.p.top, .int .i64 (h.p.prev[0]?.getD 0), .int .i64 (h.p.prev[1]?.getD 0), .int .i64 (h.p.prev[2]?.getD 0), .int .i64 (h.p.prev[3]?.getD 0), .slice h.p.va h.p.vn h.p.vc]) := hrg
      have HbX : Hid (Below w.heap.size w X) := bstep hb bX
      have HbX' : Hid (Below wr.heap.size wr X) := bX
      have i1 : (0 : Int) ≤ (m : Int) := Int.natCast_nonneg _
      have i2 : (m : Int) < (R.all.length : Int) := by omega
      simp only [List.toArray] at hX
      obtain ⟨L, hLe⟩ : ∃ L, R.all.length = L := ⟨_, rfl⟩
      clear hv hrg hrow hR hh bX kX hb
      have y18w := y18
      by_cases hq : h.q = q
      · rw [if_neg (fun hh => hh hq)] at hnx
        cases hk : latN R.all q m with
        | none =>
          rw [hk] at hnx
          have HN : Hid (latN R.all q (m + 1) = some m) := hnx
          have hoi : oI (latN R.all q m) = -1 := by rw [hk]; rfl
          rw [show oI none = -1 from rfl]
          clear hnx hk hj hoi
          subst hq
          have y18X : X.cell? ⟨R.b, 18, none⟩ = some (.slice (some ⟨g, 0, none⟩) R.all.length c) := below_at HbX'.out y18
          have HE : Hid (∃ m_1 : Nat, m_1 ≤ R.all.length ∧ Value.int .i64 (m : Int) = .int .i64 (oI (latN R.all h.q m_1)) ∧ Value.int .i64 ((m : Int) + 1) = .int .i64 (m_1 : Int) ∧ Below w.heap.size w X.drew) := ⟨m + 1, by omega, by rw [HN.out]; rfl, by simp, bstep HbX.out (Below.refl _ _).drew⟩
          go_wp2_with (first | (refine load_mid 86 (.tmp 22) Hrg.out _ Try.underlying86 rfl (by kernel_rfl) rfl rfl rfl ?_) | fail)
          refine wp_region_held_drew (S := (fun w' => w'.cell? ⟨wr.heap.size, 1, none⟩ = some (.int .i64 h.inc) ∧ w'.cell? ⟨wr.heap.size, 4, none⟩ = some (.int .i64 h.p.rev) ∧ w'.cell? ⟨R.b, 18, none⟩ = some (.slice (some ⟨g, 0, none⟩) R.all.length c))) (by kernel_rfl) ⟨below_at (Below.refl _ _).drew y1, below_at (Below.refl _ _).drew y4, below_at (Below.refl _ _).drew y18X⟩ (fun hHeld => ?_)
          simp only [Act.put, List.size_toArray, List.length_cons, List.length_nil, Nat.zero_add]
          refine tkI 0 (.int .i64 (-1)) rfl hHeld ?_
          simp only [Act.put, gA, gB, gC, gD, gE, gF]
          refine tkL 1 (.bool true) rfl (fun w' hS => by (go_simp <;> first | omega | simp_all | (simp; omega))) hHeld ?_
          simp only [Act.put, gA, gB, gC, gD, gE, gF]
          refine tkI 2 (.bool true) rfl hHeld ?_
          simp only [Act.put, gA, gB, gC, gD, gE, gF]
          refine tkO 3 rfl hHeld ?_
          simp only [Act.put, gA, gB, gC, gD, gE, gF]
          refine tkO 4 rfl hHeld ?_
          simp only [Act.put, gA, gB, gC, gD, gE, gF]
          refine tkO 5 rfl hHeld ?_
          simp only [Act.put, gA, gB, gC, gD, gE, gF]
          refine tkO 6 rfl hHeld ?_
          simp only [Act.put, gA, gB, gC, gD, gE, gF]
          refine tkO 7 rfl hHeld ?_
          simp only [Act.put, gA, gB, gC, gD, gE, gF]
          refine tkO 8 rfl hHeld ?_
          simp only [Act.put, gA, gB, gC, gD, gE, gF]
          refine tkO 9 rfl hHeld ?_
          simp only [Act.put, gA, gB, gC, gD, gE, gF]
          refine tkO 10 rfl hHeld ?_
          simp only [Act.put, gA, gB, gC, gD, gE, gF]
          refine tkO 11 rfl hHeld ?_
          simp only [Act.put, gA, gB, gC, gD, gE, gF]
          refine tkO 12 rfl hHeld ?_
          simp only [Act.put, gA, gB, gC, gD, gE, gF]
          refine tkO 13 rfl hHeld ?_
          simp only [Act.put, gA, gB, gC, gD, gE, gF]
          refine tkI 14 (.bool true) rfl hHeld ?_
          simp only [Act.put, gA, gB, gC, gD, gE, gF]
          refine tkI 15 (.bool true) rfl hHeld ?_
          simp only [Act.put, gA, gB, gC, gD, gE, gF]
          refine tkO 16 rfl hHeld ?_
          simp only [Act.put, gA, gB, gC, gD, gE, gF]
          refine tkO 17 rfl hHeld ?_
          simp only [Act.put, gA, gB, gC, gD, gE, gF]
          refine tkO 18 rfl hHeld ?_
          simp only [Act.put, gA, gB, gC, gD, gE, gF]
          refine tkO 19 rfl hHeld ?_
          simp only [Act.put, gA, gB, gC, gD, gE, gF]
          refine tkO 20 rfl hHeld ?_
          simp only [Act.put, gA, gB, gC, gD, gE, gF]
          refine tkO 21 rfl hHeld ?_
          simp only [Act.put, gA, gB, gC, gD, gE, gF]
          refine tkO 22 rfl hHeld ?_
          simp only [Act.put, gA, gB, gC, gD, gE, gF]
          refine tkO 23 rfl hHeld ?_
          simp only [Act.put, gA, gB, gC, gD, gE, gF]
          refine tkO 24 rfl hHeld ?_
          simp only [Act.put, gA, gB, gC, gD, gE, gF]
          refine tkO 25 rfl hHeld ?_
          simp only [Act.put, gA, gB, gC, gD, gE, gF]
          refine tkO 26 rfl hHeld ?_
          simp only [Act.put, gA, gB, gC, gD, gE, gF]
          refine tkO 27 rfl hHeld ?_
          simp only [Act.put, gA, gB, gC, gD, gE, gF]
          refine tkO 28 rfl hHeld ?_
          simp only [Act.put, gA, gB, gC, gD, gE, gF]
          refine tkO 29 rfl hHeld ?_
          simp only [Act.put, gA, gB, gC, gD, gE, gF]
          refine tkO 30 rfl hHeld ?_
          simp only [Act.put, gA, gB, gC, gD, gE, gF]
          refine tkO 31 rfl hHeld ?_
          simp only [Act.put, gA, gB, gC, gD, gE, gF]
          refine tkO 32 rfl hHeld ?_
          simp only [Act.put, gA, gB, gC, gD, gE, gF]
          refine tkO 33 rfl hHeld ?_
          simp only [Act.put, gA, gB, gC, gD, gE, gF]
          refine tkO 34 rfl hHeld ?_
          simp only [Act.put, gA, gB, gC, gD, gE, gF]
          refine tkO 35 rfl hHeld ?_
          simp only [Act.put, gA, gB, gC, gD, gE, gF]
          refine tkO 36 rfl hHeld ?_
          simp only [Act.put, gA, gB, gC, gD, gE, gF]
          refine tkO 37 rfl hHeld ?_
          simp only [Act.put, gA, gB, gC, gD, gE, gF]
          refine tkO 38 rfl hHeld ?_
          simp only [Act.put, gA, gB, gC, gD, gE, gF]
          refine tkO 39 rfl hHeld ?_
          simp only [Act.put, gA, gB, gC, gD, gE, gF]
          refine tkO 40 rfl hHeld ?_
          simp only [Act.put, gA, gB, gC, gD, gE, gF]
          refine tkO 41 rfl hHeld ?_
          simp only [Act.put, gA, gB, gC, gD, gE, gF]
          refine tkI 42 (.bool true) rfl hHeld ?_
          simp only [Act.put, gA, gB, gC, gD, gE, gF]
          refine wpAnyH_done (by kernel_rfl) ?_ _
          clear hHeld
          go_wp2
          first
            | exact ⟨HE.out, by simp [intOf]; omega⟩
            | (go_roundw
               case rel => exact HE.out
               case measure => simp [intOf]; omega)
        | some j =>
          rw [hk] at hnx
          have hjm := hj j hk
          obtain ⟨x, hx⟩ : ∃ x, R.all.getD j h0 = x := ⟨_, rfl⟩
          have hrj := Hrow.out j (by omega)
          rw [hx] at hrj
          simp only [hx] at hnx
          have z1w : wr.cell? ⟨g, j * 11 + 1, none⟩ = some (.int .i64 x.inc) := hrj 1 _ rfl
          have z4w : wr.cell? ⟨g, j * 11 + 4, none⟩ = some (.int .i64 x.p.rev) := hrj 4 _ rfl
          have z1 := below_at HbX'.out z1w
          have z4 := below_at HbX'.out z4w
          have jj1 : (0 : Int) ≤ (j : Int) := Int.natCast_nonneg _
          have jj2 : (j : Int) < (R.all.length : Int) := by omega
          rw [show oI (some j) = (j : Int) from rfl]
          clear hk hj hrj z1w z4w
          by_cases g1 : x.inc < h.inc
          · have HN : Hid (latN R.all q (m + 1) = some m) := by rw [if_pos (show bet h x = true by unfold bet; rw [decide_eq_true g1]; rfl)] at hnx; exact hnx
            clear hnx
            subst hq
            have y18X : X.cell? ⟨R.b, 18, none⟩ = some (.slice (some ⟨g, 0, none⟩) R.all.length c) := below_at HbX'.out y18
            have HE : Hid (∃ m_1 : Nat, m_1 ≤ R.all.length ∧ Value.int .i64 (m : Int) = .int .i64 (oI (latN R.all h.q m_1)) ∧ Value.int .i64 ((m : Int) + 1) = .int .i64 (m_1 : Int) ∧ Below w.heap.size w X.drew) := ⟨m + 1, by omega, by rw [HN.out]; rfl, by simp, bstep HbX.out (Below.refl _ _).drew⟩
            go_wp2_with (first | (refine load_mid 86 (.tmp 22) Hrg.out _ Try.underlying86 rfl (by kernel_rfl) rfl rfl rfl ?_) | fail)
            refine wp_region_held_drew (S := (fun w' => w'.cell? ⟨wr.heap.size, 1, none⟩ = some (.int .i64 h.inc) ∧ w'.cell? ⟨wr.heap.size, 4, none⟩ = some (.int .i64 h.p.rev) ∧ w'.cell? ⟨R.b, 18, none⟩ = some (.slice (some ⟨g, 0, none⟩) R.all.length c) ∧ w'.cell? ⟨g, j * 11 + 1, none⟩ = some (.int .i64 x.inc) ∧ w'.cell? ⟨g, j * 11 + 4, none⟩ = some (.int .i64 x.p.rev))) (by kernel_rfl) ⟨below_at (Below.refl _ _).drew y1, below_at (Below.refl _ _).drew y4, below_at (Below.refl _ _).drew y18X, below_at (Below.refl _ _).drew z1, below_at (Below.refl _ _).drew z4⟩ (fun hHeld => ?_)
            simp only [Act.put, List.size_toArray, List.length_cons, List.length_nil, Nat.zero_add]
            refine tkI 0 (.int .i64 (j : Int)) rfl hHeld ?_
            simp only [Act.put, gA, gB, gC, gD, gE, gF]
            refine tkL 1 (.bool false) rfl (fun w' hS => by (go_simp <;> first | omega | simp_all | (simp; omega))) hHeld ?_
            simp only [Act.put, gA, gB, gC, gD, gE, gF]
            refine tkI 2 (.bool false) rfl hHeld ?_
            simp only [Act.put, gA, gB, gC, gD, gE, gF]
            refine tkI 3 (.pointer (some ⟨wr.heap.size, 1, none⟩)) rfl hHeld ?_
            simp only [Act.put, gA, gB, gC, gD, gE, gF]
            refine tkL 4 (.int .i64 h.inc) rfl (fun w' hS => by (obtain ⟨s0, s1, s2, s3, s4⟩ := hS; go_simp)) hHeld ?_
            simp only [Act.put, gA, gB, gC, gD, gE, gF]
            refine tkI 5 (.pointer (some ⟨R.b, 0, none⟩)) rfl hHeld ?_
            simp only [Act.put, gA, gB, gC, gD, gE, gF]
            refine tkI 6 (.pointer (some ⟨R.b, 0, none⟩)) rfl hHeld ?_
            simp only [Act.put, gA, gB, gC, gD, gE, gF]
            refine tkI 7 (.pointer (some ⟨R.b, 18, none⟩)) rfl hHeld ?_
            simp only [Act.put, gA, gB, gC, gD, gE, gF]
            refine tkL 8 (.slice (some ⟨g, 0, none⟩) R.all.length c) rfl (fun w' hS => by (obtain ⟨s0, s1, s2, s3, s4⟩ := hS; go_simp)) hHeld ?_
            simp only [Act.put, gA, gB, gC, gD, gE, gF]
            refine tkI 9 (.int .i64 (j : Int)) rfl hHeld ?_
            simp only [Act.put, gA, gB, gC, gD, gE, gF]
            refine tkL 10 (.pointer (some ⟨g, j * 11, none⟩)) rfl (fun w' hS => by (go_simp <;> first | omega | simp_all | (simp; omega))) hHeld ?_
            simp only [Act.put, gA, gB, gC, gD, gE, gF]
            refine tkI 11 (.pointer (some ⟨g, j * 11 + 1, none⟩)) rfl hHeld ?_
            simp only [Act.put, gA, gB, gC, gD, gE, gF]
            refine tkL 12 (.int .i64 x.inc) rfl (fun w' hS => by (obtain ⟨s0, s1, s2, s3, s4⟩ := hS; go_simp)) hHeld ?_
            simp only [Act.put, gA, gB, gC, gD, gE, gF]
            refine tkL 13 (.bool true) rfl (fun w' hS => by (go_simp <;> first | omega | simp_all | (simp; omega))) hHeld ?_
            simp only [Act.put, gA, gB, gC, gD, gE, gF]
            refine tkI 14 (.bool true) rfl hHeld ?_
            simp only [Act.put, gA, gB, gC, gD, gE, gF]
            refine tkI 15 (.bool true) rfl hHeld ?_
            simp only [Act.put, gA, gB, gC, gD, gE, gF]
            refine tkO 16 rfl hHeld ?_
            simp only [Act.put, gA, gB, gC, gD, gE, gF]
            refine tkO 17 rfl hHeld ?_
            simp only [Act.put, gA, gB, gC, gD, gE, gF]
            refine tkO 18 rfl hHeld ?_
            simp only [Act.put, gA, gB, gC, gD, gE, gF]
            refine tkO 19 rfl hHeld ?_
            simp only [Act.put, gA, gB, gC, gD, gE, gF]
            refine tkO 20 rfl hHeld ?_
            simp only [Act.put, gA, gB, gC, gD, gE, gF]
            refine tkO 21 rfl hHeld ?_
            simp only [Act.put, gA, gB, gC, gD, gE, gF]
            refine tkO 22 rfl hHeld ?_
            simp only [Act.put, gA, gB, gC, gD, gE, gF]
            refine tkO 23 rfl hHeld ?_
            simp only [Act.put, gA, gB, gC, gD, gE, gF]
            refine tkO 24 rfl hHeld ?_
            simp only [Act.put, gA, gB, gC, gD, gE, gF]
            refine tkO 25 rfl hHeld ?_
            simp only [Act.put, gA, gB, gC, gD, gE, gF]
            refine tkO 26 rfl hHeld ?_
            simp only [Act.put, gA, gB, gC, gD, gE, gF]
            refine tkO 27 rfl hHeld ?_
            simp only [Act.put, gA, gB, gC, gD, gE, gF]
            refine tkO 28 rfl hHeld ?_
            simp only [Act.put, gA, gB, gC, gD, gE, gF]
            refine tkO 29 rfl hHeld ?_
            simp only [Act.put, gA, gB, gC, gD, gE, gF]
            refine tkO 30 rfl hHeld ?_
            simp only [Act.put, gA, gB, gC, gD, gE, gF]
            refine tkO 31 rfl hHeld ?_
            simp only [Act.put, gA, gB, gC, gD, gE, gF]
            refine tkO 32 rfl hHeld ?_
            simp only [Act.put, gA, gB, gC, gD, gE, gF]
            refine tkO 33 rfl hHeld ?_
            simp only [Act.put, gA, gB, gC, gD, gE, gF]
            refine tkO 34 rfl hHeld ?_
            simp only [Act.put, gA, gB, gC, gD, gE, gF]
            refine tkO 35 rfl hHeld ?_
            simp only [Act.put, gA, gB, gC, gD, gE, gF]
            refine tkO 36 rfl hHeld ?_
            simp only [Act.put, gA, gB, gC, gD, gE, gF]
            refine tkO 37 rfl hHeld ?_
            simp only [Act.put, gA, gB, gC, gD, gE, gF]
            refine tkO 38 rfl hHeld ?_
            simp only [Act.put, gA, gB, gC, gD, gE, gF]
            refine tkO 39 rfl hHeld ?_
            simp only [Act.put, gA, gB, gC, gD, gE, gF]
            refine tkO 40 rfl hHeld ?_
            simp only [Act.put, gA, gB, gC, gD, gE, gF]
            refine tkO 41 rfl hHeld ?_
            simp only [Act.put, gA, gB, gC, gD, gE, gF]
            refine tkI 42 (.bool true) rfl hHeld ?_
            simp only [Act.put, gA, gB, gC, gD, gE, gF]
            refine wpAnyH_done (by kernel_rfl) ?_ _
            clear hHeld
            go_wp2
            first
              | exact ⟨HE.out, by simp [intOf]; omega⟩
              | (go_roundw
                 case rel => exact HE.out
                 case measure => simp [intOf]; omega)
          · by_cases g2 : h.inc = x.inc
            · by_cases g3 : x.p.rev < h.p.rev
              · have HN : Hid (latN R.all q (m + 1) = some m) := by rw [if_pos (show bet h x = true by unfold bet; rw [decide_eq_true g2, decide_eq_true g3]; simp)] at hnx; exact hnx
                have G2 : Hid (h.inc = x.inc) := g2
                clear hnx g2
                subst hq
                have y18X : X.cell? ⟨R.b, 18, none⟩ = some (.slice (some ⟨g, 0, none⟩) R.all.length c) := below_at HbX'.out y18
                have HE : Hid (∃ m_1 : Nat, m_1 ≤ R.all.length ∧ Value.int .i64 (m : Int) = .int .i64 (oI (latN R.all h.q m_1)) ∧ Value.int .i64 ((m : Int) + 1) = .int .i64 (m_1 : Int) ∧ Below w.heap.size w X.drew) := ⟨m + 1, by omega, by rw [HN.out]; rfl, by simp, bstep HbX.out (Below.refl _ _).drew⟩
                go_wp2_with (first | (refine load_mid 86 (.tmp 22) Hrg.out _ Try.underlying86 rfl (by kernel_rfl) rfl rfl rfl ?_) | fail)
                refine wp_region_held_drew (S := (fun w' => w'.cell? ⟨wr.heap.size, 1, none⟩ = some (.int .i64 h.inc) ∧ w'.cell? ⟨wr.heap.size, 4, none⟩ = some (.int .i64 h.p.rev) ∧ w'.cell? ⟨R.b, 18, none⟩ = some (.slice (some ⟨g, 0, none⟩) R.all.length c) ∧ w'.cell? ⟨g, j * 11 + 1, none⟩ = some (.int .i64 x.inc) ∧ w'.cell? ⟨g, j * 11 + 4, none⟩ = some (.int .i64 x.p.rev))) (by kernel_rfl) ⟨below_at (Below.refl _ _).drew y1, below_at (Below.refl _ _).drew y4, below_at (Below.refl _ _).drew y18X, below_at (Below.refl _ _).drew z1, below_at (Below.refl _ _).drew z4⟩ (fun hHeld => ?_)
                simp only [Act.put, List.size_toArray, List.length_cons, List.length_nil, Nat.zero_add]
                refine tkI 0 (.int .i64 (j : Int)) rfl hHeld ?_
                simp only [Act.put, gA, gB, gC, gD, gE, gF]
                refine tkL 1 (.bool false) rfl (fun w' hS => by (go_simp <;> first | omega | simp_all | (simp; omega))) hHeld ?_
                simp only [Act.put, gA, gB, gC, gD, gE, gF]
                refine tkI 2 (.bool false) rfl hHeld ?_
                simp only [Act.put, gA, gB, gC, gD, gE, gF]
                refine tkI 3 (.pointer (some ⟨wr.heap.size, 1, none⟩)) rfl hHeld ?_
                simp only [Act.put, gA, gB, gC, gD, gE, gF]
                refine tkL 4 (.int .i64 h.inc) rfl (fun w' hS => by (obtain ⟨s0, s1, s2, s3, s4⟩ := hS; go_simp)) hHeld ?_
                simp only [Act.put, gA, gB, gC, gD, gE, gF]
                refine tkI 5 (.pointer (some ⟨R.b, 0, none⟩)) rfl hHeld ?_
                simp only [Act.put, gA, gB, gC, gD, gE, gF]
                refine tkI 6 (.pointer (some ⟨R.b, 0, none⟩)) rfl hHeld ?_
                simp only [Act.put, gA, gB, gC, gD, gE, gF]
                refine tkI 7 (.pointer (some ⟨R.b, 18, none⟩)) rfl hHeld ?_
                simp only [Act.put, gA, gB, gC, gD, gE, gF]
                refine tkL 8 (.slice (some ⟨g, 0, none⟩) R.all.length c) rfl (fun w' hS => by (obtain ⟨s0, s1, s2, s3, s4⟩ := hS; go_simp)) hHeld ?_
                simp only [Act.put, gA, gB, gC, gD, gE, gF]
                refine tkI 9 (.int .i64 (j : Int)) rfl hHeld ?_
                simp only [Act.put, gA, gB, gC, gD, gE, gF]
                refine tkL 10 (.pointer (some ⟨g, j * 11, none⟩)) rfl (fun w' hS => by (go_simp <;> first | omega | simp_all | (simp; omega))) hHeld ?_
                simp only [Act.put, gA, gB, gC, gD, gE, gF]
                refine tkI 11 (.pointer (some ⟨g, j * 11 + 1, none⟩)) rfl hHeld ?_
                simp only [Act.put, gA, gB, gC, gD, gE, gF]
                refine tkL 12 (.int .i64 x.inc) rfl (fun w' hS => by (obtain ⟨s0, s1, s2, s3, s4⟩ := hS; go_simp)) hHeld ?_
                simp only [Act.put, gA, gB, gC, gD, gE, gF]
                refine tkL 13 (.bool false) rfl (fun w' hS => by (go_simp <;> first | omega | simp_all | (simp; omega))) hHeld ?_
                simp only [Act.put, gA, gB, gC, gD, gE, gF]
                refine tkI 14 (.bool false) rfl hHeld ?_
                simp only [Act.put, gA, gB, gC, gD, gE, gF]
                refine tkI 15 (.bool false) rfl hHeld ?_
                simp only [Act.put, gA, gB, gC, gD, gE, gF]
                refine tkI 16 (.pointer (some ⟨wr.heap.size, 1, none⟩)) rfl hHeld ?_
                simp only [Act.put, gA, gB, gC, gD, gE, gF]
                refine tkL 17 (.int .i64 h.inc) rfl (fun w' hS => by (obtain ⟨s0, s1, s2, s3, s4⟩ := hS; go_simp)) hHeld ?_
                simp only [Act.put, gA, gB, gC, gD, gE, gF]
                refine tkI 18 (.pointer (some ⟨R.b, 0, none⟩)) rfl hHeld ?_
                simp only [Act.put, gA, gB, gC, gD, gE, gF]
                refine tkI 19 (.pointer (some ⟨R.b, 0, none⟩)) rfl hHeld ?_
                simp only [Act.put, gA, gB, gC, gD, gE, gF]
                refine tkI 20 (.pointer (some ⟨R.b, 18, none⟩)) rfl hHeld ?_
                simp only [Act.put, gA, gB, gC, gD, gE, gF]
                refine tkL 21 (.slice (some ⟨g, 0, none⟩) R.all.length c) rfl (fun w' hS => by (obtain ⟨s0, s1, s2, s3, s4⟩ := hS; go_simp)) hHeld ?_
                simp only [Act.put, gA, gB, gC, gD, gE, gF]
                refine tkI 22 (.int .i64 (j : Int)) rfl hHeld ?_
                simp only [Act.put, gA, gB, gC, gD, gE, gF]
                refine tkL 23 (.pointer (some ⟨g, j * 11, none⟩)) rfl (fun w' hS => by (go_simp <;> first | omega | simp_all | (simp; omega))) hHeld ?_
                simp only [Act.put, gA, gB, gC, gD, gE, gF]
                refine tkI 24 (.pointer (some ⟨g, j * 11 + 1, none⟩)) rfl hHeld ?_
                simp only [Act.put, gA, gB, gC, gD, gE, gF]
                refine tkL 25 (.int .i64 x.inc) rfl (fun w' hS => by (obtain ⟨s0, s1, s2, s3, s4⟩ := hS; go_simp)) hHeld ?_
                simp only [Act.put, gA, gB, gC, gD, gE, gF]
                refine tkL 26 (.bool true) rfl (fun w' hS => by (have g2 := G2.out; go_simp <;> first | omega | simp_all | (simp; omega))) hHeld ?_
                simp only [Act.put, gA, gB, gC, gD, gE, gF]
                refine tkI 27 (.bool true) rfl hHeld ?_
                simp only [Act.put, gA, gB, gC, gD, gE, gF]
                refine tkI 28 (.pointer (some ⟨wr.heap.size, 2, none⟩)) rfl hHeld ?_
                simp only [Act.put, gA, gB, gC, gD, gE, gF]
                refine tkI 29 (.pointer (some ⟨wr.heap.size, 4, none⟩)) rfl hHeld ?_
                simp only [Act.put, gA, gB, gC, gD, gE, gF]
                refine tkL 30 (.int .i64 h.p.rev) rfl (fun w' hS => by (obtain ⟨s0, s1, s2, s3, s4⟩ := hS; go_simp)) hHeld ?_
                simp only [Act.put, gA, gB, gC, gD, gE, gF]
                refine tkI 31 (.pointer (some ⟨R.b, 0, none⟩)) rfl hHeld ?_
                simp only [Act.put, gA, gB, gC, gD, gE, gF]
                refine tkI 32 (.pointer (some ⟨R.b, 0, none⟩)) rfl hHeld ?_
                simp only [Act.put, gA, gB, gC, gD, gE, gF]
                refine tkI 33 (.pointer (some ⟨R.b, 18, none⟩)) rfl hHeld ?_
                simp only [Act.put, gA, gB, gC, gD, gE, gF]
                refine tkL 34 (.slice (some ⟨g, 0, none⟩) R.all.length c) rfl (fun w' hS => by (obtain ⟨s0, s1, s2, s3, s4⟩ := hS; go_simp)) hHeld ?_
                simp only [Act.put, gA, gB, gC, gD, gE, gF]
                refine tkI 35 (.int .i64 (j : Int)) rfl hHeld ?_
                simp only [Act.put, gA, gB, gC, gD, gE, gF]
                refine tkL 36 (.pointer (some ⟨g, j * 11, none⟩)) rfl (fun w' hS => by (go_simp <;> first | omega | simp_all | (simp; omega))) hHeld ?_
                simp only [Act.put, gA, gB, gC, gD, gE, gF]
                refine tkI 37 (.pointer (some ⟨g, j * 11 + 2, none⟩)) rfl hHeld ?_
                simp only [Act.put, gA, gB, gC, gD, gE, gF]
                refine tkI 38 (.pointer (some ⟨g, j * 11 + 4, none⟩)) rfl hHeld ?_
                simp only [Act.put, gA, gB, gC, gD, gE, gF]
                refine tkL 39 (.int .i64 x.p.rev) rfl (fun w' hS => by (obtain ⟨s0, s1, s2, s3, s4⟩ := hS; go_simp)) hHeld ?_
                simp only [Act.put, gA, gB, gC, gD, gE, gF]
                refine tkL 40 (.bool true) rfl (fun w' hS => by (go_simp <;> first | omega | simp_all | (simp; omega))) hHeld ?_
                simp only [Act.put, gA, gB, gC, gD, gE, gF]
                refine tkI 41 (.bool true) rfl hHeld ?_
                simp only [Act.put, gA, gB, gC, gD, gE, gF]
                refine tkI 42 (.bool true) rfl hHeld ?_
                simp only [Act.put, gA, gB, gC, gD, gE, gF]
                refine wpAnyH_done (by kernel_rfl) ?_ _
                clear hHeld
                go_wp2
                first
                  | exact ⟨HE.out, by simp [intOf]; omega⟩
                  | (go_roundw
                     case rel => exact HE.out
                     case measure => simp [intOf]; omega)
              · have HN : Hid (latN R.all q (m + 1) = some j) := by rw [if_neg (show ¬ bet h x = true by unfold bet; rw [decide_eq_false g1, decide_eq_false g3]; simp)] at hnx; exact hnx
                have G2 : Hid (h.inc = x.inc) := g2
                clear hnx g2
                subst hq
                have y18X : X.cell? ⟨R.b, 18, none⟩ = some (.slice (some ⟨g, 0, none⟩) R.all.length c) := below_at HbX'.out y18
                have HE : Hid (∃ m_1 : Nat, m_1 ≤ R.all.length ∧ Value.int .i64 (j : Int) = .int .i64 (oI (latN R.all h.q m_1)) ∧ Value.int .i64 ((m : Int) + 1) = .int .i64 (m_1 : Int) ∧ Below w.heap.size w X.drew) := ⟨m + 1, by omega, by rw [HN.out]; rfl, by simp, bstep HbX.out (Below.refl _ _).drew⟩
                go_wp2_with (first | (refine load_mid 86 (.tmp 22) Hrg.out _ Try.underlying86 rfl (by kernel_rfl) rfl rfl rfl ?_) | fail)
                refine wp_region_held_drew (S := (fun w' => w'.cell? ⟨wr.heap.size, 1, none⟩ = some (.int .i64 h.inc) ∧ w'.cell? ⟨wr.heap.size, 4, none⟩ = some (.int .i64 h.p.rev) ∧ w'.cell? ⟨R.b, 18, none⟩ = some (.slice (some ⟨g, 0, none⟩) R.all.length c) ∧ w'.cell? ⟨g, j * 11 + 1, none⟩ = some (.int .i64 x.inc) ∧ w'.cell? ⟨g, j * 11 + 4, none⟩ = some (.int .i64 x.p.rev))) (by kernel_rfl) ⟨below_at (Below.refl _ _).drew y1, below_at (Below.refl _ _).drew y4, below_at (Below.refl _ _).drew y18X, below_at (Below.refl _ _).drew z1, below_at (Below.refl _ _).drew z4⟩ (fun hHeld => ?_)
                simp only [Act.put, List.size_toArray, List.length_cons, List.length_nil, Nat.zero_add]
                refine tkI 0 (.int .i64 (j : Int)) rfl hHeld ?_
                simp only [Act.put, gA, gB, gC, gD, gE, gF]
                refine tkL 1 (.bool false) rfl (fun w' hS => by (go_simp <;> first | omega | simp_all | (simp; omega))) hHeld ?_
                simp only [Act.put, gA, gB, gC, gD, gE, gF]
                refine tkI 2 (.bool false) rfl hHeld ?_
                simp only [Act.put, gA, gB, gC, gD, gE, gF]
                refine tkI 3 (.pointer (some ⟨wr.heap.size, 1, none⟩)) rfl hHeld ?_
                simp only [Act.put, gA, gB, gC, gD, gE, gF]
                refine tkL 4 (.int .i64 h.inc) rfl (fun w' hS => by (obtain ⟨s0, s1, s2, s3, s4⟩ := hS; go_simp)) hHeld ?_
                simp only [Act.put, gA, gB, gC, gD, gE, gF]
                refine tkI 5 (.pointer (some ⟨R.b, 0, none⟩)) rfl hHeld ?_
                simp only [Act.put, gA, gB, gC, gD, gE, gF]
                refine tkI 6 (.pointer (some ⟨R.b, 0, none⟩)) rfl hHeld ?_
                simp only [Act.put, gA, gB, gC, gD, gE, gF]
                refine tkI 7 (.pointer (some ⟨R.b, 18, none⟩)) rfl hHeld ?_
                simp only [Act.put, gA, gB, gC, gD, gE, gF]
                refine tkL 8 (.slice (some ⟨g, 0, none⟩) R.all.length c) rfl (fun w' hS => by (obtain ⟨s0, s1, s2, s3, s4⟩ := hS; go_simp)) hHeld ?_
                simp only [Act.put, gA, gB, gC, gD, gE, gF]
                refine tkI 9 (.int .i64 (j : Int)) rfl hHeld ?_
                simp only [Act.put, gA, gB, gC, gD, gE, gF]
                refine tkL 10 (.pointer (some ⟨g, j * 11, none⟩)) rfl (fun w' hS => by (go_simp <;> first | omega | simp_all | (simp; omega))) hHeld ?_
                simp only [Act.put, gA, gB, gC, gD, gE, gF]
                refine tkI 11 (.pointer (some ⟨g, j * 11 + 1, none⟩)) rfl hHeld ?_
                simp only [Act.put, gA, gB, gC, gD, gE, gF]
                refine tkL 12 (.int .i64 x.inc) rfl (fun w' hS => by (obtain ⟨s0, s1, s2, s3, s4⟩ := hS; go_simp)) hHeld ?_
                simp only [Act.put, gA, gB, gC, gD, gE, gF]
                refine tkL 13 (.bool false) rfl (fun w' hS => by (go_simp <;> first | omega | simp_all | (simp; omega))) hHeld ?_
                simp only [Act.put, gA, gB, gC, gD, gE, gF]
                refine tkI 14 (.bool false) rfl hHeld ?_
                simp only [Act.put, gA, gB, gC, gD, gE, gF]
                refine tkI 15 (.bool false) rfl hHeld ?_
                simp only [Act.put, gA, gB, gC, gD, gE, gF]
                refine tkI 16 (.pointer (some ⟨wr.heap.size, 1, none⟩)) rfl hHeld ?_
                simp only [Act.put, gA, gB, gC, gD, gE, gF]
                refine tkL 17 (.int .i64 h.inc) rfl (fun w' hS => by (obtain ⟨s0, s1, s2, s3, s4⟩ := hS; go_simp)) hHeld ?_
                simp only [Act.put, gA, gB, gC, gD, gE, gF]
                refine tkI 18 (.pointer (some ⟨R.b, 0, none⟩)) rfl hHeld ?_
                simp only [Act.put, gA, gB, gC, gD, gE, gF]
                refine tkI 19 (.pointer (some ⟨R.b, 0, none⟩)) rfl hHeld ?_
                simp only [Act.put, gA, gB, gC, gD, gE, gF]
                refine tkI 20 (.pointer (some ⟨R.b, 18, none⟩)) rfl hHeld ?_
                simp only [Act.put, gA, gB, gC, gD, gE, gF]
                refine tkL 21 (.slice (some ⟨g, 0, none⟩) R.all.length c) rfl (fun w' hS => by (obtain ⟨s0, s1, s2, s3, s4⟩ := hS; go_simp)) hHeld ?_
                simp only [Act.put, gA, gB, gC, gD, gE, gF]
                refine tkI 22 (.int .i64 (j : Int)) rfl hHeld ?_
                simp only [Act.put, gA, gB, gC, gD, gE, gF]
                refine tkL 23 (.pointer (some ⟨g, j * 11, none⟩)) rfl (fun w' hS => by (go_simp <;> first | omega | simp_all | (simp; omega))) hHeld ?_
                simp only [Act.put, gA, gB, gC, gD, gE, gF]
                refine tkI 24 (.pointer (some ⟨g, j * 11 + 1, none⟩)) rfl hHeld ?_
                simp only [Act.put, gA, gB, gC, gD, gE, gF]
                refine tkL 25 (.int .i64 x.inc) rfl (fun w' hS => by (obtain ⟨s0, s1, s2, s3, s4⟩ := hS; go_simp)) hHeld ?_
                simp only [Act.put, gA, gB, gC, gD, gE, gF]
                refine tkL 26 (.bool true) rfl (fun w' hS => by (have g2 := G2.out; go_simp <;> first | omega | simp_all | (simp; omega))) hHeld ?_
                simp only [Act.put, gA, gB, gC, gD, gE, gF]
                refine tkI 27 (.bool true) rfl hHeld ?_
                simp only [Act.put, gA, gB, gC, gD, gE, gF]
                refine tkI 28 (.pointer (some ⟨wr.heap.size, 2, none⟩)) rfl hHeld ?_
                simp only [Act.put, gA, gB, gC, gD, gE, gF]
                refine tkI 29 (.pointer (some ⟨wr.heap.size, 4, none⟩)) rfl hHeld ?_
                simp only [Act.put, gA, gB, gC, gD, gE, gF]
                refine tkL 30 (.int .i64 h.p.rev) rfl (fun w' hS => by (obtain ⟨s0, s1, s2, s3, s4⟩ := hS; go_simp)) hHeld ?_
                simp only [Act.put, gA, gB, gC, gD, gE, gF]
                refine tkI 31 (.pointer (some ⟨R.b, 0, none⟩)) rfl hHeld ?_
                simp only [Act.put, gA, gB, gC, gD, gE, gF]
                refine tkI 32 (.pointer (some ⟨R.b, 0, none⟩)) rfl hHeld ?_
                simp only [Act.put, gA, gB, gC, gD, gE, gF]
                refine tkI 33 (.pointer (some ⟨R.b, 18, none⟩)) rfl hHeld ?_
                simp only [Act.put, gA, gB, gC, gD, gE, gF]
                refine tkL 34 (.slice (some ⟨g, 0, none⟩) R.all.length c) rfl (fun w' hS => by (obtain ⟨s0, s1, s2, s3, s4⟩ := hS; go_simp)) hHeld ?_
                simp only [Act.put, gA, gB, gC, gD, gE, gF]
                refine tkI 35 (.int .i64 (j : Int)) rfl hHeld ?_
                simp only [Act.put, gA, gB, gC, gD, gE, gF]
                refine tkL 36 (.pointer (some ⟨g, j * 11, none⟩)) rfl (fun w' hS => by (go_simp <;> first | omega | simp_all | (simp; omega))) hHeld ?_
                simp only [Act.put, gA, gB, gC, gD, gE, gF]
                refine tkI 37 (.pointer (some ⟨g, j * 11 + 2, none⟩)) rfl hHeld ?_
                simp only [Act.put, gA, gB, gC, gD, gE, gF]
                refine tkI 38 (.pointer (some ⟨g, j * 11 + 4, none⟩)) rfl hHeld ?_
                simp only [Act.put, gA, gB, gC, gD, gE, gF]
                refine tkL 39 (.int .i64 x.p.rev) rfl (fun w' hS => by (obtain ⟨s0, s1, s2, s3, s4⟩ := hS; go_simp)) hHeld ?_
                simp only [Act.put, gA, gB, gC, gD, gE, gF]
                refine tkL 40 (.bool false) rfl (fun w' hS => by (go_simp <;> first | omega | simp_all | (simp; omega))) hHeld ?_
                simp only [Act.put, gA, gB, gC, gD, gE, gF]
                refine tkI 41 (.bool false) rfl hHeld ?_
                simp only [Act.put, gA, gB, gC, gD, gE, gF]
                refine tkI 42 (.bool false) rfl hHeld ?_
                simp only [Act.put, gA, gB, gC, gD, gE, gF]
                refine wpAnyH_done (by kernel_rfl) ?_ _
                clear hHeld
                go_wp2
                first
                  | exact ⟨HE.out, by simp [intOf]; omega⟩
                  | (go_roundw
                     case rel => exact HE.out
                     case measure => simp [intOf]; omega)
            · have HN : Hid (latN R.all q (m + 1) = some j) := by rw [if_neg (show ¬ bet h x = true by unfold bet; rw [decide_eq_false g1, decide_eq_false g2]; simp)] at hnx; exact hnx
              clear hnx
              subst hq
              have y18X : X.cell? ⟨R.b, 18, none⟩ = some (.slice (some ⟨g, 0, none⟩) R.all.length c) := below_at HbX'.out y18
              have HE : Hid (∃ m_1 : Nat, m_1 ≤ R.all.length ∧ Value.int .i64 (j : Int) = .int .i64 (oI (latN R.all h.q m_1)) ∧ Value.int .i64 ((m : Int) + 1) = .int .i64 (m_1 : Int) ∧ Below w.heap.size w X.drew) := ⟨m + 1, by omega, by rw [HN.out]; rfl, by simp, bstep HbX.out (Below.refl _ _).drew⟩
              go_wp2_with (first | (refine load_mid 86 (.tmp 22) Hrg.out _ Try.underlying86 rfl (by kernel_rfl) rfl rfl rfl ?_) | fail)
              refine wp_region_held_drew (S := (fun w' => w'.cell? ⟨wr.heap.size, 1, none⟩ = some (.int .i64 h.inc) ∧ w'.cell? ⟨wr.heap.size, 4, none⟩ = some (.int .i64 h.p.rev) ∧ w'.cell? ⟨R.b, 18, none⟩ = some (.slice (some ⟨g, 0, none⟩) R.all.length c) ∧ w'.cell? ⟨g, j * 11 + 1, none⟩ = some (.int .i64 x.inc) ∧ w'.cell? ⟨g, j * 11 + 4, none⟩ = some (.int .i64 x.p.rev))) (by kernel_rfl) ⟨below_at (Below.refl _ _).drew y1, below_at (Below.refl _ _).drew y4, below_at (Below.refl _ _).drew y18X, below_at (Below.refl _ _).drew z1, below_at (Below.refl _ _).drew z4⟩ (fun hHeld => ?_)
              simp only [Act.put, List.size_toArray, List.length_cons, List.length_nil, Nat.zero_add]
              refine tkI 0 (.int .i64 (j : Int)) rfl hHeld ?_
              simp only [Act.put, gA, gB, gC, gD, gE, gF]
              refine tkL 1 (.bool false) rfl (fun w' hS => by (go_simp <;> first | omega | simp_all | (simp; omega))) hHeld ?_
              simp only [Act.put, gA, gB, gC, gD, gE, gF]
              refine tkI 2 (.bool false) rfl hHeld ?_
              simp only [Act.put, gA, gB, gC, gD, gE, gF]
              refine tkI 3 (.pointer (some ⟨wr.heap.size, 1, none⟩)) rfl hHeld ?_
              simp only [Act.put, gA, gB, gC, gD, gE, gF]
              refine tkL 4 (.int .i64 h.inc) rfl (fun w' hS => by (obtain ⟨s0, s1, s2, s3, s4⟩ := hS; go_simp)) hHeld ?_
              simp only [Act.put, gA, gB, gC, gD, gE, gF]
              refine tkI 5 (.pointer (some ⟨R.b, 0, none⟩)) rfl hHeld ?_
              simp only [Act.put, gA, gB, gC, gD, gE, gF]
              refine tkI 6 (.pointer (some ⟨R.b, 0, none⟩)) rfl hHeld ?_
              simp only [Act.put, gA, gB, gC, gD, gE, gF]
              refine tkI 7 (.pointer (some ⟨R.b, 18, none⟩)) rfl hHeld ?_
              simp only [Act.put, gA, gB, gC, gD, gE, gF]
              refine tkL 8 (.slice (some ⟨g, 0, none⟩) R.all.length c) rfl (fun w' hS => by (obtain ⟨s0, s1, s2, s3, s4⟩ := hS; go_simp)) hHeld ?_
              simp only [Act.put, gA, gB, gC, gD, gE, gF]
              refine tkI 9 (.int .i64 (j : Int)) rfl hHeld ?_
              simp only [Act.put, gA, gB, gC, gD, gE, gF]
              refine tkL 10 (.pointer (some ⟨g, j * 11, none⟩)) rfl (fun w' hS => by (go_simp <;> first | omega | simp_all | (simp; omega))) hHeld ?_
              simp only [Act.put, gA, gB, gC, gD, gE, gF]
              refine tkI 11 (.pointer (some ⟨g, j * 11 + 1, none⟩)) rfl hHeld ?_
              simp only [Act.put, gA, gB, gC, gD, gE, gF]
              refine tkL 12 (.int .i64 x.inc) rfl (fun w' hS => by (obtain ⟨s0, s1, s2, s3, s4⟩ := hS; go_simp)) hHeld ?_
              simp only [Act.put, gA, gB, gC, gD, gE, gF]
              refine tkL 13 (.bool false) rfl (fun w' hS => by (go_simp <;> first | omega | simp_all | (simp; omega))) hHeld ?_
              simp only [Act.put, gA, gB, gC, gD, gE, gF]
              refine tkI 14 (.bool false) rfl hHeld ?_
              simp only [Act.put, gA, gB, gC, gD, gE, gF]
              refine tkI 15 (.bool false) rfl hHeld ?_
              simp only [Act.put, gA, gB, gC, gD, gE, gF]
              refine tkI 16 (.pointer (some ⟨wr.heap.size, 1, none⟩)) rfl hHeld ?_
              simp only [Act.put, gA, gB, gC, gD, gE, gF]
              refine tkL 17 (.int .i64 h.inc) rfl (fun w' hS => by (obtain ⟨s0, s1, s2, s3, s4⟩ := hS; go_simp)) hHeld ?_
              simp only [Act.put, gA, gB, gC, gD, gE, gF]
              refine tkI 18 (.pointer (some ⟨R.b, 0, none⟩)) rfl hHeld ?_
              simp only [Act.put, gA, gB, gC, gD, gE, gF]
              refine tkI 19 (.pointer (some ⟨R.b, 0, none⟩)) rfl hHeld ?_
              simp only [Act.put, gA, gB, gC, gD, gE, gF]
              refine tkI 20 (.pointer (some ⟨R.b, 18, none⟩)) rfl hHeld ?_
              simp only [Act.put, gA, gB, gC, gD, gE, gF]
              refine tkL 21 (.slice (some ⟨g, 0, none⟩) R.all.length c) rfl (fun w' hS => by (obtain ⟨s0, s1, s2, s3, s4⟩ := hS; go_simp)) hHeld ?_
              simp only [Act.put, gA, gB, gC, gD, gE, gF]
              refine tkI 22 (.int .i64 (j : Int)) rfl hHeld ?_
              simp only [Act.put, gA, gB, gC, gD, gE, gF]
              refine tkL 23 (.pointer (some ⟨g, j * 11, none⟩)) rfl (fun w' hS => by (go_simp <;> first | omega | simp_all | (simp; omega))) hHeld ?_
              simp only [Act.put, gA, gB, gC, gD, gE, gF]
              refine tkI 24 (.pointer (some ⟨g, j * 11 + 1, none⟩)) rfl hHeld ?_
              simp only [Act.put, gA, gB, gC, gD, gE, gF]
              refine tkL 25 (.int .i64 x.inc) rfl (fun w' hS => by (obtain ⟨s0, s1, s2, s3, s4⟩ := hS; go_simp)) hHeld ?_
              simp only [Act.put, gA, gB, gC, gD, gE, gF]
              refine tkL 26 (.bool false) rfl (fun w' hS => by (go_simp <;> first | omega | simp_all | (simp; omega))) hHeld ?_
              simp only [Act.put, gA, gB, gC, gD, gE, gF]
              refine tkI 27 (.bool false) rfl hHeld ?_
              simp only [Act.put, gA, gB, gC, gD, gE, gF]
              refine tkO 28 rfl hHeld ?_
              simp only [Act.put, gA, gB, gC, gD, gE, gF]
              refine tkO 29 rfl hHeld ?_
              simp only [Act.put, gA, gB, gC, gD, gE, gF]
              refine tkO 30 rfl hHeld ?_
              simp only [Act.put, gA, gB, gC, gD, gE, gF]
              refine tkO 31 rfl hHeld ?_
              simp only [Act.put, gA, gB, gC, gD, gE, gF]
              refine tkO 32 rfl hHeld ?_
              simp only [Act.put, gA, gB, gC, gD, gE, gF]
              refine tkO 33 rfl hHeld ?_
              simp only [Act.put, gA, gB, gC, gD, gE, gF]
              refine tkO 34 rfl hHeld ?_
              simp only [Act.put, gA, gB, gC, gD, gE, gF]
              refine tkO 35 rfl hHeld ?_
              simp only [Act.put, gA, gB, gC, gD, gE, gF]
              refine tkO 36 rfl hHeld ?_
              simp only [Act.put, gA, gB, gC, gD, gE, gF]
              refine tkO 37 rfl hHeld ?_
              simp only [Act.put, gA, gB, gC, gD, gE, gF]
              refine tkO 38 rfl hHeld ?_
              simp only [Act.put, gA, gB, gC, gD, gE, gF]
              refine tkO 39 rfl hHeld ?_
              simp only [Act.put, gA, gB, gC, gD, gE, gF]
              refine tkO 40 rfl hHeld ?_
              simp only [Act.put, gA, gB, gC, gD, gE, gF]
              refine tkI 41 (.bool false) rfl hHeld ?_
              simp only [Act.put, gA, gB, gC, gD, gE, gF]
              refine tkI 42 (.bool false) rfl hHeld ?_
              simp only [Act.put, gA, gB, gC, gD, gE, gF]
              refine wpAnyH_done (by kernel_rfl) ?_ _
              clear hHeld
              go_wp2
              first
                | exact ⟨HE.out, by simp [intOf]; omega⟩
                | (go_roundw
                   case rel => exact HE.out
                   case measure => simp [intOf]; omega)
      · rw [if_pos hq] at hnx
        have HN : Hid (latN R.all q (m + 1) = latN R.all q m) := hnx
        have hq' : (h.q == q) = false := by simpa using hq
        clear hnx hq hj y18w
        go_wp2_with (first | (refine load_mid 86 (.tmp 22) Hrg.out _ Try.underlying86 rfl (by kernel_rfl) rfl rfl rfl ?_) | fail)
        have HE : Hid (∃ m_1 : Nat, m_1 ≤ R.all.length ∧ Value.int .i64 (oI (latN R.all q m)) = .int .i64 (oI (latN R.all q m_1)) ∧ Value.int .i64 ((m : Int) + 1) = .int .i64 (m_1 : Int) ∧ Below w.heap.size w X) := ⟨m + 1, by omega, by rw [HN.out], by simp, HbX.out⟩
        first
          | exact ⟨HE.out, by simp [intOf]; omega⟩
          | (go_roundw
             case rel => exact HE.out
             case measure => simp [intOf]; omega)
    · obtain rfl : m = R.all.length := by omega
      have j2 : decide ((R.all.length : Int) < (R.all.length : Int)) = false := decide_eq_false (by omega)
      clear hR
      go_wp2
      go_ret
      exact ⟨rfl, hb⟩
end
end
end Go.Proofs.Ytbdefhagpgpoiac.Mb
