import Derived.Test.YthogcanfinjfdaaMd
namespace Go.Proofs.Ythogcanfinjfdaa.Et
open Go.RowKit Go.Maps
set_option linter.unusedVariables false
set_option linter.unusedSimpArgs false
set_option maxRecDepth 100000
section
variable {E E' : En} {w w' W w1 : World} {B m : Nat}
def badNew (n r : Int) : Prop := n < 1 ∨ 16 < n ∨ r < 1 ∨ 20000 < r

set_option maxHeartbeats 400000 in
theorem new_no (n r : Int) (hb : badNew n r) : Calls Try.prog 9 #[.int .i64 n, .int .i64 r] w fun e w' => e = .returned (.tuple #[.pointer none, .int .i64 1]) ∧ w = w' := by
  unfold badNew at hb
  go_enter Try.func9, Try.ntmps9
  go_wp2
  all_goals first | (exfalso; omega) | (go_ret2; exact ⟨rfl, rfl⟩)

theorem info_node : (Try.prog.info? 93).map (fun i => (i.zero, i.size, i.bytes)) = some (some (.agg #[.bool false, .int .i64 0, .int .i64 0]), 3, 24) := by kernel_rfl

def newE (b bn bc bd n : Nat) (r : Int) (k : Nat) : En := ⟨b, bn, bc, bd, n, 0, r, 0, fun i => decide (i < k), fun i => if i < k then 1 else 0, fun _ => 0, fun _ _ => false, fun _ _ => 1, none, 0, []⟩
theorem node_zero (n : Nat) (p : Nat) (hp : p < n) : (madeCells #[.bool false, .int .i64 0, .int .i64 0] (n * 3))[p * 3]? = some (.bool false) ∧ (madeCells #[.bool false, .int .i64 0, .int .i64 0] (n * 3))[p * 3 + 1]? = some (.int .i64 0) ∧ (madeCells #[.bool false, .int .i64 0, .int .i64 0] (n * 3))[p * 3 + 2]? = some (.int .i64 0) := by
  have h0 : p * 3 < n * 3 := by omega
  have h1 : p * 3 + 1 < n * 3 := by omega
  have h2 : p * 3 + 2 < n * 3 := by omega
  unfold madeCells
  simp only [Array.getElem?_map, Array.getElem?_range, h0, h1, h2, if_true, Option.map_some]
  have e0 : p * 3 % 3 = 0 := by omega
  have e1 : (p * 3 + 1) % 3 = 1 := by omega
  have e2 : (p * 3 + 2) % 3 = 2 := by omega
  simp [e0, e1, e2]

theorem new_first {w w1 : World} (n : Nat) (r : Int) (h1 : 1 ≤ n) (h2 : n ≤ 16) (hown : w1.ownsRow w.heap.size 93 3 (.slice (some ⟨w.heap.size, 0, none⟩) n n) n (madeCells #[.bool false, .int .i64 0, .int .i64 0] (n * 3)).toList) (hb : Below w.heap.size w w1) :
    En.Ok (newE (w1.heap.size + 1 + 1) w.heap.size w1.heap.size (w1.heap.size + 1) n r 0) (((w1.alloc (.map #[] 0)).alloc (.map #[] 0)).alloc (.cells #[.int .i64 0, .slice (some ⟨w.heap.size, 0, none⟩) n n, .map (some w1.heap.size), .map (some (w1.heap.size + 1)), .int .i64 r, .int .i64 0, .slice none 0 0] 91)) w.heap.size 0 ∧
    Below w.heap.size w (((w1.alloc (.map #[] 0)).alloc (.map #[] 0)).alloc (.cells #[.int .i64 0, .slice (some ⟨w.heap.size, 0, none⟩) n n, .map (some w1.heap.size), .map (some (w1.heap.size + 1)), .int .i64 r, .int .i64 0, .slice none 0 0] 91)) := by
  have hsz := hb.size
  have hlt : w.heap.size < w1.heap.size := by
    obtain ⟨cur, hc⟩ := row_ty hown (j := w.heap.size) rfl
    exact lt_heap hc
  generalize hX : (Obj.cells #[.int .i64 0, .slice (some ⟨w.heap.size, 0, none⟩) n n, .map (some w1.heap.size), .map (some (w1.heap.size + 1)), .int .i64 r, .int .i64 0, .slice none 0 0] 91) = X
  have hbk : heap_alloc_new ((w1.alloc (.map #[] 0)).alloc (.map #[] 0)) X = heap_alloc_new ((w1.alloc (.map #[] 0)).alloc (.map #[] 0)) X := rfl
  have hB : (((w1.alloc (.map #[] 0)).alloc (.map #[] 0)).alloc X).heap[w1.heap.size + 1 + 1]? = some X := by
    have := heap_alloc_new ((w1.alloc (.map #[] 0)).alloc (.map #[] 0)) X
    simpa using this
  have a1 := World.ownsMap_made (H := Unit) w1 Try.prog 99 unitElem
  have a2 := World.ownsMap_made (H := Unit) (w1.alloc (.map #[] 0)) Try.prog 99 (plainElem Try.prog 3)
  have hs1 : (w1.alloc (.map #[] 0)).heap.size = w1.heap.size + 1 := by simp
  rw [hs1] at a2
  refine ⟨⟨?_, ?_, ?_, ?_, ⟨?_, ?_, ?_⟩, ?_, ?_, ⟨h1, h2⟩, ?_, ?_⟩, balloc (balloc (balloc hb))⟩
  · show (((w1.alloc (.map #[] 0)).alloc (.map #[] 0)).alloc X).heap[w1.heap.size + 1 + 1]? = _
    rw [hB, ← hX]
    rfl
  · rcases hown.2 with ⟨e1, e2⟩ | ⟨g, cap, cur, hv, hg0, hg, hnc, hcm, hcs, htk⟩
    · simp at e1
    · simp at hv
      obtain ⟨rfl, rfl⟩ := hv
      have hcur : cur = madeCells #[.bool false, .int .i64 0, .int .i64 0] (n * 3) := by
        have e3 : cur.toList = (madeCells #[.bool false, .int .i64 0, .int .i64 0] (n * 3)).toList := by
          rw [← htk, List.take_of_length_le (by simp; omega)]
        exact Array.toList_inj.1 e3
      subst hcur
      refine ⟨_, blk_alloc (blk_alloc (blk_alloc hg)), by simp [size_madeCells, newE], fun p hp => ?_⟩
      obtain ⟨z0, z1, z2⟩ := node_zero n p hp
      exact ⟨by rw [z0]; simp [newE], by rw [z1]; simp [newE], z2⟩
  · exact ⟨.map [], (a1.alloc _).alloc _, fun p q _ _ => rfl⟩
  · refine ⟨.map [], a2.alloc _, fun p q _ _ => ⟨rfl, rfl⟩⟩
  · exact ⟨rfl, .inl ⟨rfl, rfl⟩⟩
  · intro f hf; cases hf
  · exact List.Pairwise.nil
  · exact ⟨by show w.heap.size ≤ w1.heap.size + 1 + 1; omega, Nat.le_refl _, by show w.heap.size ≤ w1.heap.size; omega, by show w.heap.size ≤ w1.heap.size + 1; omega⟩
  · show w1.heap.size ≠ w1.heap.size + 1; omega
  · intro f hf; cases hf
  · intro p q _ _; show (1 : Int) ≤ 1 ∧ (1 : Int) ≤ 16; omega

theorem new_next {b bn bc bd n k : Nat} {r : Int} {wr : World} (h : En.Ok (newE b bn bc bd n r k) wr B 0) (hk : k < n) :
    En.Ok (newE b bn bc bd n r (k + 1)) (((wr.setCell ⟨bn, k * 3, none⟩ (.bool true)).setCell ⟨bn, k * 3 + 1, none⟩ (.int .i64 1)).setCell ⟨bn, k * 3 + 2, none⟩ (.int .i64 0)) B 0 := by
  have s1 := Step.nod h ((h.nod.set hk).1 true)
  have s2 := Step.nod s1.ok ((s1.ok.nod.set hk).2.1 1)
  have s3 := Step.nod s2.ok ((s2.ok.nod.set hk).2.2 0)
  have e : newE b bn bc bd n r (k + 1) = { newE b bn bc bd n r k with up := upd1 (newE b bn bc bd n r k).up k true, inc := upd1 (newE b bn bc bd n r k).inc k 1, tick := upd1 (newE b bn bc bd n r k).tick k 0 } := by
    unfold newE upd1
    congr 1
    · funext i
      by_cases hi : i = k
      · subst hi; simp
      · have : (i < k + 1) ↔ (i < k) := by omega
        simp [hi, this]
    · funext i
      by_cases hi : i = k
      · subst hi; simp
      · have : (i < k + 1) ↔ (i < k) := by omega
        simp [hi, this]
    · funext i
      simp
  rw [e]
  exact s3.ok

set_option maxHeartbeats 400000 in
theorem new_ok (n : Nat) (r : Int) (h1 : 1 ≤ n) (h2 : n ≤ 16) (h3 : 1 ≤ r) (h4 : r ≤ 20000) : Calls Try.prog 9 #[.int .i64 n, .int .i64 r] w fun e w' => ∃ b bn bc bd, e = .returned (.tuple #[.pointer (some ⟨b, 0, none⟩), .int .i64 0]) ∧ En.Ok (newE b bn bc bd n r n) w' w.heap.size 0 ∧ Below w.heap.size w w' := by
  have i1 : (1 : Int) ≤ (n : Int) := by omega
  have i2 : (n : Int) ≤ 16 := by omega
  have hmm := @run_makeMap Try.prog
  obtain ⟨i0, hi, hz0, hz1, hz2⟩ := info_parts info_node
  go_enter Try.func9, Try.ntmps9
  go_wp2_with (first
    | (at_make; refine wpList_make_full _ rfl _ _ 87 rfl w.heap.size 93 i0 (.agg #[.bool false, .int .i64 0, .int .i64 0]) 3 Try.underlying87 hi hz0 hz1 .i64 .i64 _ _ n rfl rfl rfl rfl (by rw [hz2]; omega) (by unfold maxLen; omega) (Nat.le_refl _) ?_)
    | fail)
  intro w1 hown hgrow
  obtain ⟨hf1, hf2⟩ := new_first n r h1 h2 hown ((Below.refl _ w).grown hgrow (Nat.le_refl _) (fun k hk => by cases hk))
  generalize hX : ((w1.alloc (.map #[] 0)).alloc (.map #[] 0)).alloc (.cells #[.int .i64 0, .slice (some ⟨w.heap.size, 0, none⟩) n n, .map (some w1.heap.size), .map (some (w1.heap.size + 1)), .int .i64 r, .int .i64 0, .slice none 0 0] 91) = X at hf1 hf2
  have H1 : Hid (En.Ok (newE (w1.heap.size + 1 + 1) w.heap.size w1.heap.size (w1.heap.size + 1) n r 0) X w.heap.size 0) := hf1
  have H2 : Hid (Below w.heap.size w X) := hf2
  have c1 : X.cell? ⟨w1.heap.size + 1 + 1, 1, none⟩ = some (.slice (some ⟨w.heap.size, 0, none⟩) n n) := hf1.c1
  clear hown hgrow hf1 hf2
  go_wp2
  go_loopw [34] (fun i wr => ∃ k : Nat, k ≤ n ∧ i = .int .i64 k ∧ En.Ok (newE (w1.heap.size + 1 + 1) w.heap.size w1.heap.size (w1.heap.size + 1) n r k) wr w.heap.size 0 ∧ Below w.heap.size w wr) (fun i _ => n - (intOf i).toNat)
  case atStart => exact ⟨0, Nat.zero_le _, rfl, H1.out, H2.out⟩
  case round =>
    obtain ⟨k, hk, rfl, hok, hbel⟩ := hrel
    have HK : Hid (En.Ok (newE (w1.heap.size + 1 + 1) w.heap.size w1.heap.size (w1.heap.size + 1) n r k) wr w.heap.size 0) := hok
    have HB : Hid (Below w.heap.size w wr) := hbel
    by_cases hlt : k < n
    · have d1 : wr.cell? ⟨w1.heap.size + 1 + 1, 1, none⟩ = some (.slice (some ⟨w.heap.size, 0, none⟩) n n) := hok.c1
      obtain ⟨e0, e1, e2⟩ := hok.nodC (p := k) hlt
      have e0 : wr.cell? ⟨w.heap.size, k * 3, none⟩ = some (.bool (decide (k < k))) := e0
      have e1 : wr.cell? ⟨w.heap.size, k * 3 + 1, none⟩ = some (.int .i64 (if k < k then 1 else 0)) := e1
      have e2 : wr.cell? ⟨w.heap.size, k * 3 + 2, none⟩ = some (.int .i64 0) := e2
      have f0 : wr.frozen? ⟨w.heap.size, k * 3, none⟩ = false := hok.nodF _
      have f1 : wr.frozen? ⟨w.heap.size, k * 3 + 1, none⟩ = false := hok.nodF _
      have f2 : wr.frozen? ⟨w.heap.size, k * 3 + 2, none⟩ = false := hok.nodF _
      simp only [Nat.lt_irrefl, decide_false, if_false] at e0 e1
      have j1 : (0 : Int) ≤ (k : Int) := Int.natCast_nonneg _
      have j2 : (k : Int) < (n : Int) := by omega
      clear hok hbel
      go_wp2
      go_roundw
      case rel => exact ⟨k + 1, by omega, by go_num, new_next HK.out hlt, bset (bset (bset HB.out (Nat.le_refl _) _ _) (Nat.le_refl _) _ _) (Nat.le_refl _) _ _⟩
      case measure => simp [intOf]; omega
    · obtain rfl : k = n := by omega
      go_wp2
      go_ret2
      exact ⟨_, _, _, _, rfl, HK.out, HB.out⟩
end
end Go.Proofs.Ythogcanfinjfdaa.Et
namespace Go.Proofs.Ythogcanfinjfdaa.Et
open Go.RowKit Go.Maps
set_option linter.unusedVariables false
set_option linter.unusedSimpArgs false
set_option maxRecDepth 100000

structure Px where
  f : Fx
  gone : Bool
def p0 : Px := ⟨f0, false⟩
def Px.cs (p : Px) : List Value := p.f.cs.toList ++ [.bool p.gone]
def pkCells (ps : List Px) : List Value := ps.flatMap Px.cs
theorem pk_len (ps : List Px) : (pkCells ps).length = ps.length * 6 := by
  induction ps with
  | nil => rfl
  | cons p ps ih => simp only [pkCells, List.flatMap_cons, List.length_append] at ih ⊢; rw [ih]; simp [Px.cs, Fx.cs]; omega
theorem pk_app (a b : List Px) : pkCells (a ++ b) = pkCells a ++ pkCells b := by simp [pkCells]
theorem pk_one (ps : List Px) : ∀ u ∈ pkCells ps, u.oneCell' = true := by
  intro u hu
  simp only [pkCells, List.mem_flatMap] at hu
  obtain ⟨p, _, hp⟩ := hu
  simp [Px.cs, Fx.cs] at hp
  rcases hp with rfl | rfl | rfl | rfl | rfl | rfl <;> rfl
theorem pk_get (ps : List Px) (i : Nat) (hi : i < ps.length) (j : Nat) (hj : j < 6) : (pkCells ps)[i * 6 + j]? = (ps.getD i p0).cs[j]? := by
  induction ps generalizing i with
  | nil => simp at hi
  | cons p ps ih =>
    have hl : p.cs.length = 6 := rfl
    cases i with
    | zero =>
      simp only [pkCells, List.flatMap_cons, Nat.zero_mul, Nat.zero_add]
      rw [List.getElem?_append_left (by rw [hl]; exact hj)]
      simp
    | succ i =>
      have := ih i (by simpa using hi)
      simp only [pkCells, List.flatMap_cons] at this ⊢
      rw [List.getElem?_append_right (by rw [hl]; omega), hl, show (i + 1) * 6 + j - 6 = i * 6 + j by omega, this]
      simp

structure Rn where
  b : Nat
  nn : Nat
  room : Int
  now : Int
  up : Nat → Bool
  inc : Nat → Int
  tick : Nat → Int
  shut : Nat → Nat → Bool
  slow : Nat → Nat → Int
  va : Option Addr
  vc : Nat
  all : List Px

structure RB (w : World) (R : Rn) (cs : Array Value) : Prop where
  blk : w.heap[R.b]? = some (.cells cs 116 (0, 0))
  sz : cs.size = 564
  c0 : cs[0]? = some (.int .i64 R.nn)
  c1 : cs[1]? = some (.int .i64 R.room)
  c2 : cs[2]? = some (.int .i64 R.now)
  up : ∀ p, p < 16 → cs[3 + p]? = some (.bool (R.up p))
  inc : ∀ p, p < 16 → cs[19 + p]? = some (.int .i64 (R.inc p))
  tick : ∀ p, p < 16 → cs[35 + p]? = some (.int .i64 (R.tick p))
  shut : ∀ p q, p < 16 → q < 16 → cs[51 + p * 16 + q]? = some (.bool (R.shut p q))
  slow : ∀ p q, p < 16 → q < 16 → cs[307 + p * 16 + q]? = some (.int .i64 (R.slow p q))
  c563 : cs[563]? = some (.slice R.va R.all.length R.vc)

def Rn.own (R : Rn) (j : Nat) : Prop := j = R.b ∨ (Value.slice R.va R.all.length R.vc).ownBlock = some j ∨ ∃ p ∈ R.all, p.f.v.ownBlock = some j
structure Rn.Ok (R : Rn) (w : World) (B : Nat) : Prop where
  blk : ∃ cs, RB w R cs
  row : w.ownsRow B 132 6 (.slice R.va R.all.length R.vc) R.all.length (pkCells R.all)
  byt : ∀ p ∈ R.all, p.f.byt w B
  apt : (R.all.map Px.f).Pairwise Fx.apart
  ge : B ≤ R.b
  n16 : 1 ≤ R.nn ∧ R.nn ≤ 16
  pth : ∀ p ∈ R.all, ∃ a b : Nat, p.f.src = a ∧ p.f.dst = b ∧ a < R.nn ∧ b < R.nn ∧ a ≠ b

section
variable {R R' : Rn} {w w' : World} {B : Nat} {cs : Array Value}
theorem RB.keep {P : Nat → Prop} (h : RB w R cs) (k : Kept w w' P) (hp : ¬ P R.b) : RB w' R cs := ⟨k.obj h.blk hp, h.sz, h.c0, h.c1, h.c2, h.up, h.inc, h.tick, h.shut, h.slow, h.c563⟩
theorem Rn.Ok.keep {P : Nat → Prop} (h : R.Ok w B) (k : Kept w w' P) (hp : ∀ j, R.own j → ¬ P j) : R.Ok w' B := by
  obtain ⟨cs, hb⟩ := h.blk
  exact ⟨⟨cs, hb.keep k (hp _ (.inl rfl))⟩, k.owns h.row (fun j hj => hp j (.inr (.inl hj))), fun p hm => (h.byt p hm).keep k (fun j hj => hp j (.inr (.inr ⟨p, hm, hj⟩))), h.apt, h.ge, h.n16, h.pth⟩
theorem Rn.Ok.still (h : R.Ok w B) (hb : Below w.heap.size w w') : R.Ok w' B := h.keep (Kept.ofBelow hb (fun _ => False)) (fun _ _ => id)
theorem Rn.Ok.ltOwn (h : R.Ok w B) {j : Nat} (hj : R.own j) : j < w.heap.size := by
  rcases hj with rfl | hj | ⟨p, hp, hj⟩
  · obtain ⟨cs, hb⟩ := h.blk; exact lt_heap hb.blk
  · exact (World.ownsRow.lt h.row j hj).2
  · exact (World.ownsRow.lt (h.byt p hp).1 j hj).2
theorem Rn.Ok.geOwn (h : R.Ok w B) {j : Nat} (hj : R.own j) : B ≤ j := by
  rcases hj with rfl | hj | ⟨p, hp, hj⟩
  · exact h.ge
  · exact (World.ownsRow.lt h.row j hj).1
  · exact (World.ownsRow.lt (h.byt p hp).1 j hj).1
theorem Rn.Ok.row_ne (h : R.Ok w B) {j : Nat} (hj : (Value.slice R.va R.all.length R.vc).ownBlock = some j) : j ≠ R.b := by
  intro e
  subst e
  obtain ⟨cs, hb⟩ := h.blk
  obtain ⟨cur, hc⟩ := row_ty h.row hj
  rw [hb.blk] at hc
  simp at hc
theorem Rn.Ok.byt_ne (h : R.Ok w B) {p : Px} (hp : p ∈ R.all) {j : Nat} (hj : p.f.v.ownBlock = some j) : j ≠ R.b ∧ (Value.slice R.va R.all.length R.vc).ownBlock ≠ some j := by
  obtain ⟨cur, hc⟩ := row_ty (h.byt p hp).1 hj
  refine ⟨fun e => ?_, fun e => ?_⟩
  · subst e
    obtain ⟨cs, hb⟩ := h.blk
    rw [hb.blk] at hc
    simp at hc
  · obtain ⟨cur', hc'⟩ := row_ty h.row e
    rw [hc] at hc'
    simp at hc'
theorem Rn.Ok.at (h : R.Ok w B) : ∃ cs, RB w R cs ∧ (∀ i, w.frozen? ⟨R.b, i, none⟩ = false) ∧ ∀ i, w.cell? ⟨R.b, i, none⟩ = cs[i]? := by
  obtain ⟨cs, hb⟩ := h.blk
  exact ⟨cs, hb, fun i => frozen_of_row w _ i _ _ hb.blk, fun i => blk_cell hb.blk i⟩
theorem Rn.Ok.c0 (h : R.Ok w B) : w.cell? ⟨R.b, 0, none⟩ = some (.int .i64 R.nn) := by obtain ⟨cs, hb, _, hc⟩ := h.at; exact (hc 0).trans hb.c0
theorem Rn.Ok.c1 (h : R.Ok w B) : w.cell? ⟨R.b, 1, none⟩ = some (.int .i64 R.room) := by obtain ⟨cs, hb, _, hc⟩ := h.at; exact (hc 1).trans hb.c1
theorem Rn.Ok.c2 (h : R.Ok w B) : w.cell? ⟨R.b, 2, none⟩ = some (.int .i64 R.now) := by obtain ⟨cs, hb, _, hc⟩ := h.at; exact (hc 2).trans hb.c2
theorem Rn.Ok.c563 (h : R.Ok w B) : w.cell? ⟨R.b, 563, none⟩ = some (.slice R.va R.all.length R.vc) := by obtain ⟨cs, hb, _, hc⟩ := h.at; exact (hc 563).trans hb.c563
theorem Rn.Ok.fz (h : R.Ok w B) (i : Nat) : w.frozen? ⟨R.b, i, none⟩ = false := by obtain ⟨cs, hb, hf, _⟩ := h.at; exact hf i
theorem Rn.Ok.cup (h : R.Ok w B) {p : Nat} (hp : p < 16) : w.cell? ⟨R.b, 3 + p, none⟩ = some (.bool (R.up p)) ∧ w.cell? ⟨R.b, 19 + p, none⟩ = some (.int .i64 (R.inc p)) ∧ w.cell? ⟨R.b, 35 + p, none⟩ = some (.int .i64 (R.tick p)) := by
  obtain ⟨cs, hb, _, hc⟩ := h.at
  exact ⟨(hc _).trans (hb.up p hp), (hc _).trans (hb.inc p hp), (hc _).trans (hb.tick p hp)⟩
theorem Rn.Ok.csh (h : R.Ok w B) {p q : Nat} (hp : p < 16) (hq : q < 16) : w.cell? ⟨R.b, 51 + p * 16 + q, none⟩ = some (.bool (R.shut p q)) ∧ w.cell? ⟨R.b, 307 + p * 16 + q, none⟩ = some (.int .i64 (R.slow p q)) := by
  obtain ⟨cs, hb, _, hc⟩ := h.at
  exact ⟨(hc _).trans (hb.shut p q hp hq), (hc _).trans (hb.slow p q hp hq)⟩

structure Rtep (w w' : World) (R R' : Rn) (B : Nat) : Prop where
  ok : R'.Ok w' B
  kept : Kept w w' R.own
  own : ∀ j, R'.own j → R.own j ∨ w.heap.size ≤ j
theorem Rtep.same (h : R.Ok w B) : Rtep w w R R B := ⟨h, Kept.refl _ _, fun j hj => .inl hj⟩
theorem Rtep.trans {w1 w2 : World} {R1 R2 : Rn} (h : Rtep w w1 R R1 B) (g : Rtep w1 w2 R1 R2 B) : Rtep w w2 R R2 B :=
  ⟨g.ok, h.kept.step g.kept (fun j hj => h.own j hj), fun j hj => (g.own j hj).elim (fun hh => h.own j hh) (fun hh => .inr (Nat.le_trans h.kept.size hh))⟩
theorem Rtep.pre {W : World} (hb : Below w.heap.size w W) (s : Rtep W w' R R' B) : Rtep w w' R R' B :=
  ⟨s.ok, (Kept.ofBelow hb _).trans s.kept, fun j hj => (s.own j hj).elim (fun hh => .inl hh) (fun hh => .inr (Nat.le_trans hb.size hh))⟩
theorem Rtep.post {W : World} (s : Rtep w W R R' B) (hb : Below W.heap.size W w') : Rtep w w' R R' B :=
  ⟨s.ok.still hb, s.kept.trans (Kept.ofBelow hb _), s.own⟩
theorem Rtep.cell (h : R.Ok w B) {i : Nat} {v : Value} (hv : ∀ cs, RB w R cs → RB (w.setCell ⟨R.b, i, none⟩ v) R' (cs.setIfInBounds i v)) (e1 : R'.b = R.b) (e2 : R'.va = R.va) (e3 : R'.vc = R.vc) (e4 : R'.all = R.all) (e5 : R'.nn = R.nn) : Rtep w (w.setCell ⟨R.b, i, none⟩ v) R R' B := by
  obtain ⟨cs, hb⟩ := h.blk
  have k := kset (P := fun j => j = R.b) w R.b i v rfl
  refine ⟨⟨⟨_, hv cs hb⟩, ?_, ?_, ?_, ?_, ?_, ?_⟩, k.mono (fun j _ e => .inl e), ?_⟩
  · rw [e2, e3, e4]; exact k.owns h.row (fun j hj e => h.row_ne hj e)
  · rw [e4]; exact fun p hp => (h.byt p hp).keep k (fun j hj e => (h.byt_ne hp hj).1 e)
  · rw [e4]; exact h.apt
  · rw [e1]; exact h.ge
  · rw [e5]; exact h.n16
  · rw [e4, e5]; exact h.pth
  · intro j hj
    left
    unfold Rn.own at hj ⊢
    rw [e1, e2, e3, e4] at hj
    exact hj
theorem getSet {cs : Array Value} {i : Nat} {v : Value} (hi : i < cs.size) (j : Nat) : (cs.setIfInBounds i v)[j]? = if i = j then some v else cs[j]? := by
  rw [Array.getElem?_setIfInBounds]
  by_cases e : i = j
  · subst e; simp [hi]
  · simp [e]
theorem RB.setNow (h : RB w R cs) (x : Int) : RB (w.setCell ⟨R.b, 2, none⟩ (.int .i64 x)) { R with now := x } (cs.setIfInBounds 2 (.int .i64 x)) := by
  have hs := h.sz
  have g := getSet (cs := cs) (i := 2) (v := .int .i64 x) (by omega)
  refine ⟨heap_setCell_same w R.b 2 cs 116 _ h.blk, by simpa using hs, ?_, ?_, ?_, ?_, ?_, ?_, ?_, ?_, ?_⟩
  · rw [g]; simpa using h.c0
  · rw [g]; simpa using h.c1
  · rw [g]; simp
  · intro p hp; rw [g, if_neg (by omega)]; exact h.up p hp
  · intro p hp; rw [g, if_neg (by omega)]; exact h.inc p hp
  · intro p hp; rw [g, if_neg (by omega)]; exact h.tick p hp
  · intro p q hp hq; rw [g, if_neg (by omega)]; exact h.shut p q hp hq
  · intro p q hp hq; rw [g, if_neg (by omega)]; exact h.slow p q hp hq
  · rw [g, if_neg (by omega)]; exact h.c563
theorem RB.setUp (h : RB w R cs) (k : Nat) (hk : k < 16) (x : Bool) : RB (w.setCell ⟨R.b, 3 + k, none⟩ (.bool x)) { R with up := upd1 R.up k x } (cs.setIfInBounds (3 + k) (.bool x)) := by
  have hs := h.sz
  have g := getSet (cs := cs) (i := 3 + k) (v := .bool x) (by omega)
  refine ⟨heap_setCell_same w R.b _ cs 116 _ h.blk, by simpa using hs, ?_, ?_, ?_, ?_, ?_, ?_, ?_, ?_, ?_⟩
  · rw [g, if_neg (by omega)]; exact h.c0
  · rw [g, if_neg (by omega)]; exact h.c1
  · rw [g, if_neg (by omega)]; exact h.c2
  · intro p hp
    rw [g]
    by_cases e : p = k
    · subst e; simp [upd1]
    · rw [if_neg (by omega)]; simp [upd1, e, h.up p hp]
  · intro p hp; rw [g, if_neg (by omega)]; exact h.inc p hp
  · intro p hp; rw [g, if_neg (by omega)]; exact h.tick p hp
  · intro p q hp hq; rw [g, if_neg (by omega)]; exact h.shut p q hp hq
  · intro p q hp hq; rw [g, if_neg (by omega)]; exact h.slow p q hp hq
  · rw [g, if_neg (by omega)]; exact h.c563
theorem RB.setInc (h : RB w R cs) (k : Nat) (hk : k < 16) (x : Int) : RB (w.setCell ⟨R.b, 19 + k, none⟩ (.int .i64 x)) { R with inc := upd1 R.inc k x } (cs.setIfInBounds (19 + k) (.int .i64 x)) := by
  have hs := h.sz
  have g := getSet (cs := cs) (i := 19 + k) (v := .int .i64 x) (by omega)
  refine ⟨heap_setCell_same w R.b _ cs 116 _ h.blk, by simpa using hs, ?_, ?_, ?_, ?_, ?_, ?_, ?_, ?_, ?_⟩
  · rw [g, if_neg (by omega)]; exact h.c0
  · rw [g, if_neg (by omega)]; exact h.c1
  · rw [g, if_neg (by omega)]; exact h.c2
  · intro p hp; rw [g, if_neg (by omega)]; exact h.up p hp
  · intro p hp
    rw [g]
    by_cases e : p = k
    · subst e; simp [upd1]
    · rw [if_neg (by omega)]; simp [upd1, e, h.inc p hp]
  · intro p hp; rw [g, if_neg (by omega)]; exact h.tick p hp
  · intro p q hp hq; rw [g, if_neg (by omega)]; exact h.shut p q hp hq
  · intro p q hp hq; rw [g, if_neg (by omega)]; exact h.slow p q hp hq
  · rw [g, if_neg (by omega)]; exact h.c563
theorem RB.setTick (h : RB w R cs) (k : Nat) (hk : k < 16) (x : Int) : RB (w.setCell ⟨R.b, 35 + k, none⟩ (.int .i64 x)) { R with tick := upd1 R.tick k x } (cs.setIfInBounds (35 + k) (.int .i64 x)) := by
  have hs := h.sz
  have g := getSet (cs := cs) (i := 35 + k) (v := .int .i64 x) (by omega)
  refine ⟨heap_setCell_same w R.b _ cs 116 _ h.blk, by simpa using hs, ?_, ?_, ?_, ?_, ?_, ?_, ?_, ?_, ?_⟩
  · rw [g, if_neg (by omega)]; exact h.c0
  · rw [g, if_neg (by omega)]; exact h.c1
  · rw [g, if_neg (by omega)]; exact h.c2
  · intro p hp; rw [g, if_neg (by omega)]; exact h.up p hp
  · intro p hp; rw [g, if_neg (by omega)]; exact h.inc p hp
  · intro p hp
    rw [g]
    by_cases e : p = k
    · subst e; simp [upd1]
    · rw [if_neg (by omega)]; simp [upd1, e, h.tick p hp]
  · intro p q hp hq; rw [g, if_neg (by omega)]; exact h.shut p q hp hq
  · intro p q hp hq; rw [g, if_neg (by omega)]; exact h.slow p q hp hq
  · rw [g, if_neg (by omega)]; exact h.c563
theorem RB.setShut (h : RB w R cs) (a b : Nat) (ha : a < 16) (hb : b < 16) (x : Bool) : RB (w.setCell ⟨R.b, 51 + a * 16 + b, none⟩ (.bool x)) { R with shut := upd2 R.shut a b x } (cs.setIfInBounds (51 + a * 16 + b) (.bool x)) := by
  have hs := h.sz
  have g := getSet (cs := cs) (i := 51 + a * 16 + b) (v := .bool x) (by omega)
  refine ⟨heap_setCell_same w R.b _ cs 116 _ h.blk, by simpa using hs, ?_, ?_, ?_, ?_, ?_, ?_, ?_, ?_, ?_⟩
  · rw [g, if_neg (by omega)]; exact h.c0
  · rw [g, if_neg (by omega)]; exact h.c1
  · rw [g, if_neg (by omega)]; exact h.c2
  · intro p hp; rw [g, if_neg (by omega)]; exact h.up p hp
  · intro p hp; rw [g, if_neg (by omega)]; exact h.inc p hp
  · intro p hp; rw [g, if_neg (by omega)]; exact h.tick p hp
  · intro p q hp hq
    rw [g]
    by_cases e : p = a ∧ q = b
    · obtain ⟨rfl, rfl⟩ := e; simp [upd2]
    · rw [if_neg (by omega), h.shut p q hp hq]; simp only [upd2, if_neg e]
  · intro p q hp hq; rw [g, if_neg (by omega)]; exact h.slow p q hp hq
  · rw [g, if_neg (by omega)]; exact h.c563
theorem RB.setSlow (h : RB w R cs) (a b : Nat) (ha : a < 16) (hb : b < 16) (x : Int) : RB (w.setCell ⟨R.b, 307 + a * 16 + b, none⟩ (.int .i64 x)) { R with slow := upd2 R.slow a b x } (cs.setIfInBounds (307 + a * 16 + b) (.int .i64 x)) := by
  have hs := h.sz
  have g := getSet (cs := cs) (i := 307 + a * 16 + b) (v := .int .i64 x) (by omega)
  refine ⟨heap_setCell_same w R.b _ cs 116 _ h.blk, by simpa using hs, ?_, ?_, ?_, ?_, ?_, ?_, ?_, ?_, ?_⟩
  · rw [g, if_neg (by omega)]; exact h.c0
  · rw [g, if_neg (by omega)]; exact h.c1
  · rw [g, if_neg (by omega)]; exact h.c2
  · intro p hp; rw [g, if_neg (by omega)]; exact h.up p hp
  · intro p hp; rw [g, if_neg (by omega)]; exact h.inc p hp
  · intro p hp; rw [g, if_neg (by omega)]; exact h.tick p hp
  · intro p q hp hq; rw [g, if_neg (by omega)]; exact h.shut p q hp hq
  · intro p q hp hq
    rw [g]
    by_cases e : p = a ∧ q = b
    · obtain ⟨rfl, rfl⟩ := e; simp [upd2]
    · rw [if_neg (by omega), h.slow p q hp hq]; simp only [upd2, if_neg e]
  · rw [g, if_neg (by omega)]; exact h.c563
end
end Go.Proofs.Ythogcanfinjfdaa.Et
namespace Go.Proofs.Ythogcanfinjfdaa.Et
open Go.RowKit Go.Maps
set_option linter.unusedVariables false
set_option linter.unusedSimpArgs false
set_option maxRecDepth 100000
section
variable {R R' : Rn} {w w' : World} {B : Nat}
theorem wrap_eq (x : Int) : wrap64 x = IntKind.i64.wrap x := by rw [IntKind.wrap_i64, wrap64]
def rN (R : Rn) (p : Int) : Bool := decide (0 ≤ p ∧ p < R.nn)
theorem rN_true {p : Int} (h : rN R p = true) : 0 ≤ p ∧ p < R.nn := of_decide_eq_true h
theorem rN_nat {p : Nat} (h : p < R.nn) : rN R p = true := decide_eq_true (by omega)
def rP (R : Rn) (p q : Int) : Bool := rN R p && rN R q && decide (p ≠ q)
theorem rP_true {p q : Int} (h : rP R p q = true) : ∃ a b : Nat, p = a ∧ q = b ∧ a < R.nn ∧ b < R.nn ∧ a ≠ b := by
  unfold rP at h
  simp only [Bool.and_eq_true, decide_eq_true_eq] at h
  obtain ⟨a0, a1⟩ := rN_true h.1.1
  obtain ⟨b0, b1⟩ := rN_true h.1.2
  exact ⟨p.toNat, q.toNat, by omega, by omega, by omega, by omega, by omega⟩
theorem rP_nat {a b : Nat} (ha : a < R.nn) (hb : b < R.nn) (h : a ≠ b) : rP R a b = true := by
  simp only [rP, rN_nat ha, rN_nat hb, Bool.and_self, Bool.true_and, decide_eq_true_eq]
  omega

set_option maxHeartbeats 400000 in
theorem rnode_any (h : R.Ok w B) (p : Int) : Calls Try.prog 87 #[.pointer (some ⟨R.b, 0, none⟩), .int .i64 p] w fun e w' => e = .returned (.bool (rN R p)) ∧ w = w' := by
  have c0 := h.c0
  clear h
  go_enter Try.func87, Try.ntmps87
  go_wp2
  all_goals (go_ret; exact ⟨by simp [rN]; first | assumption | omega | skip, rfl⟩)
theorem rnode_is (h : R.Ok w B) {p : Int} {a : Bool} (ha : rN R p = a) : ∀ x, x = p → Calls Try.prog 87 #[.pointer (some ⟨R.b, 0, none⟩), .int .i64 x] w fun e w' => e = .returned (.bool a) ∧ w = w' := by
  rintro x rfl
  rw [← ha]
  exact rnode_any h x

set_option maxHeartbeats 400000 in
theorem rpath_any (h : R.Ok w B) (p q : Int) : Calls Try.prog 88 #[.pointer (some ⟨R.b, 0, none⟩), .int .i64 p, .int .i64 q] w fun e w' => e = .returned (.bool (rP R p q)) ∧ w = w' := by
  unfold rP
  generalize hp : rN R p = a
  generalize hq : rN R q = b
  have HN := rnode_is h hp
  have HM := rnode_is h hq
  clear h
  cases a with
  | false =>
    go_enter Try.func88, Try.ntmps88
    go_wp2_with (first | (go_at_call 87; refine (HN _ (by rfl)).mono ?_; rintro e w' ⟨rfl, rfl⟩) | (go_at_call 87; refine (HM _ (by rfl)).mono ?_; rintro e w' ⟨rfl, rfl⟩) | fail)
    go_ret
    exact ⟨rfl, rfl⟩
  | true =>
    cases b with
    | false =>
      go_enter Try.func88, Try.ntmps88
      go_wp2_with (first | (go_at_call 87; refine (HN _ (by rfl)).mono ?_; rintro e w' ⟨rfl, rfl⟩) | (go_at_call 87; refine (HM _ (by rfl)).mono ?_; rintro e w' ⟨rfl, rfl⟩) | fail)
      all_goals (go_ret; exact ⟨rfl, rfl⟩)
    | true =>
      go_enter Try.func88, Try.ntmps88
      go_wp2_with (first | (go_at_call 87; refine (HN _ (by rfl)).mono ?_; rintro e w' ⟨rfl, rfl⟩) | (go_at_call 87; refine (HM _ (by rfl)).mono ?_; rintro e w' ⟨rfl, rfl⟩) | fail)
      all_goals (go_ret; exact ⟨by by_cases e : p = q <;> simp [e], rfl⟩)
theorem rpath_is (h : R.Ok w B) {p q : Int} {c : Bool} (hc : rP R p q = c) : Calls Try.prog 88 #[.pointer (some ⟨R.b, 0, none⟩), .int .i64 p, .int .i64 q] w fun e w' => e = .returned (.bool c) ∧ w = w' := by
  rw [← hc]
  exact rpath_any h p q

set_option maxHeartbeats 400000 in
theorem rclock_any (h : R.Ok w B) : Calls Try.prog 75 #[.pointer (some ⟨R.b, 0, none⟩)] w fun e w' => e = .returned (.int .i64 R.now) ∧ w = w' := by
  have c2 := h.c2
  clear h
  go_enter Try.func75, Try.ntmps75
  go_wp2
  go_ret
  exact ⟨rfl, rfl⟩

set_option maxHeartbeats 400000 in
theorem rup_any (h : R.Ok w B) (p : Int) : Calls Try.prog 72 #[.pointer (some ⟨R.b, 0, none⟩), .int .i64 p] w fun e w' => e = .returned (.bool (rN R p && R.up p.toNat)) ∧ w = w' := by
  have hn := h.n16
  generalize hb : rN R p = b
  have HN := rnode_is h hb
  cases b with
  | false =>
    clear h
    go_enter Try.func72, Try.ntmps72
    go_wp2_with (first | (go_at_call 87; refine (HN _ (by rfl)).mono ?_; rintro e w' ⟨rfl, rfl⟩) | fail)
    go_ret
    exact ⟨rfl, rfl⟩
  | true =>
    obtain ⟨h0, h1⟩ := rN_true hb
    obtain ⟨k, rfl⟩ : ∃ k : Nat, p = k := ⟨p.toNat, by omega⟩
    obtain ⟨d0, d1, d2⟩ := h.cup (p := k) (by omega)
    have i2 : (k : Int) < 16 := by omega
    clear h
    go_enter Try.func72, Try.ntmps72
    go_wp2_with (first | (go_at_call 87; refine (HN _ (by rfl)).mono ?_; rintro e w' ⟨rfl, rfl⟩) | fail)
    go_ret
    exact ⟨rfl, rfl⟩
set_option maxHeartbeats 400000 in
theorem rinc_any (h : R.Ok w B) (p : Int) : Calls Try.prog 73 #[.pointer (some ⟨R.b, 0, none⟩), .int .i64 p] w fun e w' => e = .returned (.int .i64 (if rN R p then R.inc p.toNat else 0)) ∧ w = w' := by
  have hn := h.n16
  generalize hb : rN R p = b
  have HN := rnode_is h hb
  cases b with
  | false =>
    clear h
    go_enter Try.func73, Try.ntmps73
    go_wp2_with (first | (go_at_call 87; refine (HN _ (by rfl)).mono ?_; rintro e w' ⟨rfl, rfl⟩) | fail)
    go_ret
    exact ⟨rfl, rfl⟩
  | true =>
    obtain ⟨h0, h1⟩ := rN_true hb
    obtain ⟨k, rfl⟩ : ∃ k : Nat, p = k := ⟨p.toNat, by omega⟩
    obtain ⟨d0, d1, d2⟩ := h.cup (p := k) (by omega)
    have i2 : (k : Int) < 16 := by omega
    clear h
    go_enter Try.func73, Try.ntmps73
    go_wp2_with (first | (go_at_call 87; refine (HN _ (by rfl)).mono ?_; rintro e w' ⟨rfl, rfl⟩) | fail)
    go_ret
    exact ⟨rfl, rfl⟩
set_option maxHeartbeats 400000 in
theorem rticks_any (h : R.Ok w B) (p : Int) : Calls Try.prog 74 #[.pointer (some ⟨R.b, 0, none⟩), .int .i64 p] w fun e w' => e = .returned (.int .i64 (if rN R p then R.tick p.toNat else 0)) ∧ w = w' := by
  have hn := h.n16
  generalize hb : rN R p = b
  have HN := rnode_is h hb
  cases b with
  | false =>
    clear h
    go_enter Try.func74, Try.ntmps74
    go_wp2_with (first | (go_at_call 87; refine (HN _ (by rfl)).mono ?_; rintro e w' ⟨rfl, rfl⟩) | fail)
    go_ret
    exact ⟨rfl, rfl⟩
  | true =>
    obtain ⟨h0, h1⟩ := rN_true hb
    obtain ⟨k, rfl⟩ : ∃ k : Nat, p = k := ⟨p.toNat, by omega⟩
    obtain ⟨d0, d1, d2⟩ := h.cup (p := k) (by omega)
    have i2 : (k : Int) < 16 := by omega
    clear h
    go_enter Try.func74, Try.ntmps74
    go_wp2_with (first | (go_at_call 87; refine (HN _ (by rfl)).mono ?_; rintro e w' ⟨rfl, rfl⟩) | fail)
    go_ret
    exact ⟨rfl, rfl⟩

def rCk (R : Rn) (p : Int) : Int := if rN R p then (if R.up p.toNat then 0 else 32) else 1
set_option maxHeartbeats 400000 in
theorem rtick_no (h : R.Ok w B) (p : Int) (hc : rCk R p ≠ 0) : Calls Try.prog 76 #[.pointer (some ⟨R.b, 0, none⟩), .int .i64 p] w fun e w' => e = .returned (.tuple #[.int .i64 0, .int .i64 (rCk R p)]) ∧ w = w' := by
  have hn := h.n16
  unfold rCk at hc ⊢
  generalize hb : rN R p = b at hc ⊢
  have HN := rnode_is h hb
  cases b with
  | false =>
    clear h
    go_enter Try.func76, Try.ntmps76
    go_wp2_with (first | (go_at_call 87; refine (HN _ (by rfl)).mono ?_; rintro e w' ⟨rfl, rfl⟩) | fail)
    go_ret2
    exact ⟨rfl, rfl⟩
  | true =>
    obtain ⟨h0, h1⟩ := rN_true hb
    obtain ⟨k, rfl⟩ : ∃ k : Nat, p = k := ⟨p.toNat, by omega⟩
    obtain ⟨d0, d1, d2⟩ := h.cup (p := k) (by omega)
    have i2 : (k : Int) < 16 := by omega
    rw [show ((k : Int).toNat) = k from rfl] at hc ⊢
    have hu : R.up k = false := by
      cases hu : R.up k with
      | false => rfl
      | true => simp [hu] at hc
    rw [hu] at d0 ⊢
    clear h
    go_enter Try.func76, Try.ntmps76
    go_wp2_with (first | (go_at_call 87; refine (HN _ (by rfl)).mono ?_; rintro e w' ⟨rfl, rfl⟩) | fail)
    go_ret2
    exact ⟨rfl, rfl⟩
set_option maxHeartbeats 400000 in
theorem rtick_ok (h : R.Ok w B) (k : Nat) (hk : k < R.nn) (hu : R.up k = true) : Calls Try.prog 76 #[.pointer (some ⟨R.b, 0, none⟩), .int .i64 k] w fun e w' => e = .returned (.tuple #[.int .i64 (wrap64 (R.tick k + 1)), .int .i64 0]) ∧ Rtep w w' R { R with tick := upd1 R.tick k (wrap64 (R.tick k + 1)) } B := by
  have hn := h.n16
  have HN := rnode_is h (rN_nat hk)
  obtain ⟨d0, d1, d2⟩ := h.cup (p := k) (by omega)
  rw [hu] at d0
  have i2 : (k : Int) < 16 := by omega
  have hf := h.fz (35 + k)
  have hs : Rtep w (w.setCell ⟨R.b, 35 + k, none⟩ (.int .i64 (wrap64 (R.tick k + 1)))) R { R with tick := upd1 R.tick k (wrap64 (R.tick k + 1)) } B := Rtep.cell h (fun cs hb => hb.setTick k (by omega) _) rfl rfl rfl rfl rfl
  clear h
  go_enter Try.func76, Try.ntmps76
  go_wp2_with (first | (go_at_call 87; refine (HN _ (by rfl)).mono ?_; rintro e w' ⟨rfl, rfl⟩) | fail)
  go_region_law (fail)
  go_wp2
  go_ret2
  exact ⟨rfl, Rtep.post hs (Below.refl _ _).drew⟩
set_option maxHeartbeats 400000 in
theorem rcrash_no (h : R.Ok w B) (p : Int) (hc : rCk R p ≠ 0) : Calls Try.prog 77 #[.pointer (some ⟨R.b, 0, none⟩), .int .i64 p] w fun e w' => e = .returned (.int .i64 (rCk R p)) ∧ w = w' := by
  have hn := h.n16
  unfold rCk at hc ⊢
  generalize hb : rN R p = b at hc ⊢
  have HN := rnode_is h hb
  cases b with
  | false =>
    clear h
    go_enter Try.func77, Try.ntmps77
    go_wp2_with (first | (go_at_call 87; refine (HN _ (by rfl)).mono ?_; rintro e w' ⟨rfl, rfl⟩) | fail)
    go_ret
    exact ⟨rfl, rfl⟩
  | true =>
    obtain ⟨h0, h1⟩ := rN_true hb
    obtain ⟨k, rfl⟩ : ∃ k : Nat, p = k := ⟨p.toNat, by omega⟩
    obtain ⟨d0, d1, d2⟩ := h.cup (p := k) (by omega)
    have i2 : (k : Int) < 16 := by omega
    rw [show ((k : Int).toNat) = k from rfl] at hc ⊢
    have hu : R.up k = false := by
      cases hu : R.up k with
      | false => rfl
      | true => simp [hu] at hc
    rw [hu] at d0 ⊢
    clear h
    go_enter Try.func77, Try.ntmps77
    go_wp2_with (first | (go_at_call 87; refine (HN _ (by rfl)).mono ?_; rintro e w' ⟨rfl, rfl⟩) | fail)
    go_ret
    exact ⟨rfl, rfl⟩
set_option maxHeartbeats 400000 in
theorem rcrash_ok (h : R.Ok w B) (k : Nat) (hk : k < R.nn) (hu : R.up k = true) : Calls Try.prog 77 #[.pointer (some ⟨R.b, 0, none⟩), .int .i64 k] w fun e w' => e = .returned (.int .i64 0) ∧ Rtep w w' R { R with up := upd1 R.up k false } B := by
  have hn := h.n16
  have HN := rnode_is h (rN_nat hk)
  obtain ⟨d0, d1, d2⟩ := h.cup (p := k) (by omega)
  rw [hu] at d0
  have i2 : (k : Int) < 16 := by omega
  have hf := h.fz (3 + k)
  have hs : Rtep w (w.setCell ⟨R.b, 3 + k, none⟩ (.bool false)) R { R with up := upd1 R.up k false } B := Rtep.cell h (fun cs hb => hb.setUp k (by omega) _) rfl rfl rfl rfl rfl
  clear h
  go_enter Try.func77, Try.ntmps77
  go_wp2_with (first | (go_at_call 87; refine (HN _ (by rfl)).mono ?_; rintro e w' ⟨rfl, rfl⟩) | fail)
  go_ret
  exact ⟨rfl, hs⟩
def rRst (R : Rn) (p : Int) : Int := if rN R p then (if R.up p.toNat then 33 else 0) else 1
set_option maxHeartbeats 400000 in
theorem rrestart_no (h : R.Ok w B) (p : Int) (hc : rRst R p ≠ 0) : Calls Try.prog 78 #[.pointer (some ⟨R.b, 0, none⟩), .int .i64 p] w fun e w' => e = .returned (.tuple #[.int .i64 0, .int .i64 (rRst R p)]) ∧ w = w' := by
  have hn := h.n16
  unfold rRst at hc ⊢
  generalize hb : rN R p = b at hc ⊢
  have HN := rnode_is h hb
  cases b with
  | false =>
    clear h
    go_enter Try.func78, Try.ntmps78
    go_wp2_with (first | (go_at_call 87; refine (HN _ (by rfl)).mono ?_; rintro e w' ⟨rfl, rfl⟩) | fail)
    go_ret2
    exact ⟨rfl, rfl⟩
  | true =>
    obtain ⟨h0, h1⟩ := rN_true hb
    obtain ⟨k, rfl⟩ : ∃ k : Nat, p = k := ⟨p.toNat, by omega⟩
    obtain ⟨d0, d1, d2⟩ := h.cup (p := k) (by omega)
    have i2 : (k : Int) < 16 := by omega
    rw [show ((k : Int).toNat) = k from rfl] at hc ⊢
    have hu : R.up k = true := by
      cases hu : R.up k with
      | true => rfl
      | false => simp [hu] at hc
    rw [hu] at d0 ⊢
    clear h
    go_enter Try.func78, Try.ntmps78
    go_wp2_with (first | (go_at_call 87; refine (HN _ (by rfl)).mono ?_; rintro e w' ⟨rfl, rfl⟩) | fail)
    go_ret2
    exact ⟨rfl, rfl⟩
set_option maxHeartbeats 400000 in
theorem rrestart_ok (h : R.Ok w B) (k : Nat) (hk : k < R.nn) (hu : R.up k = false) : Calls Try.prog 78 #[.pointer (some ⟨R.b, 0, none⟩), .int .i64 k] w fun e w' => e = .returned (.tuple #[.int .i64 (wrap64 (R.inc k + 1)), .int .i64 0]) ∧ Rtep w w' R { R with up := upd1 R.up k true, inc := upd1 R.inc k (wrap64 (R.inc k + 1)), tick := upd1 R.tick k 0 } B := by
  have hn := h.n16
  have HN := rnode_is h (rN_nat hk)
  obtain ⟨d0, d1, d2⟩ := h.cup (p := k) (by omega)
  rw [hu] at d0
  have i2 : (k : Int) < 16 := by omega
  have hf := h.fz (3 + k)
  have hf1 := h.fz (19 + k)
  have hf2 := h.fz (35 + k)
  have s1 : Rtep w (w.setCell ⟨R.b, 3 + k, none⟩ (.bool true)) R { R with up := upd1 R.up k true } B := Rtep.cell h (fun cs hb => hb.setUp k (by omega) _) rfl rfl rfl rfl rfl
  have s2 : Rtep _ ((w.setCell ⟨R.b, 3 + k, none⟩ (.bool true)).setCell ⟨R.b, 19 + k, none⟩ (.int .i64 (wrap64 (R.inc k + 1)))) _ { R with up := upd1 R.up k true, inc := upd1 R.inc k (wrap64 (R.inc k + 1)) } B := Rtep.cell s1.ok (fun cs hb => hb.setInc k (by omega) _) rfl rfl rfl rfl rfl
  have s3 : Rtep _ (((w.setCell ⟨R.b, 3 + k, none⟩ (.bool true)).setCell ⟨R.b, 19 + k, none⟩ (.int .i64 (wrap64 (R.inc k + 1)))).setCell ⟨R.b, 35 + k, none⟩ (.int .i64 0)) _ { R with up := upd1 R.up k true, inc := upd1 R.inc k (wrap64 (R.inc k + 1)), tick := upd1 R.tick k 0 } B := Rtep.cell s2.ok (fun cs hb => hb.setTick k (by omega) _) rfl rfl rfl rfl rfl
  have hs : Hid (Rtep w (((w.setCell ⟨R.b, 3 + k, none⟩ (.bool true)).setCell ⟨R.b, 19 + k, none⟩ (.int .i64 (wrap64 (R.inc k + 1)))).setCell ⟨R.b, 35 + k, none⟩ (.int .i64 0)) R { R with up := upd1 R.up k true, inc := upd1 R.inc k (wrap64 (R.inc k + 1)), tick := upd1 R.tick k 0 } B) := (s1.trans s2).trans s3
  have n1 : ¬ 3 + k = 19 + k := by omega
  have n2 : ¬ 3 + k = 35 + k := by omega
  have n3 : ¬ 19 + k = 35 + k := by omega
  have n4 : ¬ 19 + k = 3 + k := by omega
  have n5 : ¬ 35 + k = 19 + k := by omega
  clear h s1 s2 s3
  go_enter Try.func78, Try.ntmps78
  go_wp2_with (first | (go_at_call 87; refine (HN _ (by rfl)).mono ?_; rintro e w' ⟨rfl, rfl⟩) | fail)
  go_region_law (fail)
  go_wp2
  go_ret2
  exact ⟨rfl, Rtep.post hs.out (Below.refl _ _).drew⟩

set_option maxHeartbeats 400000 in
theorem ropen_any (h : R.Ok w B) (p q : Int) : Calls Try.prog 79 #[.pointer (some ⟨R.b, 0, none⟩), .int .i64 p, .int .i64 q] w fun e w' => e = .returned (.bool (rP R p q && !R.shut p.toNat q.toNat)) ∧ w = w' := by
  have hn := h.n16
  generalize hc : rP R p q = c
  have HP := rpath_is h hc
  cases c with
  | false =>
    clear h
    go_enter Try.func79, Try.ntmps79
    go_wp2_with (first | (go_at_call 88; refine HP.mono ?_; rintro e w1 ⟨rfl, rfl⟩) | fail)
    go_ret
    exact ⟨rfl, rfl⟩
  | true =>
    obtain ⟨a, b, rfl, rfl, ha, hb, hne⟩ := rP_true hc
    obtain ⟨d0, d1⟩ := h.csh (p := a) (q := b) (by omega) (by omega)
    rw [show ((a : Int).toNat) = a from rfl, show ((b : Int).toNat) = b from rfl]
    have i2 : (a : Int) < 16 := by omega
    have i3 : (b : Int) < 16 := by omega
    generalize R.shut a b = d at d0 ⊢
    clear h
    go_enter Try.func79, Try.ntmps79
    go_wp2_with (first | (go_at_call 88; refine HP.mono ?_; rintro e w1 ⟨rfl, rfl⟩) | fail)
    all_goals (go_ret; exact ⟨by simp, rfl⟩)
set_option maxHeartbeats 400000 in
theorem rdelay_any (h : R.Ok w B) (p q : Int) : Calls Try.prog 80 #[.pointer (some ⟨R.b, 0, none⟩), .int .i64 p, .int .i64 q] w fun e w' => e = .returned (.int .i64 (if rP R p q then R.slow p.toNat q.toNat else 0)) ∧ w = w' := by
  have hn := h.n16
  generalize hc : rP R p q = c
  have HP := rpath_is h hc
  cases c with
  | false =>
    clear h
    go_enter Try.func80, Try.ntmps80
    go_wp2_with (first | (go_at_call 88; refine HP.mono ?_; rintro e w1 ⟨rfl, rfl⟩) | fail)
    go_ret
    exact ⟨rfl, rfl⟩
  | true =>
    obtain ⟨a, b, rfl, rfl, ha, hb, hne⟩ := rP_true hc
    obtain ⟨d0, d1⟩ := h.csh (p := a) (q := b) (by omega) (by omega)
    rw [show ((a : Int).toNat) = a from rfl, show ((b : Int).toNat) = b from rfl]
    have i2 : (a : Int) < 16 := by omega
    have i3 : (b : Int) < 16 := by omega
    clear h
    go_enter Try.func80, Try.ntmps80
    go_wp2_with (first | (go_at_call 88; refine HP.mono ?_; rintro e w1 ⟨rfl, rfl⟩) | fail)
    go_ret
    exact ⟨rfl, rfl⟩
end
end Go.Proofs.Ythogcanfinjfdaa.Et
namespace Go.Proofs.Ythogcanfinjfdaa.Et
open Go.RowKit Go.Maps
set_option linter.unusedVariables false
set_option linter.unusedSimpArgs false
set_option maxRecDepth 100000
section
variable {R R' : Rn} {w w' : World} {B : Nat}
theorem own_shape {w2 : World} {B' n : Nat} {v : Value} {l : List Value} {t s : Nat} (h : w2.ownsRow B t s v n l) : ∃ a c, v = .slice a n c := by
  rcases h.2 with ⟨h1, h2⟩ | ⟨g, cap, cur, hv, _⟩
  · exact ⟨none, 0, by rw [h2]; exact h1⟩
  · exact ⟨_, _, hv⟩

set_option maxHeartbeats 400000 in
theorem twin_any (ao : Option Addr) (n c : Nat) (bs : List Int) (hr : Rd w ao n c bs) (hlen : n ≤ 140737488355327) : Calls Try.prog 97 #[.slice ao n c] w fun e w' => ∃ v, e = .returned v ∧ w'.ownsRow w.heap.size 5 1 v n (bs.map (Value.int .u8)) ∧ Below w.heap.size w w' := by
  obtain ⟨i0, hi, hz0, hz1, hz2⟩ := info_parts info_u8
  have hlb := hr.1
  have Hr : Hid (Rd w ao n c bs) := hr
  clear hr
  go_enter Try.func97, Try.ntmps97
  go_wp2
  go_loopw [3, 4] (fun v i wr => ∃ k : Nat, k ≤ n ∧ i = .int .i64 k ∧ wr.ownsRow w.heap.size 5 1 v k ((bs.take k).map (Value.int .u8)) ∧ Below w.heap.size w wr) (fun _ i _ => n - (intOf i).toNat)
  case atStart => exact ⟨0, Nat.zero_le _, rfl, ⟨rfl, .inl ⟨rfl, rfl⟩⟩, Below.refl _ _⟩
  case round =>
    obtain ⟨k, hk, rfl, ho, hb⟩ := hrel
    by_cases hlt : k < n
    · obtain ⟨_, _, hc, _⟩ := Hr.out.still hb
      obtain ⟨b, off, hao, hck⟩ : ∃ b off, ao = some ⟨b, off, none⟩ ∧ wr.cell? ⟨b, off + k, none⟩ = some (.int .u8 (bs.getD k 0)) := by
        rcases hc with h | ⟨b, off, hao, hc⟩
        · omega
        · exact ⟨b, off, hao, hc k hlt⟩
      rw [hao]
      have htk : Hid ((bs.take (k + 1)).map (Value.int .u8) = (bs.take k).map (Value.int .u8) ++ [.int .u8 (bs.getD k 0)]) := by
        show _ = _
        rw [List.take_succ_eq_append_getElem (by omega), List.map_append]
        congr 1
        simp [List.getD, List.getElem?_eq_getElem (show k < bs.length by omega)]
      have HO : Hid (wr.ownsRow w.heap.size 5 1 u3 k ((bs.take k).map (Value.int .u8))) := ho
      have HB : Hid (Below w.heap.size w wr) := hb
      have i1 : (0 : Int) ≤ (k : Int) := Int.natCast_nonneg _
      have i2 : (k : Int) < (n : Int) := by omega
      have hsz := hb.size
      generalize bs.getD k 0 = x at hck htk
      generalize hT : (bs.take k).map (Value.int .u8) = T at HO htk
      clear ho hb hc
      go_wp2_with (first
        | (at_builtin; refine wpList_append_lies _ rfl _ _ 30 rfl w.heap.size 5 i0 (.int .u8 0) 1 1 Try.underlying30 hi hz0 hz1 hz2 rfl (by omega) u3 k T rfl (World.ownsRow.alloc HO.out _) _ 1 1 _ rfl rfl (World.news_of_block (heap_alloc_new _ _)) (by simp [Value.oneCell']) (by omega) (by unfold maxLen; omega) (by omega) (by simp; omega) _ rfl ?_; intro g3 cap3 w3 hown3 hgrow3 hat3 hlt3)
        | fail)
      go_roundw
      case rel =>
        refine ⟨k + 1, by omega, by go_num, by rw [htk.out]; simpa using hown3, ?_⟩
        exact (balloc HB.out).grown hgrow3 (by simp; omega) (fun q hq => (World.ownsRow.lt HO.out q hq).1)
      case measure => simp [intOf]; omega
    · obtain rfl : k = n := by omega
      go_wp2
      go_ret
      rw [List.take_of_length_le (by omega)] at ho
      exact ⟨_, rfl, ho, hb⟩

end
end Go.Proofs.Ythogcanfinjfdaa.Et
namespace Go.Proofs.Ythogcanfinjfdaa.Et
open Go.RowKit Go.Maps
set_option linter.unusedVariables false
set_option linter.unusedSimpArgs false
set_option maxRecDepth 100000
section
variable {R R' : Rn} {w w' : World} {B : Nat}
theorem info_i : (Try.prog.info? 3).map (fun i => (i.zero, i.size, i.bytes)) = some (some (.int .i64 0), 1, 8) := by kernel_rfl
def liveN (R : Rn) (k : Nat) : List Nat := (List.range k).filter fun i => !(R.all.getD i p0).gone
theorem liveN_next (R : Rn) (k : Nat) : liveN R (k + 1) = liveN R k ++ (if (R.all.getD k p0).gone then [] else [k]) := by
  unfold liveN
  rw [List.range_succ, List.filter_append]
  congr 1
  cases h : (R.all.getD k p0).gone <;> (simp only [List.filter_cons, List.filter_nil, h]; rfl)
theorem liveN_le (R : Rn) (k : Nat) : (liveN R k).length ≤ k := by
  unfold liveN
  exact Nat.le_trans (List.length_filter_le _ _) (by simp)
def intsOf (l : List Nat) : List Value := l.map fun (i : Nat) => Value.int .i64 (i : Int)
theorem Rn.Ok.prow (h : R.Ok w B) {k : Nat} (hk : k < R.all.length) : ∃ g, R.va = some ⟨g, 0, none⟩ ∧ (∀ i, w.frozen? ⟨g, i, none⟩ = false) ∧ w.cell? ⟨g, k * 6, none⟩ = some (.int .i64 (R.all.getD k p0).f.id) ∧ w.cell? ⟨g, k * 6 + 1, none⟩ = some (.int .i64 (R.all.getD k p0).f.src) ∧ w.cell? ⟨g, k * 6 + 2, none⟩ = some (.int .i64 (R.all.getD k p0).f.dst) ∧ w.cell? ⟨g, k * 6 + 3, none⟩ = some (.int .i64 (R.all.getD k p0).f.due) ∧ w.cell? ⟨g, k * 6 + 4, none⟩ = some (.slice (R.all.getD k p0).f.a (R.all.getD k p0).f.n (R.all.getD k p0).f.c) ∧ w.cell? ⟨g, k * 6 + 5, none⟩ = some (.bool (R.all.getD k p0).gone) := by
  rcases h.row.2 with ⟨h1, h2⟩ | ⟨g, cap, cur, hv, hB, hg, hnc, hcm, hcs, htk⟩
  · omega
  · simp at hv
    obtain ⟨hva, rfl⟩ := hv
    have hx : ∀ j, j < 6 → w.cell? ⟨g, k * 6 + j, none⟩ = (R.all.getD k p0).cs[j]? := by
      intro j hj
      rw [blk_cell hg _, ← pk_get R.all k hk j hj, ← htk, List.getElem?_take_of_lt (by omega), Array.getElem?_toList]
    exact ⟨g, hva, fun i => frozen_of_row w _ i _ _ hg, hx 0 (by omega), hx 1 (by omega), hx 2 (by omega), hx 3 (by omega), hx 4 (by omega), hx 5 (by omega)⟩

set_option maxHeartbeats 400000 in
theorem way_any (h : R.Ok w B) (hA : R.all.length ≤ 2199023255552) : Calls Try.prog 92 #[.pointer (some ⟨R.b, 0, none⟩)] w fun e w' => ∃ v, e = .returned v ∧ w'.ownsRow w.heap.size 3 1 v (liveN R R.all.length).length (intsOf (liveN R R.all.length)) ∧ Below w.heap.size w w' := by
  obtain ⟨i0, hi, hz0, hz1, hz2⟩ := info_parts info_i
  have c563 := h.c563
  have Hh : Hid (R.Ok w B) := h
  clear h
  go_enter Try.func92, Try.ntmps92
  go_wp2
  generalize hN : R.all.length = N at *
  go_loopw [3, 4] (fun v i wr => ∃ k : Nat, k ≤ N ∧ i = .int .i64 k ∧ wr.ownsRow w.heap.size 3 1 v (liveN R k).length (intsOf (liveN R k)) ∧ Below w.heap.size w wr) (fun _ i _ => N - (intOf i).toNat)
  case atStart => exact ⟨0, Nat.zero_le _, rfl, ⟨rfl, .inl ⟨rfl, rfl⟩⟩, Below.refl _ _⟩
  case round =>
    obtain ⟨k, hk, rfl, ho, hb⟩ := hrel
    have hR := Hh.out.still hb
    have d563 : wr.cell? ⟨R.b, 563, none⟩ = some (.slice R.va N R.vc) := by rw [← hN]; exact hR.c563
    by_cases hlt : k < N
    · obtain ⟨g, hva, hfz, x0, x1, x2, x3, x4, x5⟩ := hR.prow (k := k) (by omega)
      rw [hva] at d563
      have hnx := liveN_next R k
      have hll := liveN_le R k
      have HO : Hid (wr.ownsRow w.heap.size 3 1 u3 (liveN R k).length (intsOf (liveN R k))) := ho
      have HB : Hid (Below w.heap.size w wr) := hb
      have i1 : (0 : Int) ≤ (k : Int) := Int.natCast_nonneg _
      have i2 : (k : Int) < (N : Int) := by omega
      have hsz := hb.size
      generalize hgo : (R.all.getD k p0).gone = go at x5 hnx
      clear ho hb hR hfz x0 x1 x2 x3 x4
      cases go with
      | true =>
        go_wp2
        go_roundw
        case rel => exact ⟨k + 1, by omega, by go_num, by rw [hnx]; simpa using HO.out, HB.out⟩
        case measure => simp [intOf]; omega
      | false =>
        have hint : Hid (intsOf (liveN R (k + 1)) = intsOf (liveN R k) ++ [.int .i64 k] ∧ (liveN R (k + 1)).length = (liveN R k).length + 1) := by rw [hnx]; exact ⟨by simp [intsOf], by simp⟩
        clear hnx
        generalize liveN R k = LN at HO hint hll
        generalize hI : intsOf LN = I at HO hint
        go_wp2_with (first
          | (at_builtin; refine wpList_append_lies _ rfl _ _ 31 rfl w.heap.size 3 i0 (.int .i64 0) 1 8 Try.underlying31 hi hz0 hz1 hz2 rfl (by omega) u3 LN.length I rfl (World.ownsRow.alloc HO.out _) _ 1 1 _ rfl rfl (World.news_of_block (heap_alloc_new _ _)) (by simp [Value.oneCell']) (by omega) (by unfold maxLen; omega) (by omega) (by simp; omega) _ rfl ?_; intro g3 cap3 w3 hown3 hgrow3 hat3 hlt3)
          | fail)
        go_roundw
        case rel =>
          refine ⟨k + 1, by omega, by go_num, by rw [hint.out.1, hint.out.2]; simpa using hown3, ?_⟩
          exact (balloc HB.out).grown hgrow3 (by simp; omega) (fun q hq => (World.ownsRow.lt HO.out q hq).1)
        case measure => simp [intOf]; omega
    · obtain rfl : k = N := by omega
      go_wp2
      go_ret
      exact ⟨_, rfl, by rw [hN]; exact ho, hb⟩
end
end Go.Proofs.Ythogcanfinjfdaa.Et
namespace Go.Proofs.Ythogcanfinjfdaa.Et
open Go.RowKit Go.Maps
set_option linter.unusedVariables false
set_option linter.unusedSimpArgs false
set_option maxRecDepth 100000
section
variable {R R' : Rn} {w w' : World} {B : Nat}
def live (R : Rn) : List Nat := liveN R R.all.length
def atN (R : Rn) (k : Int) : Int := if 0 ≤ k ∧ k < (live R).length then ((live R).getD k.toNat 0 : Nat) else -1

theorem ints_at {a : Option Addr} {n c : Nat} {LN : List Nat} {w1 : World} {B1 : Nat} (h : w1.ownsRow B1 3 1 (.slice a n c) n (intsOf LN)) {j : Nat} (hj : j < LN.length) : ∃ g, a = some ⟨g, 0, none⟩ ∧ w1.cell? ⟨g, j, none⟩ = some (.int .i64 (LN.getD j 0 : Nat)) := by
  have hl : LN.length = n := by have := h.1; simp [intsOf] at this; exact this
  rcases h.2 with ⟨h1, h2⟩ | ⟨g, cap, cur, hv, hB, hg, hnc, hcm, hcs, htk⟩
  · omega
  · simp at hv
    refine ⟨g, hv.1, ?_⟩
    rw [blk_cell hg j]
    have e1 : (cur.toList.take (n * 1))[j]? = (intsOf LN)[j]? := by rw [htk]
    rw [List.getElem?_take_of_lt (by omega)] at e1
    rw [← Array.getElem?_toList, e1]
    simp [intsOf, List.getD, List.getElem?_eq_getElem hj]

set_option maxHeartbeats 400000 in
theorem at_any (h : R.Ok w B) (hA : R.all.length ≤ 2199023255552) (k : Int) : Calls Try.prog 91 #[.pointer (some ⟨R.b, 0, none⟩), .int .i64 k] w fun e w' => e = .returned (.int .i64 (atN R k)) ∧ Below w.heap.size w w' := by
  have HW := way_any h hA
  unfold atN live
  generalize liveN R R.all.length = LN at HW ⊢
  clear h
  have HW : Calls Try.prog 92 #[.pointer (some ⟨R.b, 0, none⟩)] w fun e w' => ∃ a c, e = .returned (.slice a LN.length c) ∧ w'.ownsRow w.heap.size 3 1 (.slice a LN.length c) LN.length (intsOf LN) ∧ Below w.heap.size w w' := HW.mono fun e w2 ⟨v, x1, x2, x3⟩ => by
    obtain ⟨av, cv, hv⟩ := own_shape (B' := 0) x2
    subst hv
    exact ⟨av, cv, x1, x2, x3⟩
  by_cases hk : 0 ≤ k ∧ k < LN.length
  · rw [if_pos hk]
    obtain ⟨j, rfl⟩ : ∃ j : Nat, k = j := ⟨k.toNat, by omega⟩
    have hj : j < LN.length := by omega
    rw [show ((j : Int).toNat) = j from rfl]
    generalize hy : LN.getD j 0 = y
    have Hy : Hid (LN.getD j 0 = y) := hy
    clear hy
    have i1 : (0 : Int) ≤ (j : Int) := Int.natCast_nonneg _
    have i2 : (j : Int) < (LN.length : Int) := by omega
    go_enter Try.func91, Try.ntmps91
    go_wp2_with (first | (go_at_call 92; refine HW.mono ?_; rintro e w1 ⟨a, c, rfl, ho, hb⟩; obtain ⟨g, hg, hcell⟩ := ints_at ho hj; rw [hg]; rw [Hy.out] at hcell) | fail)
    all_goals first | (exfalso; omega) | (go_ret; exact ⟨rfl, hb⟩)
  · rw [if_neg hk]
    have hk' : k < 0 ∨ (LN.length : Int) ≤ k := by omega
    go_enter Try.func91, Try.ntmps91
    go_wp2_with (first | (go_at_call 92; refine HW.mono ?_; rintro e w1 ⟨a, c, rfl, ho, hb⟩) | fail)
    all_goals first | (exfalso; omega) | (go_ret; exact ⟨rfl, hb⟩)


set_option maxHeartbeats 400000 in
theorem rdoPath_no (h : R.Ok w B) (v : Ev) (hp : rP R v.a v.b = false) : Calls Try.prog 93 #[.pointer (some ⟨R.b, 0, none⟩), .agg v.cs] w fun e w' => e = .returned (.int .i64 1) ∧ Below w.heap.size w w' := by
  generalize hW : w.alloc (.cells v.cs 41) = W
  have hbW : Below w.heap.size w W := by rw [← hW]; exact balloc (Below.refl _ w)
  have hblk : W.heap[w.heap.size]? = some (.cells v.cs 41 (0, 0)) := by rw [← hW]; exact heap_alloc_new w _
  obtain ⟨e0, e1, e2, e3, e4, e5⟩ := ev_cells hblk
  have HP := rpath_is (h.still hbW) hp
  have Hb : Hid (Below w.heap.size w W) := hbW
  unfold Ev.cs at hW ⊢
  clear h hbW hblk
  go_enter Try.func93, Try.ntmps93
  go_wp2_with (first | (go_at_call 88; refine HP.mono ?_; rintro e w1 ⟨rfl, rfl⟩) | fail)
  go_ret
  exact ⟨rfl, Hb.out⟩

set_option maxHeartbeats 400000 in
theorem rdoPath_open (h : R.Ok w B) (v : Ev) (a b : Nat) (hva : v.a = a) (hvb : v.b = b) (ha : a < R.nn) (hb : b < R.nn) (hne : a ≠ b) (x : Bool) (hk : x = true ∧ v.k = 8 ∨ x = false ∧ v.k = 9) : Calls Try.prog 93 #[.pointer (some ⟨R.b, 0, none⟩), .agg v.cs] w fun e w' => e = .returned (.int .i64 0) ∧ Rtep w w' R { R with shut := upd2 R.shut a b x } B := by
  have hn := h.n16
  generalize hW : w.alloc (.cells v.cs 41) = W
  have hbW : Below w.heap.size w W := by rw [← hW]; exact balloc (Below.refl _ w)
  have hblk : W.heap[w.heap.size]? = some (.cells v.cs 41 (0, 0)) := by rw [← hW]; exact heap_alloc_new w _
  obtain ⟨e0, e1, e2, e3, e4, e5⟩ := ev_cells hblk
  rw [hva] at e1
  rw [hvb] at e2
  have hR := h.still hbW
  have HP := rpath_is hR (rP_nat ha hb hne)
  obtain ⟨d0, d1⟩ := hR.csh (p := a) (q := b) (by omega) (by omega)
  have hf := hR.fz (51 + a * 16 + b)
  have hs : Hid (Rtep w (W.setCell ⟨R.b, 51 + a * 16 + b, none⟩ (.bool x)) R { R with shut := upd2 R.shut a b x } B) := Rtep.pre hbW (Rtep.cell hR (fun cs hb => hb.setShut a b (by omega) (by omega) x) rfl rfl rfl rfl rfl)
  have i2 : (a : Int) < 16 := by omega
  have i3 : (b : Int) < 16 := by omega
  unfold Ev.cs at hW ⊢
  rw [hva, hvb] at hW ⊢
  clear h hbW hblk hR
  rcases hk with ⟨rfl, hk⟩ | ⟨rfl, hk⟩ <;>
  · rw [hk] at e0 hW ⊢
    go_enter Try.func93, Try.ntmps93
    go_wp2_with (first | (go_at_call 88; refine HP.mono ?_; rintro e w1 ⟨rfl, rfl⟩) | fail)
    first
      | (go_ret; exact ⟨rfl, hs.out⟩)
      | (go_region_law (fail); all_goals (go_wp2; go_ret; exact ⟨rfl, Rtep.post hs.out (Below.refl _ _).drew⟩))

set_option maxHeartbeats 400000 in
theorem rdoPath_dno (h : R.Ok w B) (v : Ev) (a b : Nat) (hva : v.a = a) (hvb : v.b = b) (ha : a < R.nn) (hb : b < R.nn) (hne : a ≠ b) (hk : v.k = 10) (hx : v.n < 1 ∨ 16 < v.n) : Calls Try.prog 93 #[.pointer (some ⟨R.b, 0, none⟩), .agg v.cs] w fun e w' => e = .returned (.int .i64 1) ∧ Below w.heap.size w w' := by
  generalize hW : w.alloc (.cells v.cs 41) = W
  have hbW : Below w.heap.size w W := by rw [← hW]; exact balloc (Below.refl _ w)
  have hblk : W.heap[w.heap.size]? = some (.cells v.cs 41 (0, 0)) := by rw [← hW]; exact heap_alloc_new w _
  obtain ⟨e0, e1, e2, e3, e4, e5⟩ := ev_cells hblk
  rw [hva] at e1
  rw [hvb] at e2
  rw [hk] at e0
  have HP := rpath_is (h.still hbW) (rP_nat ha hb hne)
  have Hb : Hid (Below w.heap.size w W) := hbW
  unfold Ev.cs at hW ⊢
  rw [hva, hvb, hk] at hW ⊢
  clear h hbW hblk
  go_enter Try.func93, Try.ntmps93
  go_wp2_with (first | (go_at_call 88; refine HP.mono ?_; rintro e w1 ⟨rfl, rfl⟩) | fail)
  all_goals first | (exfalso; omega) | (go_ret; exact ⟨rfl, Hb.out⟩)

set_option maxHeartbeats 400000 in
theorem rdoPath_dly (h : R.Ok w B) (v : Ev) (a b : Nat) (hva : v.a = a) (hvb : v.b = b) (ha : a < R.nn) (hb : b < R.nn) (hne : a ≠ b) (hk : v.k = 10) (h1 : 1 ≤ v.n) (h2 : v.n ≤ 16) : Calls Try.prog 93 #[.pointer (some ⟨R.b, 0, none⟩), .agg v.cs] w fun e w' => e = .returned (.int .i64 0) ∧ Rtep w w' R { R with slow := upd2 R.slow a b v.n } B := by
  have hn := h.n16
  generalize hW : w.alloc (.cells v.cs 41) = W
  have hbW : Below w.heap.size w W := by rw [← hW]; exact balloc (Below.refl _ w)
  have hblk : W.heap[w.heap.size]? = some (.cells v.cs 41 (0, 0)) := by rw [← hW]; exact heap_alloc_new w _
  obtain ⟨e0, e1, e2, e3, e4, e5⟩ := ev_cells hblk
  rw [hva] at e1
  rw [hvb] at e2
  rw [hk] at e0
  have hR := h.still hbW
  have HP := rpath_is hR (rP_nat ha hb hne)
  obtain ⟨d0, d1⟩ := hR.csh (p := a) (q := b) (by omega) (by omega)
  have hf := hR.fz (307 + a * 16 + b)
  have hs : Hid (Rtep w (W.setCell ⟨R.b, 307 + a * 16 + b, none⟩ (.int .i64 v.n)) R { R with slow := upd2 R.slow a b v.n } B) := Rtep.pre hbW (Rtep.cell hR (fun cs hb => hb.setSlow a b (by omega) (by omega) v.n) rfl rfl rfl rfl rfl)
  have i2 : (a : Int) < 16 := by omega
  have i3 : (b : Int) < 16 := by omega
  unfold Ev.cs at hW ⊢
  rw [hva, hvb, hk] at hW ⊢
  clear h hbW hblk hR
  go_enter Try.func93, Try.ntmps93
  go_wp2_with (first | (go_at_call 88; refine HP.mono ?_; rintro e w1 ⟨rfl, rfl⟩) | fail)
  all_goals first
    | (exfalso; omega)
    | (go_ret; exact ⟨rfl, hs.out⟩)
    | (go_region_law (fail); all_goals (go_wp2; go_ret; exact ⟨rfl, Rtep.post hs.out (Below.refl _ _).drew⟩))
end
end Go.Proofs.Ythogcanfinjfdaa.Et
