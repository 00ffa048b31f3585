import Derived.Test.YtmkopbbbonggdaaUb
import Derived.Laws.BitsAllLaws
import Derived.Laws.BytesArg
namespace Go.Proofs.Ytmkopbbbonggdaa.Fg
open Go.RowKit Mb
set_option linter.unusedVariables false
set_option maxRecDepth 100000
set_option linter.unusedSimpArgs false
section
variable {w w' W : World} {B : Nat}
def byts (bs : List Int) : List Value := bs.map (Value.int .u8)
theorem byts_len (bs : List Int) : (byts bs).length = bs.length := by simp [byts]
theorem byts_one (bs : List Int) : ∀ u ∈ byts bs, u.oneCell' = true := by
  intro u hu
  obtain ⟨_, _, rfl⟩ := List.mem_map.1 hu
  rfl
theorem byts_at (bs : List Int) (i : Nat) (h : i < bs.length) : (byts bs)[i]? = some (.int .u8 (bs.getD i 0)) := by simp [byts, List.getD, h]
theorem byts_app (a b : List Int) : byts (a ++ b) = byts a ++ byts b := by simp [byts]
structure Rd (w : World) (ao : Option Addr) (n c : Nat) (bs : List Int) : Prop where
  len : bs.length = n
  cap : n ≤ c
  nil : ao = none → c = 0
  at_ : n = 0 ∨ ∃ b off, ao = some ⟨b, off, none⟩ ∧ ∀ i, i < n → w.cell? ⟨b, off + i, none⟩ = some (.int .u8 (bs.getD i 0))
  by_ : By bs
theorem Rd.still {ao : Option Addr} {n c : Nat} {bs : List Int} (h : Rd w ao n c bs) (hb : Below w.heap.size w w') : Rd w' ao n c bs :=
  ⟨h.len, h.cap, h.nil, h.at_.elim .inl fun ⟨b, off, h1, h2⟩ => .inr ⟨b, off, h1, fun i hi => below_at hb (h2 i hi)⟩, h.by_⟩
def In (ao : Option Addr) (P : Nat → Prop) : Prop := ∀ b off, ao = some ⟨b, off, none⟩ → P b
theorem kept_cell {P : Nat → Prop} {b i : Nat} {v : Value} (k : Kept w w' P) (hp : ¬ P b) (h : w.cell? ⟨b, i, none⟩ = some v) : w'.cell? ⟨b, i, none⟩ = some v := by
  have hl := World.block_lt_of_cell? w _ h
  have := k.block b hl hp
  rw [← h]
  simp [World.cell?, this]
theorem Rd.keep {P : Nat → Prop} {ao : Option Addr} {n c : Nat} {bs : List Int} (h : Rd w ao n c bs) (k : Kept w w' P) (hp : In ao fun b => ¬ P b) : Rd w' ao n c bs :=
  ⟨h.len, h.cap, h.nil, h.at_.elim .inl fun ⟨b, off, h1, h2⟩ => .inr ⟨b, off, h1, fun i hi => kept_cell k (hp b off h1) (h2 i hi)⟩, h.by_⟩
theorem rd_nil (w : World) : Rd w none 0 0 [] := ⟨rfl, Nat.le_refl _, fun _ => rfl, .inl rfl, By.nil⟩
theorem Rd.nil' {ao : Option Addr} {c : Nat} {bs : List Int} (h : Rd w ao 0 c bs) : bs = [] := List.eq_nil_of_length_eq_zero h.len
theorem Rd.news {ao : Option Addr} {n c : Nat} {bs : List Int} (h : Rd w ao n c bs) : ∀ ad, ao = some ad → ∀ j u, (byts bs)[j]? = some u → w.cell? (ad.add j) = some u := fun ad he j u hu => by
  have hj : j < bs.length := by have := (List.getElem?_eq_some_iff.1 hu).1; rwa [byts_len] at this
  rcases h.at_ with h0 | ⟨b, off, h1, h2⟩
  · have := h.len; omega
  · rw [h1] at he
    cases he
    rw [Addr.add_mid, h2 j (by have := h.len; omega)]
    rw [byts_at bs j hj] at hu
    exact hu
def Bk (w : World) (g : Nat) (bs : List Int) : Prop := w.heap[g]? = some (.cells (byts bs).toArray 5 (0, 0))
theorem Bk.keep {P : Nat → Prop} {g : Nat} {bs : List Int} (h : Bk w g bs) (k : Kept w w' P) (hp : ¬ P g) : Bk w' g bs := k.obj h hp
theorem Bk.still {g : Nat} {bs : List Int} (h : Bk w g bs) (hb : Below w.heap.size w w') : Bk w' g bs := (hb.block _ (lt_heap h)).trans h
theorem Bk.lt {g : Nat} {bs : List Int} (h : Bk w g bs) : g < w.heap.size := lt_heap h
theorem Bk.cell {g : Nat} {bs : List Int} (h : Bk w g bs) {i : Nat} (hi : i < bs.length) : w.cell? ⟨g, i, none⟩ = some (.int .u8 (bs.getD i 0)) := by
  rw [blk_cell h i, List.getElem?_toArray, byts_at bs i hi]
theorem Bk.fz {g : Nat} {bs : List Int} (h : Bk w g bs) (i : Nat) : w.frozen? ⟨g, i, none⟩ = false := frozen_of_row w _ i _ _ h
theorem Bk.set {g : Nat} {bs : List Int} (h : Bk w g bs) (i : Nat) (x : Int) : Bk (w.setCell ⟨g, i, none⟩ (.int .u8 x)) g (bs.set i x) := by
  refine blk_set h ?_
  simp [byts, List.map_set]
theorem Bk.rd {g : Nat} {bs : List Int} (h : Bk w g bs) (o n c : Nat) (hn : o + n ≤ bs.length) (hc : n ≤ c) (hb : By bs) : Rd w (some ⟨g, o, none⟩) n c ((bs.drop o).take n) := by
  refine ⟨by rw [List.length_take, List.length_drop]; omega, hc, by simp, .inr ⟨g, o, rfl, fun i hi => ?_⟩, (hb.drop o).take n⟩
  rw [h.cell (by omega)]
  congr 2
  simp [List.getD, hi]
theorem Bk.all {g : Nat} {bs : List Int} (h : Bk w g bs) (c : Nat) (hc : bs.length ≤ c) (hb : By bs) : Rd w (some ⟨g, 0, none⟩) bs.length c bs := by
  have := h.rd 0 bs.length c (by omega) hc hb
  simpa using this
theorem bk_ne {a b t : Nat} {bs : List Int} {C : Array Value} (h : Bk w a bs) (h' : w.heap[b]? = some (.cells C t (0, 0))) (ht : t ≠ 5) : a ≠ b := by
  rintro rfl
  unfold Bk at h
  rw [h] at h'
  simp at h'
  exact ht h'.2.symm

theorem conv_rd {ao : Option Addr} {n c : Nat} {bs : List Int} (h : Rd w ao n c bs) : (convert 22 9 (.slice ao n c)).run Try.prog w = .ok (.string (strOfNums bs)) w := by
  obtain ⟨h1, h0, h2, h3, h4⟩ := h
  cases ao with
  | none =>
    obtain rfl := h2 rfl
    obtain rfl : n = 0 := by omega
    obtain rfl : bs = [] := List.eq_nil_of_length_eq_zero h1
    exact run_convert_bytes_nil w 22 5 Try.underlying22 Try.underlying5 0 0 9 Try.underlying9
  | some a =>
    rcases h3 with h3 | ⟨b, off, hab, hc⟩
    · subst h3
      obtain rfl : bs = [] := List.eq_nil_of_length_eq_zero h1
      rw [run_convert_bytes_string w 22 9 5 _ 0 c Try.underlying22 Try.underlying5 Try.underlying9, run_bytesToString w a 0 c [] (by simpa using run_loadCells_list (P := Try.prog) w a [] (fun j v hj => by simp at hj))]
      rfl
    · obtain rfl : a = ⟨b, off, none⟩ := by simpa using hab
      exact run_convert_bytes_arg w 22 5 Try.underlying22 Try.underlying5 b off n c bs h1 hc 9 Try.underlying9
set_option maxHeartbeats 400000 in
theorem same_any {a1 a2 : Option Addr} {n m c1 c2 : Nat} {bs : List Int} (h1 : Rd w a1 n c1 bs) (h2 : Rd w a2 m c2 bs) : Calls Try.prog 15 #[.slice a1 n c1, .slice a2 m c2] w fun e w' => e = .returned (.bool true) ∧ w = w' := by
  have k1 := conv_rd h1
  have k2 := conv_rd h2
  generalize strOfNums bs = S at k1 k2
  clear h1 h2
  go_enter Try.func15, Try.ntmps15
  go_wp2
  go_ret
  exact ⟨by simp, rfl⟩

theorem byte_info : ∃ i : TypeInfo, Try.prog.info? 5 = some i ∧ i.zero = some (.int .u8 0) ∧ i.size = 1 ∧ i.bytes = 1 := by
  have h : (Try.prog.info? 5).map (fun i => (i.zero, i.size, i.bytes)) = some (some (.int .u8 0), 1, 1) := by kernel_rfl
  cases hq : Try.prog.info? 5 with
  | none => rw [hq] at h; cases h
  | some i => rw [hq] at h; simp at h; exact ⟨i, rfl, h.1, h.2.1, h.2.2⟩
def Own (w : World) (base : Nat) (v : Value) (bs : List Int) : Prop := w.ownsRow base 5 1 v bs.length (byts bs)
theorem Own.keep {P : Nat → Prop} {base : Nat} {v : Value} {bs : List Int} (h : Own w base v bs) (k : Kept w w' P) (hp : ∀ g, v.ownBlock = some g → ¬ P g) : Own w' base v bs := Kept.owns k h hp
theorem Own.still {base : Nat} {v : Value} {bs : List Int} (h : Own w base v bs) (hb : Below w.heap.size w w') : Own w' base v bs := own_still h hb
theorem Own.shape {base : Nat} {v : Value} {bs : List Int} (h : Own w base v bs) : ∃ a c, v = .slice a bs.length c ∧ ((a = none ∧ bs = [] ∧ c = 0) ∨ ∃ g, a = some ⟨g, 0, none⟩ ∧ base ≤ g ∧ bs.length ≤ c) := by
  rcases h.2 with ⟨h1, h2⟩ | ⟨g, cap, cur, hv, hg, hh, hr⟩
  · have : bs = [] := List.eq_nil_of_length_eq_zero h2
    subst this
    exact ⟨none, 0, h1, .inl ⟨rfl, rfl, rfl⟩⟩
  · exact ⟨_, _, hv, .inr ⟨g, rfl, hg, hr.1⟩⟩
theorem Own.cell {base g c : Nat} {bs : List Int} (h : Own w base (.slice (some ⟨g, 0, none⟩) bs.length c) bs) {i : Nat} (hi : i < bs.length) : w.cell? ⟨g, i, none⟩ = some (.int .u8 (bs.getD i 0)) := by
  rw [World.ownsRow.cellAt h i (by omega), byts_at bs i hi]
theorem Own.rd {base : Nat} {a : Option Addr} {n c : Nat} {bs : List Int} (h : Own w base (.slice a n c) bs) (hb : By bs) : Rd w a n c bs := by
  obtain ⟨a', c', hv, hs⟩ := h.shape
  simp at hv
  obtain ⟨rfl, rfl, rfl⟩ := hv
  rcases hs with ⟨rfl, rfl, rfl⟩ | ⟨g, rfl, h1, h2⟩
  · exact rd_nil w
  · exact ⟨rfl, h2, by simp, .inr ⟨g, 0, rfl, fun i hi => by rw [Nat.zero_add]; exact h.cell hi⟩, hb⟩
theorem own_zero (w : World) (base : Nat) : Own w base (.slice none 0 0) [] := ⟨rfl, .inl ⟨rfl, rfl⟩⟩
end
end Go.Proofs.Ytmkopbbbonggdaa.Fg
