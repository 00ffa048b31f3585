import Derived.Test.YtcodpjblmeckkaaXg
import Derived.Test.YtcodpjblmeckkaaXe
namespace Go.Proofs.Ytcodpjblmeckkaa.Dt
open Go.RowKit
set_option linter.unusedVariables false
set_option maxRecDepth 100000
set_option linter.unusedSimpArgs false
section
variable {D D' : De} {R R' : Rf} {w w' W V : World} {B m : Nat}
theorem info_h : (Try.prog.info? 74).map (fun i => (i.zero, i.size, i.bytes)) = some (some (.agg #[.slice none 0 0, .slice none 0 0, .slice none 0 0, .int .i64 0]), 4, 80) := by kernel_rfl
def hz : Hn := ⟨none, none, none, 0, 0, 0, 0, 0⟩
theorem cs_len (h : Hn) : h.cs.length = 4 := rfl
theorem flat_len : ∀ hs : List Hn, (hs.flatMap Hn.cs).length = hs.length * 4
  | [] => rfl
  | h :: hs => by rw [List.flatMap_cons, List.length_append, cs_len, flat_len hs, List.length_cons]; omega
theorem flat_at : ∀ (hs : List Hn) (j t : Nat), j < hs.length → t < 4 → (hs.flatMap Hn.cs)[j * 4 + t]? = (hs.getD j hz).cs[t]?
  | [], j, t, hj, _ => by simp at hj
  | h :: hs, 0, t, _, ht => by
    rw [List.flatMap_cons, List.getElem?_append_left (by rw [cs_len]; omega)]
    simp [List.getD]
  | h :: hs, j + 1, t, hj, ht => by
    rw [List.flatMap_cons, List.getElem?_append_right (by rw [cs_len]; omega), cs_len, show (j + 1) * 4 + t - 4 = j * 4 + t by omega, flat_at hs j t (by simpa using hj) ht]
    simp [List.getD]
theorem flat_one (hs : List Hn) : ∀ u ∈ hs.flatMap Hn.cs, u.oneCell' = true := by
  intro u hu
  rw [List.mem_flatMap] at hu
  obtain ⟨h, _, hh⟩ := hu
  simp [Hn.cs] at hh
  rcases hh with rfl | rfl | rfl | rfl <;> rfl
structure Ol (w : World) (B : Nat) (D : De) (R : Rf) (v : Value) (hs : List Hn) : Prop where
  row : w.ownsRow B 74 4 v hs.length (hs.flatMap Hn.cs)
  el : ∀ j, j < hs.length → (hs.getD j hz).Ok w (fun q => q < w.heap.size ∧ ¬ D.own q ∧ ¬ R.own q ∧ v.ownBlock ≠ some q)
  nr : ∀ q, v.ownBlock = some q → ¬ D.own q ∧ ¬ R.own q
theorem Ol.nil : Ol w B D R (.slice none 0 0) [] := ⟨⟨rfl, .inl ⟨rfl, rfl⟩⟩, fun j hj => by simp at hj, fun q hq => by simp [Value.ownBlock] at hq⟩
theorem Ol.still {v : Value} {hs : List Hn} (h : Ol w B D R v hs) (hb : Below w.heap.size w w') : Ol w' B D R v hs :=
  ⟨own_still h.row hb, fun j hj => ((h.el j hj).keep (Kept.ofBelow hb (fun _ => False)) (fun _ _ => id)).sub (fun q hq => ⟨Nat.lt_of_lt_of_le hq.1 hb.size, hq.2⟩), h.nr⟩
theorem Ol.step {v : Value} {hs : List Hn} (h : Ol w B D R v hs) (s : Dq w w' D D' R R' B m) : Ol w' B D' R' v hs := by
  have hl : ∀ q, v.ownBlock = some q → q < w.heap.size := fun q hq => (World.ownsRow.lt h.row q hq).2
  have hno : ∀ q, q < w.heap.size → ¬ D.own q → ¬ R.own q → ¬ D'.own q ∧ ¬ R'.own q := fun q h1 h2 h3 => ⟨fun hh => by
    rcases s.own q (.inl hh) with e | e | e
    · exact h2 e
    · exact h3 e
    · omega, fun hh => by
    rcases s.own q (.inr hh) with e | e | e
    · exact h2 e
    · exact h3 e
    · omega⟩
  refine ⟨Kept.owns s.kept h.row (fun q hq e => ?_), fun j hj => ((h.el j hj).keep s.kept (fun q hq e => ?_)).sub (fun q hq => ⟨Nat.lt_of_lt_of_le hq.1 s.kept.size, (hno q hq.1 hq.2.1 hq.2.2.1).1, (hno q hq.1 hq.2.1 hq.2.2.1).2, hq.2.2.2⟩), fun q hq => hno q (hl q hq) (h.nr q hq).1 (h.nr q hq).2⟩
  · exact e.elim (h.nr q hq).1 (h.nr q hq).2
  · exact e.elim hq.2.1 hq.2.2.1
theorem Ol.push {v v' : Value} {hs : List Hn} {x : Hn} {B0 : Nat} {wa w0 : World} (h : Ol wa B D R v hs) (hBa : wa.heap.size ≤ B0) (hDo : ∀ q, D.own q → q < wa.heap.size) (hRo : ∀ q, R.own q → q < wa.heap.size) (hb : Below B0 wa w0) (hx : x.Ok w0 (fun q => B0 ≤ q ∧ q < w0.heap.size)) (hrow : w'.ownsRow B 74 4 v' (hs.length + 1) (hs.flatMap Hn.cs ++ x.cs)) (hk : Kept w0 w' (fun q => some q = v.ownBlock)) (hv : v'.ownBlock = v.ownBlock ∨ ∃ g, v'.ownBlock = some g ∧ w0.heap.size ≤ g) : Ol w' B D R v' (hs ++ [x]) := by
  have hl : ∀ q, v.ownBlock = some q → q < wa.heap.size := fun q hq => (World.ownsRow.lt h.row q hq).2
  have hbs := hb.size
  have hks := hk.size
  have hbk : Kept wa w0 (fun _ => False) := ⟨hb.os, hb.tape, hb.output, hb.size, fun k hk _ => hb.block k (by omega)⟩
  have hvn : ∀ q, q < w0.heap.size → v.ownBlock ≠ some q → v'.ownBlock ≠ some q := fun q hq hn e => by
    rcases hv with e1 | ⟨g, e1, e2⟩
    · exact hn (e1 ▸ e)
    · rw [e1] at e
      cases e
      omega
  refine ⟨by simpa [List.flatMap_append] using hrow, fun j hj => ?_, fun q hq => ?_⟩
  · by_cases e : j < hs.length
    · have e2 : (hs ++ [x]).getD j hz = hs.getD j hz := by simp [List.getD, List.getElem?_append, e]
      rw [e2]
      exact (((h.el j e).keep hbk (fun _ _ => id)).keep hk (fun q hq e3 => hq.2.2.2 e3.symm)).sub (fun q hq => ⟨by omega, hq.2.1, hq.2.2.1, hvn q (by omega) hq.2.2.2⟩)
    · obtain rfl : j = hs.length := by simp at hj; omega
      have e2 : (hs ++ [x]).getD hs.length hz = x := by simp [List.getD]
      rw [e2]
      exact (hx.keep hk (fun q hq e3 => by have := hl q e3.symm; omega)).sub (fun q hq => ⟨by omega, fun hh => by have := hDo q hh; omega, fun hh => by have := hRo q hh; omega, hvn q hq.2 (fun e3 => by have := hl q e3; omega)⟩)
  · rcases hv with e1 | ⟨g, e1, e2⟩
    · exact h.nr q (e1 ▸ hq)
    · rw [e1] at hq
      obtain rfl : g = q := by simpa using hq
      exact ⟨fun hh => by have := hDo g hh; omega, fun hh => by have := hRo g hh; omega⟩
theorem wl_pushH {ops : Array Oper} {rest : List Oper} {o : Oper} {a : Act} {Q : Exit → Act → World → Prop} (hgd : o.guard = none) (s x : Operand)
    (ho : o.op = .call { callee := .builtin .append, args := #[s, x], argTypes := #[70, 70] }) (w0 : World) (h : Hn) (hw : w = w0.alloc (.cells #[.slice h.a1 h.n h.c1, .slice h.a2 (h.n + 1) h.c2, .slice h.a3 (h.n + 1) h.c3, .int .i64 h.km] 74)) (b : Nat) (v : Value) (hs : List Hn) (hsv : a.eval s = v) (hown : w0.ownsRow b 74 4 v hs.length (hs.flatMap Hn.cs)) (hx : a.eval x = .slice (some ⟨w0.heap.size, 0, none⟩) 1 1) (hn : hs.length ≤ 1000000) (hb : b ≤ w0.heap.size)
    (hK : ∀ g c w1, w1.ownsRow b 74 4 (.slice (some ⟨g, 0, none⟩) (hs.length + 1) c) (hs.length + 1) (hs.flatMap Hn.cs ++ h.cs) → Kept w0 w1 (fun q => some q = v.ownBlock) → ((Value.slice (some ⟨g, 0, none⟩) (hs.length + 1) c).ownBlock = v.ownBlock ∨ ∃ g', (Value.slice (some ⟨g, 0, none⟩) (hs.length + 1) c).ownBlock = some g' ∧ w0.heap.size ≤ g') → wpList Try.prog ops Q rest (a.put o.dst (.slice (some ⟨g, 0, none⟩) (hs.length + 1) c)) w1) : wpList Try.prog ops Q (o :: rest) a w := by
  obtain ⟨i0, hi, hz0, hz1, hz2⟩ := info_parts info_h
  subst hw
  have hbA : Below w0.heap.size w0 (w0.alloc (.cells #[.slice h.a1 h.n h.c1, .slice h.a2 (h.n + 1) h.c2, .slice h.a3 (h.n + 1) h.c3, .int .i64 h.km] 74)) := balloc (Below.refl _ w0)
  have hsz := hbA.size
  have hnew : (w0.alloc (.cells #[.slice h.a1 h.n h.c1, .slice h.a2 (h.n + 1) h.c2, .slice h.a3 (h.n + 1) h.c3, .int .i64 h.km] 74)).heap[w0.heap.size]? = some (.cells #[.slice h.a1 h.n h.c1, .slice h.a2 (h.n + 1) h.c2, .slice h.a3 (h.n + 1) h.c3, .int .i64 h.km] 74 (0, 0)) := heap_alloc_new w0 _
  refine wpList_append_lies _ hgd s x 70 ho b 74 i0 _ 4 80 Try.underlying70 hi hz0 hz1 hz2 rfl (by decide) v hs.length (hs.flatMap Hn.cs) hsv (World.ownsRow.alloc hown _) ⟨w0.heap.size, 0, none⟩ 1 1 h.cs hx rfl (fun j u hu => ?_) (fun u hu => flat_one [h] u (by simpa using hu)) (by decide) (by unfold maxLen; omega) (by omega) (by omega) _ rfl (fun g c w1 h1 h2 h3 h4 => hK g c w1 h1 ?_ ?_)
  · have hj : j < 4 := (List.getElem?_eq_some_iff.1 hu).1
    rw [Addr.add_lit, Nat.zero_add, blk_cell hnew j, ← hu]
    simp [Hn.cs]
  · exact (Kept.ofBelow hbA _).step (Kept.ofGrown h2) (fun j hj => .inl hj)
  · rcases h3 with e | e
    · exact .inl (by rw [e]; rfl)
    · exact .inr ⟨g, rfl, by omega⟩
theorem list2_57 (h : Du D R w B m) (hm : m ≤ 2513169434917) (k : Int) (hk : 5 ≤ k ∧ k ≤ 7) : Calls Try.prog 35 #[.pointer (some ⟨D.b, 0, none⟩), .pointer (some ⟨R.b, 0, none⟩), .int .i64 k] w fun e w' => ∃ v1 v2, e = .returned (.tuple #[v1, v2]) ∧ Two w' v1 v2 ∧ (∃ xs : List Int, w'.ownsRow w.heap.size 3 1 v1 xs.length (ints xs) ∧ xs.length ≤ 16) ∧ Below w.heap.size w w' := by
  by_cases h5 : k = 5
  · subst h5; exact list2_hears h hm
  · by_cases h6 : k = 6
    · subst h6; exact list2_ests h hm
    · obtain rfl : k = 7 := by omega
      exact list2_sus h hm
end
end Go.Proofs.Ytcodpjblmeckkaa.Dt
