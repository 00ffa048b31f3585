import Derived.Test.YtpkcgjnaegaecaaY5
import Derived.Test.YtpkcgjnaegaecaaZn
import Derived.Test.YtpkcgjnaegaecaaZj
import Derived.Test.YtpkcgjnaegaecaaZt
import Derived.Test.YtpkcgjnaegaecaaZm
namespace Go.Proofs.Ytpkcgjnaegaecaa.Fm
open Go.RowKit Go.Maps Mb
set_option linter.unusedVariables false
set_option maxRecDepth 100000
set_option linter.unusedSimpArgs false
section
variable {w w' W : World} {B : Nat}
structure Ca where
  ao : Option Addr
  cp : Nat
  fs : List Fl
  own : Fl
  d : Int
  wa : Option Addr
  wn : Nat
  wc : Nat
  self : Int
  q : Int
  ma : Option Addr
  mn : Nat
  mc : Nat
def Ca.cs (k : Ca) : List Value := [.slice k.ao k.fs.length k.cp, .int .i64 k.own.c.id.e, .int .i64 k.own.c.id.l, .int .i64 k.own.c.id.i, .int .i64 k.own.c.id.c, .int .i64 k.own.c.base, .slice k.own.sa k.own.c.sl.length k.own.sc, .slice k.own.ha k.own.c.hv.length k.own.hc, .int .i64 k.d, .slice k.wa k.wn k.wc, .int .i64 k.self, .int .i64 k.q, .slice k.ma k.mn k.mc]
theorem Ca.own_at {k : Ca} {b : Nat} (h : w.heap[b]? = some (.cells k.cs.toArray 58 (0, 0))) : w.rangeAt b 1 k.own.cs := fun j v hv => by
  rw [blk_cell h]
  have hj : j < 7 := (List.getElem?_eq_some_iff.1 hv).1
  match j, hj, hv with
  | 0, _, hv => exact hv
  | 1, _, hv => exact hv
  | 2, _, hv => exact hv
  | 3, _, hv => exact hv
  | 4, _, hv => exact hv
  | 5, _, hv => exact hv
  | 6, _, hv => exact hv
theorem tw_pre {x : Fl} {g : Nat} (hg : w.heap[g]? = some (.cells x.tw.toArray 94 (0, 0))) : w.rangeAt g 0 x.cs := fun j v hv => blk_range hg j v (by
  have hj : j < 7 := (List.getElem?_eq_some_iff.1 hv).1
  unfold Fl.tw
  rw [List.getElem?_append_left (by rw [Fl.cs_len]; exact hj)]
  exact hv)
theorem own_put {g n c i : Nat} {l : List (Int × Int)} (h : w.ownsRow B 40 2 (.slice (some ⟨g, 0, none⟩) n c) n (slCells l)) (hl : l.length = n) (hi : i < n) (s : Int × Int) : w.there g (i * 2) 2 ∧ B ≤ g ∧ (w.setCells g (i * 2) (slotV s)).ownsRow B 40 2 (.slice (some ⟨g, 0, none⟩) n c) n (slCells (l.set i s)) := by
  rcases h.2 with ⟨h1, h2⟩ | ⟨g', cap, cur, hv, hB, hg, hnc, hcm, hcs, htk⟩
  · cases h1
  · simp only [Value.slice.injEq, Option.some.injEq, Addr.mk.injEq] at hv
    obtain ⟨⟨rfl, -, -⟩, -, rfl⟩ := hv
    have hsz : i * 2 + 2 ≤ cur.size := by omega
    refine ⟨fun j hj => ⟨by rw [blk_cell hg]; simp; omega, frozen_of_row w _ _ _ _ hg⟩, hB, ⟨by rw [slCells_len, List.length_set, hl], .inr ⟨g, c, _, rfl, hB, sets_list (slotV s) (i * 2) w cur.toList (by simpa using hg) (by simpa [slotV] using hsz), hnc, hcm, ?_, ?_⟩⟩⟩
    · simp only [List.size_toArray, List.length_append, List.length_take, List.length_drop, Array.length_toList]
      have : (slotV s).length = 2 := rfl
      omega
    · apply List.ext_getElem?
      intro j
      by_cases hj : j < n * 2
      · rw [List.getElem?_take_of_lt hj, slCells_at _ _ (by rw [List.length_set, hl]; exact hj)]
        simp only []
        have hold : cur.toList[j]? = some (slotC l j) := by
          have e1 : (cur.toList.take (n * 2))[j]? = (slCells l)[j]? := by rw [htk]
          rw [List.getElem?_take_of_lt hj] at e1
          rw [e1, slCells_at _ _ (by omega)]
        have hlv : (slotV s).length = 2 := rfl
        by_cases hji : j / 2 = i
        · have hC : slotC (l.set i s) j = (slotV s).getD (j % 2) undef := by
            unfold slotC
            rw [hji]
            simp [List.getD, show i < l.length by omega]
          rw [hC, List.append_assoc, List.getElem?_append_right (by simp; omega), List.getElem?_append_left (by simp; omega)]
          have e2 : j - (cur.toList.take (i * 2)).length = j % 2 := by simp; omega
          rw [e2, List.getD, List.getElem?_eq_getElem (by rw [hlv]; omega)]
          rfl
        · have hC : slotC (l.set i s) j = slotC l j := by
            unfold slotC
            simp [List.getD, List.getElem?_set, show ¬ i = j / 2 from fun h => hji h.symm]
          rw [hC, ← hold]
          by_cases hlt : j < i * 2
          · rw [List.append_assoc, List.getElem?_append_left (by simp; omega), List.getElem?_take_of_lt hlt]
          · rw [List.getElem?_append_right (by simp; omega), List.getElem?_drop]
            congr 1
            simp
            omega
      · rw [List.getElem?_take_eq_none (by omega), List.getElem?_eq_none (by rw [slCells_len, List.length_set]; omega)]
theorem wl_storeM {ops : Array Oper} {rest : List Oper} {o : Oper} {a : Act} {Q : Exit → Act → World → Prop} (hgd : o.guard = none) (ty : TypeId) (x y : Operand) (ho : o.op = .store ty x y) {g off : Nat} {L : List Value} (hx : a.eval x = .pointer (some ⟨g, off, none⟩)) (hy : a.eval y = .agg L.toArray) (ht : w.there g off L.length) (hi : (Try.prog.info? ty).map (·.size) = some L.length) (h1 : ∀ u ∈ L, u.oneCell' = true)
    (h : wpList Try.prog ops Q rest (a.put o.dst undef) (w.setCells g off L)) : wpList Try.prog ops Q (o :: rest) a w :=
  wpList_plain hgd fun K hK => wp_store_mid ty x y ho g off _ hx hy (by simpa using ht) (by simpa using hi) (all_oneCell_toArray h1) (hK _ _ (by simpa using h))
theorem bSlot (i : Int) : Try.prog.built 40 [(0, .int .i64 99), (1, .int .i64 i)] = some (slotV (99, i)).toArray := by kernel_rfl
theorem wl_buildZ {ops : Array Oper} {rest : List Oper} {o : Oper} {a : Act} {Q : Exit → Act → World → Prop} {cs : Array Value} (hgd : o.guard = none) (t : TypeId) (parts : Array (Nat × Operand)) (ho : o.op = .build t parts) (hf : Try.prog.built t (parts.map fun (i, x) => (i, a.eval x)).toList = some cs)
    (h : wpList Try.prog ops Q rest (a.put o.dst (.agg cs)) w) : wpList Try.prog ops Q (o :: rest) a w :=
  wpList_build hgd t parts ho (by rw [hf]; rfl) (by rw [hf]; exact h)
theorem built_eq {t : TypeId} {l l' : List (Nat × Value)} {c : Array Value} (e : l = l') (h : Try.prog.built t l' = some c) : Try.prog.built t l = some c := e ▸ h
structure Lw (w0 w : World) (cb vb : Nat) (k : Ca) (ta ia : Option Addr) (xs : List Fl) (x : Fl) : Prop where
  c : w.heap[cb]? = some (.cells k.cs.toArray 58 (0, 0))
  v : w.heap[vb]? = some (.cells x.tw.toArray 94 (0, 0))
  t : Tws w w0.heap.size ta ia xs k.fs
  x : TwOk w w0.heap.size x k.own.c
  r : RdFs w k.ao k.fs
  o : k.own.Rd w
  b : Below w0.heap.size w0 w
theorem Lw.still {w0 : World} {cb vb : Nat} {k : Ca} {ta ia : Option Addr} {xs : List Fl} {x : Fl} (h : Lw w0 w cb vb k ta ia xs x) (hb : Below w.heap.size w w') : Lw w0 w' cb vb k ta ia xs x :=
  ⟨blk_on hb h.c, blk_on hb h.v, h.t.still hb, h.x.still hb, h.r.still hb, h.o.still hb, bstep h.b hb⟩
end
end Go.Proofs.Ytpkcgjnaegaecaa.Fm
