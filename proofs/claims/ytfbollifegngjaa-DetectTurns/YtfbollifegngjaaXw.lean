import Derived.Test.YtfbollifegngjaaXv
namespace Go.Proofs.Ytfbollifegngjaa.Dt
open Go.RowKit
set_option linter.unusedVariables false
set_option maxRecDepth 100000
set_option linter.unusedSimpArgs false
section
variable {D D' : De} {R R' : Rf} {w w' W V : World} {B m : Nat}
structure Ro (W w : World) (B : Nat) (vr v : Value) (l : List Int) : Prop where
  row : w.ownsRow B 3 1 v l.length (ints l)
  kp : Kept W w (fun q => vr.ownBlock = some q)
  pl : ∀ g, v.ownBlock = some g → vr.ownBlock = some g ∨ W.heap.size ≤ g
theorem Ro.next {vr v : Value} {l : List Int} {y : Int} {g c H : Nat} (h : Ro W w B vr v l) (hH : (w.alloc (.cells #[.int .i64 y] 3)).heap.size = H) (h1 : w'.ownsRow B 3 1 (.slice (some ⟨g, 0, none⟩) (l.length + 1) c) (l.length + 1) (ints l ++ [.int .i64 y])) (h2 : (w.alloc (.cells #[.int .i64 y] 3)).grownBy w' v.ownBlock) (h3 : v.ownBlock = some g ∨ g = H) : Ro W w' B vr (.slice (some ⟨g, 0, none⟩) (l.length + 1) c) (l ++ [y]) := by
  have hbA : Below w.heap.size w (w.alloc (.cells #[.int .i64 y] 3)) := balloc (Below.refl _ w)
  have s1 := hbA.size
  have s2 := h.kp.size
  refine ⟨?_, (h.kp.trans (Kept.ofBelow hbA _)).step (Kept.ofGrown h2) (fun j hj => h.pl j hj.symm), fun q hq => ?_⟩
  · rw [List.length_append, show ints (l ++ [y]) = ints l ++ [.int .i64 y] by simp [ints]]; exact h1
  · simp only [Value.ownBlock, Option.some.injEq] at hq
    subst hq
    rcases h3 with e | e
    · exact h.pl _ e
    · exact .inr (by omega)
def mk7 (k : Nat) : List Int := (List.range k).map fun (i : Nat) => -700 - (i : Int)
theorem mk7_succ (k : Nat) : mk7 (k + 1) = mk7 k ++ [-700 - (k : Int)] := by simp [mk7, List.range_succ]
theorem mk7_len (k : Nat) : (mk7 k).length = k := by simp [mk7]
theorem run_app_zero {P : Program} {base : Nat} (t ty e : TypeId) (i : TypeInfo) (size : Nat) (ht : P.underlying t = some (.slice e)) (hi : P.info? e = some i) (v : Value) (n : Nat) (xs : List Value) (hown : w.ownsRow base e size v n xs) (ao : Option Addr) (c : Nat) :
    (Builtin.append_ #[t, t] ty #[v, .slice ao 0 c]).run P w = .ok v w := by
  rcases hown.2 with ⟨rfl, rfl⟩ | ⟨g, cap, cur, rfl, _, _, hnc, _⟩ <;> cases ao
  · simp [Builtin.append_, run_underlying ht, sizeOf, typeInfo, hi, Builtin.lenOf, Builtin.firstCells]
  · simp [Builtin.append_, run_underlying ht, sizeOf, typeInfo, hi, Builtin.lenOf, Builtin.firstCells, loadCells, loadCellsFrom]
  · simp [Builtin.append_, run_underlying ht, sizeOf, typeInfo, hi, Builtin.lenOf, Builtin.firstCells, hnc, storeCells]
  · simp [Builtin.append_, run_underlying ht, sizeOf, typeInfo, hi, Builtin.lenOf, Builtin.firstCells, hnc, storeCells, loadCells, loadCellsFrom]
theorem step_app_rd {ops : Array Oper} {o : Oper} {a : Act} {K : Act → World → Prop} {Q : Exit → Act → World → Prop} {E : Prop} (hgd : o.guard = none) (s x : Operand)
    (ho : o.op = .call { callee := .builtin .append, args := #[s, x], argTypes := #[25, 25] })
    (v : Value) (hs : a.eval s = v) (hown : w.ownsRow B 3 1 v 0 [])
    (ao : Option Addr) (m c : Nat) (xs : List Int) (hx : a.eval x = .slice ao m c) (hr : RdI w ao m xs) (h63 : m ≤ 17592186044416) (hB : B ≤ w.heap.size)
    (h : ∀ a1 c1 w', Ro w w' B v (.slice a1 m c1) xs → K (a.put o.dst (.slice a1 m c1)) w') :
    if Region.wanted o (yielded ops a.tmps) = true then Oper.wp Try.prog o a w K Q else E := by
  obtain ⟨i0, hi, hz0, hz1, hz2⟩ := info_parts info_i
  have hw : Region.wanted o (yielded ops a.tmps) = true := by simp [Region.wanted, hgd]
  rw [if_pos hw]
  have hl := hr.1
  by_cases h0 : m = 0
  · subst h0
    obtain rfl : xs = [] := List.eq_nil_of_length_eq_zero hl
    obtain ⟨a1, c1, rfl⟩ := own_sliceD hown
    have hrun := run_app_zero (P := Try.prog) 25 o.type 3 i0 1 Try.underlying25 hi _ 0 [] hown ao c
    have hK := h a1 c1 w ⟨hown, Kept.refl _ _, fun g hg => .inl hg⟩
    unfold Oper.wp
    simp [execOp, ho, resolve, invoke, builtin, hs, hx, hrun, Result.andThen]
    exact hK
  · obtain ⟨_, h2⟩ := id hr
    rcases h2 with h2 | ⟨b, off, rfl, hc⟩
    · exact absurd h2 h0
    · refine wp_append_lies w s x 25 ho B 3 i0 (.int .i64 0) 1 8 Try.underlying25 hi hz0 hz1 hz2 rfl (by decide) v 0 [] hs hown ⟨b, off, none⟩ m c (ints xs) hx (by rw [ints_len]; omega) (rd_news hr (by omega)) (ints_one xs) (by omega) (by unfold maxLen; omega) (by omega) hB _ rfl (fun g cap w' h3 h4 h5 h6 => ?_)
      have := h (some ⟨g, 0, none⟩) cap w' ⟨?_, (Kept.ofGrown h4).mono (fun k _ e => e.symm), fun q hq => ?_⟩
      · rw [Nat.zero_add]; exact this
      · rw [Nat.zero_add] at h3; rw [hl]; exact h3
      · simp only [Value.ownBlock, Option.some.injEq] at hq
        subst hq
        exact h5.imp id (fun e => by omega)
theorem own_zero {g n c : Nat} {l : List Value} (h : w.ownsRow B 3 1 (.slice (some ⟨g, 0, none⟩) n c) n l) : w.ownsRow B 3 1 (.slice (some ⟨g, 0, none⟩) 0 c) 0 [] := by
  rcases h.2 with ⟨h1, _⟩ | ⟨g', c', cur, hv, hb, hg, hnc, hcm, hcs, _⟩
  · simp at h1
  · simp only [Value.slice.injEq, Option.some.injEq, Addr.mk.injEq, and_true, true_and] at hv
    obtain ⟨rfl, rfl⟩ := hv
    exact ⟨by simp, .inr ⟨g, c, cur, rfl, hb, hg, Nat.zero_le _, hcm, hcs, by simp⟩⟩
section
variable {hb : Nat} {vg vw vr vr' : Value} {E K : List El} {X : Nat → List Int}
theorem Hs.room {P : Nat → Prop} (h : Hs w B hb vg vw vr E K X) (k : Kept w w' P) (hp : ∀ j, hown hb vg vw vr E K j → P j → j = hb ∨ vr.ownBlock = some j) (b' : w'.heap[hb]? = some (.cells #[vg, vw, .slice none 0 0, vr'] 55 (0, 0))) (hr : w'.ownsRow B 3 1 vr' 0 []) (hv : ∀ g, vr'.ownBlock = some g → vr.ownBlock = some g ∨ w.heap.size ≤ g) : Hs w' B hb vg vw vr' E K X := by
  have hty : ∀ q cur t, w.heap[q]? = some (.cells cur t (0, 0)) → t ≠ 55 → t ≠ 3 → ¬ (q = hb ∨ vr.ownBlock = some q) := fun q cur t hq h1 h2 e => by
    rcases e with e | e
    · exact ty_ne hq h.blk h1 e
    · obtain ⟨c, hc⟩ := own_typeT h.rr e; exact ty_ne hq hc h2 rfl
  have hI : ∀ q cur, w.heap[q]? = some (.cells cur 3 (0, 0)) → q ≠ hb := fun q cur hq e => ty_ne hq h.blk (by decide) e
  refine ⟨b', ⟨k.owns h.al.row (fun j hj e => ?_), fun i hi => k.owns (h.al.el i hi) (fun j hj e => ?_), h.al.ap⟩, h.kl, k.owns h.kr (fun j hj e => ?_), fun i hi => k.owns (h.ke i hi) (fun j hj e => ?_), h.sm, hr, h.gw, h.ek, fun e he j hj hj2 => ?_, fun e he j hj hj2 => ?_, h.hB.1, Nat.le_trans h.hB.2 k.size⟩
  · obtain ⟨c, hc⟩ := own_typeT h.al.row hj
    exact hty j c _ hc (by decide) (by decide) (hp j (.inr (.inl hj)) e)
  · have hm := mem_getD hi
    rcases hp j (.inr (.inr (.inr (.inr (.inl ⟨_, hm, hj⟩))))) e with e2 | e2
    · obtain ⟨c, hc⟩ := own_typeT (h.al.el i hi) hj; exact hI j c hc e2
    · exact h.er _ hm j e2 hj
  · obtain ⟨c, hc⟩ := own_typeT h.kr hj
    exact hty j c _ hc (by decide) (by decide) (hp j (.inr (.inr (.inl hj))) e)
  · have hm : K.getD i el0 ∈ K := mem_getD (by rw [h.kl]; exact hi)
    rcases hp j (.inr (.inr (.inr (.inr (.inr ⟨_, hm, hj⟩))))) e with e2 | e2
    · obtain ⟨c, hc⟩ := own_typeT (h.ke i hi) hj; exact hI j c hc e2
    · exact h.rk _ hm j e2 hj
  · rcases hv j hj with e2 | e2
    · exact h.er e he j e2 hj2
    · have := h.lt (.inr (.inr (.inr (.inr (.inl ⟨e, he, hj2⟩))))); omega
  · rcases hv j hj with e2 | e2
    · exact h.rk e he j e2 hj2
    · have := h.lt (.inr (.inr (.inr (.inr (.inr ⟨e, he, hj2⟩))))); omega
end
end
end Go.Proofs.Ytfbollifegngjaa.Dt
