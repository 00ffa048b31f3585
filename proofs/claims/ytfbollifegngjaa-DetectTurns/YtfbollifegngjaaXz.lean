import Derived.Test.YtfbollifegngjaaXya
import Derived.Test.YtfbollifegngjaaXyb
import Derived.Test.YtfbollifegngjaaXyc
namespace Go.Proofs.Ytfbollifegngjaa.Dt
open Go.RowKit
set_option linter.unusedVariables false
set_option maxRecDepth 100000
set_option linter.unusedSimpArgs false
section
variable {D D' C : De} {R R' M : Rf} {w w' W V : World} {B m : Nat}
section
variable {hb : Nat} {vg vw vr : Value} {E K : List El} {X : Nat → List Int}
theorem held_h (z : Hz w B hb m D R vg vw vr E K X) (hm : m ≤ 1000000) (hE : E.length ≤ 9000) (o : Opx) (hro : ∀ w', Below B w w' → RdI w' o.ha o.hn o.hs) (hn43 : o.hn ≤ 17592186043904) : Calls Try.prog 16 #[.pointer (some ⟨hb, 0, none⟩), .pointer (some ⟨D.b, 0, none⟩), .pointer (some ⟨R.b, 0, none⟩), .agg o.cs] w fun e w' => e = .returned (.bool true) ∧ Hzo w w' B hb (m + 1) D R vg vw vr E K 2 := by
  by_cases h2 : o.k = 2
  · exact held_a z hm hE o h2 hro hn43
  · by_cases h4 : 4 ≤ o.k ∧ o.k ≤ 7
    · exact held_b z hm hE o h4.1 h4.2 hro hn43
    · exact held_c z hm hE o h2 (by omega) hro hn43
structure Tz (w : World) (B hb m : Nat) (D : De) (R : Rf) (C : De) (M : Rf) (vg vw vr : Value) (E K : List El) (X : Nat → List Int) : Prop where
  z : Hz w B hb m D R vg vw vr E K X
  c : Du C M w B m
  ap : ∀ j, C.own j ∨ M.own j → ¬ (D.own j ∨ R.own j ∨ hown hb vg vw vr E K j)
def Tx (w : World) (B hb m d r c n L : Nat) : Prop := ∃ D R C M vg vw vr E K X, Tz w B hb m D R C M vg vw vr E K X ∧ D.b = d ∧ R.b = r ∧ C.b = c ∧ M.b = n ∧ E.length ≤ L
theorem Tx.swap {d r c n L : Nat} (t : Tx w B hb m d r c n L) : Tx w B hb m c n d r L := by
  obtain ⟨D, R, C, M, vg, vw, vr, E, K, X, t, e1, e2, e3, e4, l⟩ := t
  exact ⟨C, M, D, R, vg, vw, vr, E, K, X, ⟨⟨t.z.h, t.c, fun j hj e => t.ap j e (.inr (.inr hj))⟩, t.z.du, fun j hj e => by
    rcases e with e | e | e
    · exact t.ap j (.inl e) (hj.elim .inl (fun h => .inr (.inl h)))
    · exact t.ap j (.inr e) (hj.elim .inl (fun h => .inr (.inl h)))
    · exact t.z.ap j e hj⟩, e3, e4, e1, e2, l⟩
theorem Tx.more {d r c n L m' L' : Nat} (t : Tx w B hb m d r c n L) (hm : m ≤ m') (h62 : m' ≤ 4611686018427387904) (hL : L ≤ L') : Tx w B hb m' d r c n L' := by
  obtain ⟨D, R, C, M, vg, vw, vr, E, K, X, t, e1, e2, e3, e4, l⟩ := t
  exact ⟨D, R, C, M, vg, vw, vr, E, K, X, ⟨⟨t.z.h, t.z.du.upTo hm h62, t.z.ap⟩, t.c.upTo hm h62, t.ap⟩, e1, e2, e3, e4, Nat.le_trans l hL⟩
theorem Tx.still {d r c n L : Nat} (t : Tx w B hb m d r c n L) (b : Below w.heap.size w w') : Tx w' B hb m d r c n L := by
  obtain ⟨D, R, C, M, vg, vw, vr, E, K, X, t, e⟩ := t
  exact ⟨D, R, C, M, vg, vw, vr, E, K, X, ⟨t.z.still b, t.c.still b, t.ap⟩, e⟩
theorem held_t {d r c n L : Nat} (t : Tx w B hb m d r c n L) (hm : m ≤ 1000) (hL : L ≤ 5000) (o : Opx) (hro : ∀ w', Below B w w' → RdI w' o.ha o.hn o.hs) (hn43 : o.hn ≤ 17592186043904) : Calls Try.prog 16 #[.pointer (some ⟨hb, 0, none⟩), .pointer (some ⟨d, 0, none⟩), .pointer (some ⟨r, 0, none⟩), .agg o.cs] w fun e w' => e = .returned (.bool true) ∧ Tx w' B hb (m + 1) d r c n (L + 2) ∧ Below B w w' := by
  obtain ⟨D, R, C, M, vg, vw, vr, E, K, X, t, rfl, rfl, e3, e4, l⟩ := t
  refine (held_h t.z (by omega) (by omega) o hro hn43).mono ?_
  rintro e w' ⟨rfl, D', R', vg', vw', vr', E', K', X', z', k, s, l', d', r'⟩
  have hal : ∀ j, (C.own j ∨ M.own j) → ¬ (D.own j ∨ R.own j ∨ hown hb vg vw vr E K j) := t.ap
  refine ⟨rfl, ⟨D', R', C, M, vg', vw', vr', E', K', X', ⟨z', ?_, fun j hj e => ?_⟩, d', r', e3, e4, by omega⟩, k.below t.z.du.hB (fun j hj e => ?_)⟩
  · have c' : Du C M w' B m := ⟨t.c.d.keep k (fun j hj => hal j (.inl hj)), t.c.r.keep k (fun j hj => hal j (.inr hj)), t.c.ap, t.c.sim, t.c.len⟩
    exact c'.upTo (Nat.le_succ _) (by omega)
  · have hlt : j < w.heap.size := hj.elim (fun e => t.c.d.ltOwn e) (fun e => t.c.r.ltOwn e)
    rcases s j e with e | e | e | e
    · exact hal j hj (.inl e)
    · exact hal j hj (.inr (.inl e))
    · exact hal j hj (.inr (.inr e))
    · omega
  · rcases e with e | e | e
    · have := t.z.du.d.geOwn e; omega
    · have := t.z.du.r.geOwn e; omega
    · have := t.z.h.ge e; omega
theorem alone_t {d r c n L : Nat} (t : Tx w B hb m d r c n L) (hL : L ≤ 5000) : Calls Try.prog 17 #[.pointer (some ⟨hb, 0, none⟩)] w fun e w' => e = .returned (.bool true) ∧ Below B w w' ∧ ∃ D R C M, Du D R w' B m ∧ Du C M w' B m ∧ D.b = d ∧ R.b = r ∧ C.b = c ∧ M.b = n := by
  obtain ⟨D, R, C, M, vg, vw, vr, E, K, X, t, e1, e2, e3, e4, l⟩ := t
  refine (alone_h t.z.h (by omega)).mono ?_
  rintro e w' ⟨rfl, k⟩
  have hin : ∀ j, (inE E j ∨ j = hb) → hown hb vg vw vr E K j := fun j e => by
    rcases e with ⟨i, hi, e⟩ | e
    · exact .inr (.inr (.inr (.inr (.inl ⟨_, mem_getD hi, e⟩))))
    · exact .inl e
  have a := t.z.du
  have b := t.c
  exact ⟨rfl, k.below a.hB (fun j hj e => by have := t.z.h.ge (hin j e); omega), D, R, C, M, ⟨a.d.keep k (fun j hj e => t.z.ap j (hin j e) (.inl hj)), a.r.keep k (fun j hj e => t.z.ap j (hin j e) (.inr hj)), a.ap, a.sim, a.len⟩, ⟨b.d.keep k (fun j hj e => t.ap j (.inl hj) (.inr (.inr (hin j e)))), b.r.keep k (fun j hj e => t.ap j (.inr hj) (.inr (.inr (hin j e)))), b.ap, b.sim, b.len⟩, e1, e2, e3, e4⟩
theorem Hs.start (hb : Nat) (h : w.heap[hb]? = some (.cells #[.slice none 0 0, .slice none 0 0, .slice none 0 0, .slice none 0 0] 55 (0, 0))) (hB : B ≤ hb) : Hs w B hb (.slice none 0 0) (.slice none 0 0) (.slice none 0 0) [] [] (fun _ => []) := by
  have hn : ∀ t, w.ownsRow B t 1 (.slice none 0 0) 0 [] := fun t => ⟨by simp, .inl ⟨rfl, rfl⟩⟩
  refine ⟨h, ⟨hn _, fun i hi => absurd hi (by simp), List.Pairwise.nil⟩, rfl, hn _, fun i hi => absurd hi (by simp), fun i hi => absurd hi (by simp), hn _, (fun j hj => by cases hj), (fun e he => by cases he), (fun e he => by cases he), (fun e he => by cases he), hB, ?_⟩
  have := lt_heap h
  omega
theorem Tx.start {w1 w2 : World} (a : Du D R w1 B 0) (b : Below w1.heap.size w1 w2) (c : Du C M w2 w1.heap.size 0) : Tx (w2.alloc (.cells #[.slice none 0 0, .slice none 0 0, .slice none 0 0, .slice none 0 0] 55)) B w2.heap.size 0 D.b R.b C.b M.b 0 := by
  have hbA : Below w2.heap.size w2 (w2.alloc (.cells #[.slice none 0 0, .slice none 0 0, .slice none 0 0, .slice none 0 0] 55)) := balloc (Below.refl _ w2)
  have b1 := b.size
  have hB1 := a.hB
  have hN : ∀ j, hown w2.heap.size (.slice none 0 0) (.slice none 0 0) (.slice none 0 0) [] [] j → j = w2.heap.size := fun j hj => by
    rcases hj with hj | hj | hj | hj | ⟨e, he, _⟩ | ⟨e, he, _⟩
    · exact hj
    · cases hj
    · cases hj
    · cases hj
    · cases he
    · cases he
  have aA := (a.still b).still hbA
  have cA := c.still hbA
  have cL : Du C M (w2.alloc (.cells #[.slice none 0 0, .slice none 0 0, .slice none 0 0, .slice none 0 0] 55)) B 0 := ⟨cA.d.lower hB1, ⟨cA.r.blk, own_lower cA.r.row hB1, Nat.le_trans hB1 cA.r.ge, cA.r.num⟩, cA.ap, cA.sim, cA.len⟩
  refine ⟨D, R, C, M, _, _, _, [], [], _, ⟨⟨Hs.start w2.heap.size (heap_alloc_new w2 _) (by omega), aA, fun j hj e => ?_⟩, cL, fun j hj e => ?_⟩, rfl, rfl, rfl, rfl, Nat.le_refl _⟩
  · have hj := hN j hj
    have : j < w1.heap.size := e.elim (fun e => a.d.ltOwn e) (fun e => a.r.ltOwn e)
    omega
  · have h1 : w1.heap.size ≤ j ∧ j < w2.heap.size := hj.elim (fun e => ⟨c.d.geOwn e, c.d.ltOwn e⟩) (fun e => ⟨c.r.geOwn e, c.r.ltOwn e⟩)
    rcases e with e | e | e
    · have := a.d.ltOwn e; omega
    · have := a.r.ltOwn e; omega
    · have := hN j e; omega
theorem made_any (n s inc base step lim : Int) (oa : Option Addr) (on oc : Nat) : Calls Try.prog 15 #[.agg (rc n s inc base step lim oa on oc)] w fun e w' => ∃ p q, e = .returned (.tuple #[.pointer p, .pointer q, .bool true]) ∧ Below w.heap.size w w' := by
  cases hok : newOk n s inc base step lim with
  | false => exact (made_no n s inc base step lim oa on oc hok).mono fun e w' ⟨e1, e2⟩ => ⟨_, _, e1, e2⟩
  | true =>
    have hk := hok
    unfold newOk at hk
    simp only [Bool.and_eq_true] at hk
    obtain ⟨b1, b2, _⟩ := hk
    have a1 := of_decide_eq_true b1
    have a2 := of_decide_eq_true b2
    obtain ⟨k, rfl⟩ : ∃ k : Nat, n = k := ⟨n.toNat, by omega⟩
    obtain ⟨t, rfl⟩ : ∃ t : Nat, s = t := ⟨s.toNat, by omega⟩
    exact (made_ok k t inc base step lim oa on oc hok).mono fun e w' ⟨D, R, e1, e2, _⟩ => ⟨_, _, e1, e2⟩
end
end
end Go.Proofs.Ytfbollifegngjaa.Dt
