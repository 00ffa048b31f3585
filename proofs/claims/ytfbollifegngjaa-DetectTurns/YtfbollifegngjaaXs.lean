import Derived.Test.YtfbollifegngjaaXe
import Derived.Test.YtfbollifegngjaaWp
import Derived.Test.YtfbollifegngjaaXh
import Derived.Maps.AppendAt
import Derived.Laws.OwnMore
import Derived.Deep.AppendLies
namespace Go.Proofs.Ytfbollifegngjaa.Dt
open Go.RowKit
set_option linter.unusedVariables false
set_option maxRecDepth 100000
set_option linter.unusedSimpArgs false
section
variable {w w' W : World} {B : Nat}
structure El where
  a : Option Addr
  n : Nat
  c : Nat
def El.v (e : El) : Value := .slice e.a e.n e.c
def el0 : El := ⟨none, 0, 0⟩
def El.b (e : El) : Option Nat := e.v.ownBlock
def Ap (E : List El) : Prop := E.Pairwise (fun a b => a.b = b.b → a.b = none)
theorem ap_snoc {E : List El} {x : El} (h : Ap E) (h1 : ∀ e ∈ E, ∀ g, e.b = some g → x.b ≠ some g) : Ap (E ++ [x]) := by
  refine List.pairwise_append.2 ⟨h, List.pairwise_singleton _ _, fun a ha b hb e => ?_⟩
  simp only [List.mem_singleton] at hb
  subst hb
  cases hx : a.b with
  | none => rfl
  | some g => exact absurd (e ▸ hx) (h1 a ha g hx)
theorem own_typeT {t s n : Nat} {v : Value} {l : List Value} {g : Nat} (h : w.ownsRow B t s v n l) (hg : v.ownBlock = some g) : ∃ cur, w.heap[g]? = some (.cells cur t (0, 0)) := by
  rcases h.2 with ⟨h1, h2⟩ | ⟨g', cap, cur, hv, hB, hh, _⟩
  · rw [h1] at hg; cases hg
  · rw [hv] at hg
    simp only [Value.ownBlock, Option.some.injEq] at hg
    exact ⟨cur, hg ▸ hh⟩
theorem own_keepT {P : Nat → Prop} {t s n : Nat} {v : Value} {l : List Value} (h : w.ownsRow B t s v n l) (k : Kept w w' P) (hp : ∀ g cur, w.heap[g]? = some (.cells cur t (0, 0)) → ¬ P g) : w'.ownsRow B t s v n l :=
  k.owns h fun g hg => by
    obtain ⟨cur, hc⟩ := own_typeT h hg
    exact hp g cur hc
theorem own_some {B t s n : Nat} {v : Value} {l : List Value} (h : w.ownsRow B t s v n l) (hn : n ≠ 0) : ∃ g c, v = .slice (some ⟨g, 0, none⟩) n c := by
  rcases h.2 with ⟨h1, h2⟩ | ⟨g, cap, cur, hv, _⟩
  · exact absurd h2 hn
  · exact ⟨g, cap, hv⟩
theorem info_is : (Try.prog.info? 25).map (fun i => (i.zero, i.size, i.bytes)) = some (some (.slice none 0 0), 1, 24) := by kernel_rfl
theorem own_cut {t n m c g : Nat} {xs ys : List Value} (h : w.ownsRow B t 1 (.slice (some ⟨g, 0, none⟩) (n + m) c) (n + m) (xs ++ ys)) (hx : xs.length = n) : w.ownsRow B t 1 (.slice (some ⟨g, 0, none⟩) n c) n xs := by
  rcases h.2 with ⟨h1, h2⟩ | ⟨g', cap, cur, hv, hB, hg, hnc, hcm, hcs, htk⟩
  · cases h1
  · simp only [Value.slice.injEq, Option.some.injEq, Addr.mk.injEq] at hv
    obtain ⟨⟨rfl, -⟩, -, rfl⟩ := hv
    refine ⟨by omega, .inr ⟨g, c, cur, rfl, hB, hg, by omega, hcm, hcs, ?_⟩⟩
    have h3 := congrArg (List.take n) htk
    rw [List.take_take, show min n ((n + m) * 1) = n by omega, ← hx, List.take_left] at h3
    rw [Nat.mul_one, ← hx]
    exact h3
theorem run_app_keep {P : Program} (base : Nat) (t ty e : TypeId) (i : TypeInfo) (z : Value) (bytes : Nat) (ht : P.underlying t = some (.slice e)) (hi : P.info? e = some i) (hz : i.zero = some z)
    (hsize : i.size = 1) (hby : i.bytes = bytes) (hzs : z.cells.size = 1)
    (v : Value) (n : Nat) (xs : List Value) (hown : w.ownsRow base e 1 v n xs)
    (a : Addr) (m c : Nat) (news : List Value) (hl : news.length = m * 1) (hnews : ∀ j u, news[j]? = some u → w.cell? (a.add j) = some u) (h1 : ∀ u ∈ news, u.oneCell' = true)
    (hm : 0 < m) (h63 : n + m ≤ maxLen) (hbytes : (n + m) * bytes ≤ 140737488355328) (hbase : base ≤ w.heap.size) :
    ∃ v' w', (Builtin.append_ #[t, t] ty #[v, .slice (some a) m c]).run P w = .ok v' w' ∧ w'.ownsRow base e 1 v' (n + m) (xs ++ news) ∧ w.grownBy w' v.ownBlock ∧ ((∃ g cap, v = .slice (some ⟨g, 0, none⟩) n cap ∧ v' = .slice (some ⟨g, 0, none⟩) (n + m) cap) ∨ v'.ownBlock = some w.heap.size) ∧ w'.ownsRow base e 1 v n xs := by
  obtain ⟨v', w', hr, h2, h3, _, h5⟩ := run_append_own_at (P := P) w base t ty e i z 1 bytes ht hi hz hsize hby hzs (by decide) v n xs hown a m c news hl hnews h1 h63 hbytes hbase
  refine ⟨v', w', hr, h2, h3, ?_⟩
  have hx : xs.length = n := by have := hown.1; omega
  have hown2 := hown
  rcases hown.2 with ⟨rfl, rfl⟩ | ⟨g, cap, cur, rfl, hbg, hg, hnc, hcm, hcs, htake⟩
  · refine ⟨.inr ?_, hown.1, .inl ⟨rfl, rfl⟩⟩
    rcases h5 with h5 | h5
    · rcases h2.2 with ⟨_, h6⟩ | ⟨g, cap, cur, rfl, _⟩
      · omega
      · cases h5
    · exact h5
  · by_cases hroom : n + m ≤ cap
    · obtain ⟨w2, hr2, h6, h7⟩ := run_append_fits (P := P) w base t ty e i 1 ht hi hsize g n cap xs hown2 a m c news hl hnews h1 hroom
      rw [hr] at hr2
      simp only [Result.ok.injEq] at hr2
      obtain ⟨rfl, rfl⟩ := hr2
      exact ⟨.inl ⟨g, cap, rfl, rfl⟩, own_cut h6 hx⟩
    · have hr2 := run_append_grow (P := P) w t ty e i z ht hi hz ⟨g, 0, none⟩ n cap xs (by rw [hsize]; exact hown.1) (hown.cells (g := g) rfl) a m c news (by rw [hsize]; exact hl) hnews (by omega) (by simp only [maxLen] at h63; omega) (by rw [hby]; exact growslice_fits (by omega) hbytes)
      rw [hr] at hr2
      simp only [Result.ok.injEq] at hr2
      obtain ⟨rfl, rfl⟩ := hr2
      refine ⟨.inr rfl, hown.1, .inr ⟨g, cap, cur, rfl, hbg, ?_, hnc, hcm, hcs, htake⟩⟩
      have hlt : g < w.drew.heap.size := (Array.getElem?_eq_some_iff.1 hg).1
      exact (heap_alloc_old w.drew _ hlt).trans hg
theorem wpList_app_keep {P : Program} {ops : Array Oper} {rest : List Oper} {o : Oper} {a : Act} {Q : Exit → Act → World → Prop} (hgd : o.guard = none) (s x : Operand) (t : TypeId)
    (ho : o.op = .call { callee := .builtin .append, args := #[s, x], argTypes := #[t, t] })
    (base : Nat) (e : TypeId) (i : TypeInfo) (z : Value) (bytes : Nat) (ht : P.underlying t = some (.slice e)) (hi : P.info? e = some i) (hz : i.zero = some z)
    (hsize : i.size = 1) (hby : i.bytes = bytes) (hzs : z.cells.size = 1)
    (v : Value) (n : Nat) (xs : List Value) (hs : a.eval s = v) (hown : w.ownsRow base e 1 v n xs)
    (ad : Addr) (m c : Nat) (news : List Value) (hx : a.eval x = .slice (some ad) m c) (hl : news.length = m * 1) (hnews : ∀ j u, news[j]? = some u → w.cell? (ad.add j) = some u) (h1 : ∀ u ∈ news, u.oneCell' = true)
    (hm : 0 < m) (h63 : n + m ≤ maxLen) (hbytes : (n + m) * bytes ≤ 140737488355328) (hbase : base ≤ w.heap.size)
    (h : ∀ v' w', w'.ownsRow base e 1 v' (n + m) (xs ++ news) → w.grownBy w' v.ownBlock → ((∃ g cap, v = .slice (some ⟨g, 0, none⟩) n cap ∧ v' = .slice (some ⟨g, 0, none⟩) (n + m) cap) ∨ v'.ownBlock = some w.heap.size) → w'.ownsRow base e 1 v n xs → wpList P ops Q rest (a.put o.dst v') w') :
    wpList P ops Q (o :: rest) a w := by
  refine wpList_plain hgd fun K hK => ?_
  obtain ⟨v', w', hr, h2, h3, h4, h5⟩ := run_app_keep (P := P) base t o.type e i z bytes ht hi hz hsize hby hzs v n xs hown ad m c news hl hnews h1 hm h63 hbytes hbase
  unfold Oper.wp execOp
  simp only [ho, resolve, invoke, builtin, Sem.run_bind, Sem.run_pure, Result.andThen_ok, List.map_toArray, List.map_cons, List.map_nil, hs, hx, hr]
  exact hK _ _ (h v' w' h2 h3 h4 h5)
theorem own_set {g m c k : Nat} {ys : List Int} (h : w.ownsRow B 3 1 (.slice (some ⟨g, 0, none⟩) m c) m (ints ys)) (hk : k < m) (x : Int) : (w.setCell ⟨g, k, none⟩ (.int .i64 x)).ownsRow B 3 1 (.slice (some ⟨g, 0, none⟩) m c) m (ints (ys.set k x)) := by
  have hl : ys.length = m := by have := h.1; rw [ints_len] at this; omega
  rcases h.2 with ⟨h1, h2⟩ | ⟨g', cap, cur, hv, hB, hg, hnc, hcm, hcs, htk⟩
  · omega
  · simp only [Value.slice.injEq, Option.some.injEq, Addr.mk.injEq] at hv
    obtain ⟨⟨rfl, -⟩, -, rfl⟩ := hv
    refine ⟨by rw [ints_len, List.length_set]; omega, .inr ⟨g, c, cur.setIfInBounds k (.int .i64 x), rfl, hB, ?_, hnc, hcm, by simpa using hcs, ?_⟩⟩
    · exact blk_set hg rfl
    · rw [Array.toList_setIfInBounds, List.take_set, htk]
      simp [ints, List.map_set]
structure Al (w : World) (B : Nat) (v : Value) (E : List El) (C : Nat → List Int) : Prop where
  row : w.ownsRow B 25 1 v E.length (E.map El.v)
  el : ∀ i, i < E.length → w.ownsRow B 3 1 (E.getD i el0).v (C i).length (ints (C i))
  ap : Ap E
theorem ap_at {E : List El} (h : Ap E) {i j : Nat} (hi : i < E.length) (hj : j < E.length) (hij : i ≠ j) {g : Nat} (h1 : (E.getD i el0).b = some g) : (E.getD j el0).b ≠ some g := fun h2 => by
  have e1 : E.getD i el0 = E[i] := by simp [List.getD, hi]
  have e2 : E.getD j el0 = E[j] := by simp [List.getD, hj]
  rw [e1] at h1
  rw [e2] at h2
  have h3 := List.pairwise_iff_getElem.1 h
  rcases Nat.lt_or_gt_of_ne hij with hl | hl
  · have := h3 i j hi hj hl (by rw [h1, h2])
    rw [h1] at this
    cases this
  · have := h3 j i hj hi hl (by rw [h1, h2])
    rw [h2] at this
    cases this
def upC (C : Nat → List Int) (i : Nat) (l : List Int) : Nat → List Int := fun k => if k = i then l else C k
theorem Al.set {v : Value} {E : List El} {C : Nat → List Int} (h : Al w B v E C) {i k g c : Nat} (hi : i < E.length) (hk : k < (C i).length) (hv : (E.getD i el0).v = .slice (some ⟨g, 0, none⟩) (C i).length c) (x : Int) : Al (w.setCell ⟨g, k, none⟩ (.int .i64 x)) B v E (upC C i ((C i).set k x)) := by
  have hgi : (E.getD i el0).b = some g := by unfold El.b; rw [hv]; rfl
  have hrow := h.el i hi
  rw [hv] at hrow
  obtain ⟨cur, hcur⟩ := own_typeT hrow (g := g) rfl
  have kp : Kept w (w.setCell ⟨g, k, none⟩ (.int .i64 x)) (fun j => j = g) := kset _ _ _ _ (P := fun j => j = g) rfl
  refine ⟨kp.owns h.row (fun q hq e => ?_), fun j hj => ?_, h.ap⟩
  · obtain ⟨c3, h4⟩ := own_typeT h.row hq
    exact ty_ne h4 hcur (by decide) e
  · unfold upC
    by_cases e : j = i
    · subst e
      rw [if_pos rfl, List.length_set, hv]
      exact own_set hrow hk x
    · rw [if_neg e]
      exact kp.owns (h.el j hj) (fun q hq e2 => ap_at h.ap hi hj (Ne.symm e) hgi (by rw [← e2]; exact hq))
structure Gi (w : World) (B n : Nat) (v : Value) (xs : List Int) (y : Int) (j : Nat) (g : Value) (wr : World) : Prop where
  row : wr.ownsRow B 3 1 g (n + j) (ints (xs ++ List.replicate j y))
  old : wr.ownsRow B 3 1 v n (ints xs)
  kp : Kept w wr (fun i => some i = v.ownBlock)
  at_ : (∃ gb c, v = .slice (some ⟨gb, 0, none⟩) n c ∧ g = .slice (some ⟨gb, 0, none⟩) (n + j) c) ∨ (g = .slice none 0 0 ∧ v = .slice none 0 0) ∨ (∃ q, g.ownBlock = some q ∧ w.heap.size ≤ q)
theorem Gi.start {n : Nat} {v : Value} {xs : List Int} {y : Int} (h : w.ownsRow B 3 1 v n (ints xs)) : Gi w B n v xs y 0 v w :=
  ⟨by simpa using h, h, Kept.refl _ _, by
    rcases h.2 with ⟨h1, h2⟩ | ⟨g, cap, cur, hv, _⟩
    · exact .inr (.inl ⟨h1, h1⟩)
    · exact .inl ⟨g, cap, hv, hv⟩⟩
theorem Gi.still {n j : Nat} {v g : Value} {xs : List Int} {y : Int} {wr X2 : World} (h : Gi w B n v xs y j g wr) (hb : Below wr.heap.size wr X2) : Gi w B n v xs y j g X2 :=
  ⟨own_still h.row hb, own_still h.old hb, h.kp.trans (Kept.ofBelow hb _), h.at_⟩
theorem Gi.next {n j : Nat} {v g g' : Value} {xs : List Int} {y : Int} {wr w2 : World} (h : Gi w B n v xs y j g wr)
    (h1 : w2.ownsRow B 3 1 g' (n + j + 1) (ints (xs ++ List.replicate j y) ++ ints [y])) (h2 : wr.grownBy w2 g.ownBlock) (h3 : (∃ gb c, g = .slice (some ⟨gb, 0, none⟩) (n + j) c ∧ g' = .slice (some ⟨gb, 0, none⟩) (n + j + 1) c) ∨ g'.ownBlock = some wr.heap.size) (h4 : w2.ownsRow B 3 1 g (n + j) (ints (xs ++ List.replicate j y))) (hx : xs.length = n) (hlt : ∀ q, v.ownBlock = some q → q < w.heap.size) : Gi w B n v xs y (j + 1) g' w2 := by
  have k := Kept.ofGrown h2
  have hkp : Kept w w2 (fun i => some i = v.ownBlock) := h.kp.step k fun q hq => by
    rcases h.at_ with ⟨gb, c, e1, e2⟩ | ⟨e1, e2⟩ | ⟨q2, e1, e2⟩
    · rw [e2] at hq; rw [e1]; exact .inl hq
    · rw [e1] at hq; cases hq
    · rw [e1] at hq
      simp only [Option.some.injEq] at hq
      exact .inr (by omega)
  have hsz := h.kp.size
  have e0 : ints (xs ++ List.replicate j y) ++ ints [y] = ints (xs ++ List.replicate (j + 1) y) := by
    simp [ints, List.replicate_succ']
  rw [e0] at h1
  refine ⟨h1, ?_, hkp, ?_⟩
  · rcases h.at_ with ⟨gb, c, e1, e2⟩ | ⟨e1, e2⟩ | ⟨q2, e1, e2⟩
    · subst e1
      subst e2
      have h5 := h4
      unfold ints at h5
      rw [List.map_append] at h5
      exact own_cut h5 (by rw [ints_len]; exact hx)
    · exact k.owns h.old (fun q hq => by rw [e2] at hq; cases hq)
    · exact k.owns h.old (fun q hq e3 => by
        have := hlt q hq
        rw [e1] at e3
        simp only [Option.some.injEq] at e3
        omega)
  · rcases h3 with ⟨gb, c, e1, e2⟩ | e1
    · rcases h.at_ with ⟨gb', c', e3, e4⟩ | ⟨e3, e4⟩ | ⟨q2, e3, e4⟩
      · rw [e1] at e4
        simp only [Value.slice.injEq, Option.some.injEq, Addr.mk.injEq] at e4
        obtain ⟨⟨rfl, -⟩, -, rfl⟩ := e4
        exact .inl ⟨gb, c, e3, e2⟩
      · rw [e1] at e3; cases e3
      · rw [e1] at e3
        refine .inr (.inr ⟨q2, ?_, e4⟩)
        rw [e2]
        exact e3
    · exact .inr (.inr ⟨_, e1, hsz⟩)
theorem Gi.block {n j : Nat} {v g : Value} {xs : List Int} {y : Int} {wr : World} (h : Gi w B n v xs y j g wr) : ∀ q, g.ownBlock = some q → v.ownBlock = some q ∨ w.heap.size ≤ q := fun q hq => by
  rcases h.at_ with ⟨gb, c, e1, e2⟩ | ⟨e1, e2⟩ | ⟨q2, e1, e2⟩
  · rw [e2] at hq; rw [e1]; exact .inl hq
  · rw [e1] at hq; cases hq
  · rw [e1] at hq
    simp only [Option.some.injEq] at hq
    exact .inr (by omega)
def mkI (i : Nat) : Int := -1000 - (i : Int)
def inE (E : List El) (g : Nat) : Prop := ∃ i, i < E.length ∧ (E.getD i el0).b = some g
structure S1 (w : World) (B : Nat) (v : Value) (E : List El) (ln : Nat → Nat) (k j : Nat) (wr : World) : Prop where
  ex : ∃ C, Al wr B v E C ∧ (∀ i, i < E.length → (C i).length = ln i) ∧ (∀ i, i < k → i < E.length → ∀ q, q < ln i → (C i)[q]? = some (mkI i)) ∧ (∀ q, q < j → q < ln k → (C k)[q]? = some (mkI k))
  kp : Kept w wr (inE E)
theorem S1.start {v : Value} {E : List El} {C : Nat → List Int} (h : Al w B v E C) : S1 w B v E (fun i => (C i).length) 0 0 w :=
  ⟨⟨C, h, fun _ _ => rfl, fun i hi => absurd hi (by omega), fun q hq => absurd hq (by omega)⟩, Kept.refl _ _⟩
theorem S1.row {v : Value} {E : List El} {ln : Nat → Nat} {k j : Nat} {wr : World} (h : S1 w B v E ln k j wr) {i : Nat} (hi : i < E.length) : ∃ ys : List Int, ys.length = ln i ∧ wr.ownsRow B 3 1 (E.getD i el0).v (ln i) (ints ys) := by
  obtain ⟨C, h1, h2, _⟩ := h.ex
  have := h1.el i hi
  rw [h2 i hi] at this
  exact ⟨C i, h2 i hi, this⟩
theorem S1.set {v : Value} {E : List El} {ln : Nat → Nat} {k j g c : Nat} {wr : World} (h : S1 w B v E ln k j wr) (hk : k < E.length) (hj : j < ln k) (hv : (E.getD k el0).v = .slice (some ⟨g, 0, none⟩) (ln k) c) : S1 w B v E ln k (j + 1) (wr.setCell ⟨g, j, none⟩ (.int .i64 (mkI k))) := by
  obtain ⟨C, h1, h2, h3, h4⟩ := h.ex
  have hl := h2 k hk
  refine ⟨⟨upC C k ((C k).set j (mkI k)), h1.set hk (by omega) (by rw [hl]; exact hv) (mkI k), fun i hi => ?_, fun i hi hi2 q hq => ?_, fun q hq hq2 => ?_⟩, ?_⟩
  · unfold upC
    split
    · rename_i e; subst e; rw [List.length_set]; exact hl
    · exact h2 i hi
  · unfold upC
    rw [if_neg (by omega)]
    exact h3 i hi hi2 q hq
  · unfold upC
    rw [if_pos rfl]
    by_cases e : q = j
    · subst e
      rw [List.getElem?_set_self (by omega)]
    · rw [List.getElem?_set_ne (by omega)]
      exact h4 q (by omega) hq2
  · refine h.kp.trans (kset _ _ _ _ ⟨k, hk, ?_⟩)
    unfold El.b
    rw [hv]
    rfl
theorem S1.turn {v : Value} {E : List El} {ln : Nat → Nat} {k j : Nat} {wr : World} (h : S1 w B v E ln k j wr) (hj : ln k ≤ j) : S1 w B v E ln (k + 1) 0 wr := by
  obtain ⟨C, h1, h2, h3, h4⟩ := h.ex
  refine ⟨⟨C, h1, h2, fun i hi hi2 q hq => ?_, fun q hq => absurd hq (by omega)⟩, h.kp⟩
  by_cases e : i = k
  · subst e
    exact h4 q (by omega) hq
  · exact h3 i (by omega) hi2 q hq
def Cm (ln : Nat → Nat) : Nat → List Int := fun i => List.replicate (ln i) (mkI i)
theorem S1.all {v : Value} {E : List El} {ln : Nat → Nat} {k j : Nat} {wr : World} (h : S1 w B v E ln k j wr) (hk : E.length ≤ k) : Al wr B v E (Cm ln) := by
  obtain ⟨C, h1, h2, h3, h4⟩ := h.ex
  refine ⟨h1.row, fun i hi => ?_, h1.ap⟩
  have := h1.el i hi
  have e : C i = Cm ln i := by
    unfold Cm
    refine List.eq_replicate_iff.2 ⟨h2 i hi, fun b hb => ?_⟩
    obtain ⟨q, hq, rfl⟩ := List.mem_iff_getElem.1 hb
    have := h3 i (by omega) hi q (by rw [← h2 i hi]; exact hq)
    rw [List.getElem?_eq_getElem hq] at this
    exact Option.some.inj this
  rw [← e]
  exact this
structure S2 (hb : Nat) (r1 r3 : Value) (w : World) (B : Nat) (v : Value) (E : List El) (ln : Nat → Nat) (k : Nat) (m : Value) (wr : World) : Prop where
  al : Al wr B v E (Cm ln)
  more : ∃ F : List Value, F.length = k ∧ wr.ownsRow w.heap.size 25 1 m k F ∧ ∀ i, i < k → wr.ownsRow B 3 1 (F.getD i undef) (ln i + 64) (ints (List.replicate (ln i + 64) (mkI i))) ∧ ∀ g, (F.getD i undef).ownBlock = some g → (E.getD i el0).b = some g ∨ w.heap.size ≤ g
  kp : Kept w wr (fun q => inE E q ∨ q = hb)
  blk : wr.heap[hb]? = some (.cells #[v, r1, m, r3] 55 (0, 0))
theorem S2.start {hb : Nat} {r1 r3 v : Value} {E : List El} {ln : Nat → Nat} (h : Al w B v E (Cm ln)) (hk : w.heap[hb]? = some (.cells #[v, r1, .slice none 0 0, r3] 55 (0, 0))) : S2 hb r1 r3 w B v E ln 0 (.slice none 0 0) w :=
  ⟨h, ⟨[], rfl, ⟨rfl, .inl ⟨rfl, rfl⟩⟩, fun i hi => absurd hi (by omega)⟩, Kept.refl _ _, hk⟩
theorem S2.still {hb : Nat} {r1 r3 v m : Value} {E : List El} {ln : Nat → Nat} {k : Nat} {wr X : World} (h : S2 hb r1 r3 w B v E ln k m wr) (hbl : Below wr.heap.size wr X) : S2 hb r1 r3 w B v E ln k m X := by
  obtain ⟨F, h1, h2, h3⟩ := h.more
  exact ⟨⟨own_still h.al.row hbl, fun i hi => own_still (h.al.el i hi) hbl, h.al.ap⟩, ⟨F, h1, own_still h2 hbl, fun i hi => ⟨own_still (h3 i hi).1 hbl, (h3 i hi).2⟩⟩, h.kp.trans (Kept.ofBelow hbl _), (hbl.block _ (lt_heap h.blk)).trans h.blk⟩
theorem S2.grow {hb : Nat} {r1 r3 v m g : Value} {E : List El} {ln : Nat → Nat} {k j : Nat} {wr X : World} (h : S2 hb r1 r3 w B v E ln k m wr) (hE : ∀ q, inE E q → q < w.heap.size) (hk : k < E.length) (hk2 : k ≤ E.length) (hg : Gi wr B (ln k) (E.getD k el0).v (Cm ln k) (mkI k) j g X) : S2 hb r1 r3 w B v E ln k m X := by
  obtain ⟨F, h1, h2, h3⟩ := h.more
  have hrow := h.al.el k hk
  have hty : ∀ t cur, t ≠ 3 → ∀ q, wr.heap[q]? = some (.cells cur t (0, 0)) → ¬ some q = (E.getD k el0).v.ownBlock := fun t cur ht q hq e => by
    obtain ⟨c3, h4⟩ := own_typeT hrow e.symm
    exact ty_ne hq h4 ht rfl
  refine ⟨⟨own_keepT h.al.row hg.kp (fun q cur hq => hty _ cur (by decide) q hq), fun i hi => ?_, h.al.ap⟩, ⟨F, h1, own_keepT h2 hg.kp (fun q cur hq => hty _ cur (by decide) q hq), fun i hi => ⟨hg.kp.owns (h3 i hi).1 (fun q hq e => ?_), (h3 i hi).2⟩⟩, h.kp.step hg.kp fun q hq => .inl (.inl ⟨k, hk, hq.symm⟩), hg.kp.obj h.blk (hty _ _ (by decide) hb h.blk)⟩
  · by_cases e : i = k
    · subst e
      have := hg.old
      unfold Cm at this ⊢
      rw [List.length_replicate]
      exact this
    · exact hg.kp.owns (h.al.el i hi) (fun q hq e2 => ap_at h.al.ap hk hi (Ne.symm e) (g := q) e2.symm hq)
  · rcases (h3 i hi).2 q hq with h5 | h5
    · exact ap_at h.al.ap (i := i) (j := k) (by omega) hk (by omega) h5 e.symm
    · have := hE q ⟨k, hk, e.symm⟩
      omega
theorem S2.next {hb : Nat} {r1 r3 v m m' g : Value} {E : List El} {ln : Nat → Nat} {k : Nat} {wr X : World} (F : List Value) (h : S2 hb r1 r3 w B v E ln k m wr) (hF : F.length = k) (hr : wr.ownsRow w.heap.size 25 1 m k F) (hFr : ∀ i, i < k → wr.ownsRow B 3 1 (F.getD i undef) (ln i + 64) (ints (List.replicate (ln i + 64) (mkI i))) ∧ ∀ g, (F.getD i undef).ownBlock = some g → (E.getD i el0).b = some g ∨ w.heap.size ≤ g)
    (hv : ∀ q, v.ownBlock = some q → q < w.heap.size) (hg : wr.ownsRow B 3 1 g (ln k + 64) (ints (List.replicate (ln k + 64) (mkI k)))) (hgb : ∀ q, g.ownBlock = some q → (E.getD k el0).b = some q ∨ w.heap.size ≤ q)
    (h1 : X.ownsRow w.heap.size 25 1 m' (k + 1) (F ++ [g])) (h2 : wr.grownBy X m.ownBlock) : S2 hb r1 r3 w B v E ln (k + 1) m' (X.setCell ⟨hb, 2, none⟩ m') := by
  have kp0 := Kept.ofGrown h2
  have hnh : ¬ some hb = m.ownBlock := fun e => by
    obtain ⟨c3, h4⟩ := own_typeT hr e.symm
    exact ty_ne h.blk h4 (by decide) rfl
  have hX : X.heap[hb]? = some (.cells #[v, r1, m, r3] 55 (0, 0)) := kp0.obj h.blk hnh
  have ks : Kept X (X.setCell ⟨hb, 2, none⟩ m') (fun j => j = hb) := kset _ _ _ _ rfl
  have kp : Kept wr (X.setCell ⟨hb, 2, none⟩ m') (fun q => some q = m.ownBlock ∨ q = hb) := (kp0.mono (fun q _ e => .inl e)).step ks (fun q e => .inl (.inr e))
  have hty : ∀ cur q, wr.heap[q]? = some (.cells cur 3 (0, 0)) → ¬ (some q = m.ownBlock ∨ q = hb) := fun cur q hq e0 => e0.elim (fun e => by
    obtain ⟨c3, h4⟩ := own_typeT hr e.symm
    exact ty_ne hq h4 (by decide) rfl) (fun e => ty_ne hq h.blk (by decide) e)
  have hlo : ∀ q, m.ownBlock = some q → w.heap.size ≤ q := fun q hq => (World.ownsRow.lt hr q hq).1
  refine ⟨⟨kp.owns h.al.row (fun q hq e => ?_), fun i hi => own_keepT (h.al.el i hi) kp (fun q cur hq => hty cur q hq), h.al.ap⟩, ⟨F ++ [g], by simp [hF], ks.owns h1 (fun q hq e => ?_), fun i hi => ?_⟩, h.kp.step kp (fun q hq => hq.elim (fun e => .inr (hlo q e.symm)) (fun e => .inl (.inr e))), blk_set hX rfl⟩
  · rcases e with e | e
    · have := hv q hq
      have := hlo q e.symm
      omega
    · obtain ⟨c3, h4⟩ := own_typeT h.al.row hq
      exact ty_ne h4 h.blk (by decide) e
  · obtain ⟨c3, h4⟩ := own_typeT h1 hq
    exact ty_ne h4 hX (by decide) e
  · by_cases e : i = k
    · subst e
      have e1 : (F ++ [g]).getD i undef = g := by simp [List.getD, hF]
      rw [e1]
      exact ⟨own_keepT hg kp (fun q cur hq => hty cur q hq), hgb⟩
    · have e1 : (F ++ [g]).getD i undef = F.getD i undef := by
        simp only [List.getD]
        rw [List.getElem?_append_left (by omega)]
      rw [e1]
      exact ⟨own_keepT (hFr i (by omega)).1 kp (fun q cur hq => hty cur q hq), (hFr i (by omega)).2⟩
theorem row_at {R : Nat} {a : Option Addr} {n c : Nat} {F : List Value} {t : Nat} (h : w.ownsRow R t 1 (.slice a n c) n F) {i : Nat} (hi : i < n) : ∃ g, a = some ⟨g, 0, none⟩ ∧ w.cell? ⟨g, i, none⟩ = some (F.getD i undef) ∧ w.frozen? ⟨g, i, none⟩ = false := by
  obtain ⟨g, c', e⟩ := own_some h (by omega)
  simp only [Value.slice.injEq] at e
  obtain ⟨rfl, -, rfl⟩ := e
  have hl := h.1
  have h2 := World.ownsRow.cellAt h i (by omega)
  refine ⟨g, rfl, ?_, World.ownsRow.frozenAt h i⟩
  rw [h2]
  simp [List.getD, show i < F.length by omega]
theorem getD_v {E : List El} {i : Nat} (hi : i < E.length) : (E.map El.v).getD i undef = (E.getD i el0).v := by simp [List.getD, hi]
theorem ints_getD {ys : List Int} {i : Nat} (hi : i < ys.length) : (ints ys).getD i undef = .int .i64 (ys.getD i 0) := by simp [ints, List.getD, hi]
theorem mk_num (k : Nat) (hk : k ≤ 1000000) : IntKind.i64.wrap (-1000 - (k : Int)) = mkI k := by
  rw [IntKind.wrap_i64]
  unfold mkI
  omega
end
end Go.Proofs.Ytfbollifegngjaa.Dt
