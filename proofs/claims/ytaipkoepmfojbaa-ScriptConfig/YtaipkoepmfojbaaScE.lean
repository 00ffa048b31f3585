import Derived.Test.YtaipkoepmfojbaaScD
import Derived.Test.YtaipkoepmfojbaaRows
import Derived.SizedLaws
import Derived.WalkKit
import Derived.ProofKit
import Derived.OpenShut
import Derived.ShutString
import Derived.ChangeOld
import Derived.Below
import Derived.WalkSmall
import Derived.Deep.RegionHeld3
import Derived.Deep.RegionHeldLaw
import Derived.Deep.RegionLaw
import Derived.Deep.DrawnRows
namespace Go.Proofs.Ytaipkoepmfojbaa.Lo
open Go.RowKit
set_option linter.unusedVariables false
set_option linter.unusedSimpArgs false

theorem step_append_rd {P : Program} (w : World) {ops : Array Oper} {o : Oper} {a : Act} {K : Act → World → Prop} {Q : Exit → Act → World → Prop} {E : Prop} (hgd : o.guard = none) (s x : Operand) (t : TypeId)
    (ho : o.op = .call { callee := .builtin .append, args := #[s, x], argTypes := #[t, t] })
    (base : Nat) (e : TypeId) (i : TypeInfo) (z : Value) (bytes : Nat) (ht : P.underlying t = some (.slice e)) (hi : P.info? e = some i) (hz : i.zero = some z)
    (hsize : i.size = 1) (hby : i.bytes = bytes) (hzs : z.cells.size = 1)
    (v : Value) (n : Nat) (xs : List Value) (hs : a.eval s = v) (hown : w.ownsRow base e 1 v n xs)
    (ao : Option Addr) (m c : Nat) (news : List Value) (hx : a.eval x = .slice ao m c) (hnone : ao = none → m = 0 ∧ c = 0) (hl : news.length = m) (hnews : ∀ ad, ao = some ad → ∀ j u, news[j]? = some u → w.cell? (ad.add j) = some u) (h1 : ∀ u ∈ news, u.oneCell' = true)
    (h63 : n + m ≤ maxLen) (hbytes : (n + m) * bytes ≤ 140737488355328) (hbase : base ≤ w.heap.size)
    (h : ∀ (a1 : Option Addr) (c1 : Nat) (w' : World), w'.ownsRow base e 1 (.slice a1 (n + m) c1) (n + m) (xs ++ news) → w.grownBy w' v.ownBlock → K (a.put o.dst (.slice a1 (n + m) c1)) w') :
    if Region.wanted o (yielded ops a.tmps) = true then Oper.wp P o a w K Q else E := by
  have hw : Region.wanted o (yielded ops a.tmps) = true := by simp [Region.wanted, hgd]
  rw [if_pos hw]
  have sh : ∀ (v' : Value) (w' : World), w'.ownsRow base e 1 v' (n + m) (xs ++ news) → ∃ a1 c1, v' = Value.slice a1 (n + m) c1 := by
    intro v' w' h2
    rcases h2.2 with ⟨h3, h4⟩ | ⟨g, cap, cur, hv, _⟩
    · exact ⟨none, 0, by rw [h4]; exact h3⟩
    · exact ⟨_, _, hv⟩
  cases ao with
  | some ad =>
    refine wp_append_own w s x t ho base e i z 1 bytes ht hi hz hsize hby hzs (by decide) v n xs hs hown ad m c news hx (by omega) (hnews ad rfl) h1 h63 hbytes hbase fun v' w' h2 h3 _ => ?_
    obtain ⟨a1, c1, rfl⟩ := sh v' w' h2
    exact h a1 c1 w' h2 h3
  | none =>
    obtain ⟨rfl, rfl⟩ := hnone rfl
    obtain rfl : news = [] := List.eq_nil_of_length_eq_zero hl
    have hrun := run_append_owned_none (P := P) (w := w) base t o.type e i 1 ht hi v n xs hown
    have h2 : w.ownsRow base e 1 v (n + 0) (xs ++ []) := by simpa using hown
    obtain ⟨a1, c1, hv⟩ := sh v w h2
    have hK := h a1 c1 w (by rw [← hv]; exact h2) (World.grownBy.refl _ _)
    rw [← hv] at hK
    unfold Oper.wp
    simp [execOp, ho, resolve, invoke, builtin, hs, hx, hrun, Result.andThen]
    exact hK

theorem step_copy_rd {P : Program} (w : World) {ops : Array Oper} {o : Oper} {a : Act} {K : Act → World → Prop} {Q : Exit → Act → World → Prop} {E : Prop} (hgd : o.guard = none) (s x : Operand) (t : TypeId)
    (ho : o.op = .call { callee := .builtin .append, args := #[s, x], argTypes := #[t, t] })
    (base : Nat) (e : TypeId) (i : TypeInfo) (z : Value) (bytes : Nat) (ht : P.underlying t = some (.slice e)) (hi : P.info? e = some i) (hz : i.zero = some z)
    (hsize : i.size = 1) (hby : i.bytes = bytes) (hzs : z.cells.size = 1)
    (v : Value) (hs : a.eval s = v) (hown : w.ownsRow base e 1 v 0 [])
    (ao : Option Addr) (m c : Nat) (news : List Value) (hx : a.eval x = .slice ao m c) (hnone : ao = none → m = 0 ∧ c = 0) (hl : news.length = m) (hnews : ∀ ad, ao = some ad → ∀ j u, news[j]? = some u → w.cell? (ad.add j) = some u) (h1 : ∀ u ∈ news, u.oneCell' = true)
    (h63 : m ≤ maxLen) (hbytes : m * bytes ≤ 140737488355328) (hbase : base ≤ w.heap.size)
    (h : ∀ (a1 : Option Addr) (c1 : Nat) (w' : World), w'.ownsRow base e 1 (.slice a1 m c1) m news → w.grownBy w' v.ownBlock → K (a.put o.dst (.slice a1 m c1)) w') :
    if Region.wanted o (yielded ops a.tmps) = true then Oper.wp P o a w K Q else E := by
  refine step_append_rd w hgd s x t ho base e i z bytes ht hi hz hsize hby hzs v 0 [] hs hown ao m c news hx hnone hl hnews h1 (by omega) (by simpa using hbytes) hbase fun a1 c1 w' h2 h3 => ?_
  simp only [Nat.zero_add, List.nil_append] at h2 ⊢
  exact h a1 c1 w' h2 h3

theorem ints_oneCell (xs : List Int) : ∀ u ∈ xs.map (Value.int .i64), u.oneCell' = true := by
  intro u hu
  obtain ⟨_, _, rfl⟩ := List.mem_map.1 hu
  rfl

theorem Ri.cells {w w1 : World} {ao : Option Addr} {len cap : Nat} {bs : List Int} (h : Ri w ao len cap bs) (hbel : Below w.heap.size w w1) (a : Addr) (ha : ao = some a) : ∀ j v, (bs.map (Value.int .i64))[j]? = some v → w1.cell? (a.add j) = some v := by
  intro j v hv
  obtain ⟨hl, _, hc⟩ := h
  have hj : j < len := by have := (List.getElem?_eq_some_iff.1 hv).1; simpa [hl] using this
  rcases hc with h | ⟨b, off, hao, hc⟩
  · omega
  · rw [ha] at hao
    obtain rfl := Option.some.inj hao
    have hcj := hc j hj
    rw [Addr.add_lit, hbel.cell (World.block_lt_of_cell? w _ hcj), hcj]
    have e : (bs.map (Value.int .i64))[j]? = some (.int .i64 (bs.getD j 0)) := by simp [List.getD, show j < bs.length by omega]
    rw [e] at hv
    exact hv

theorem own_emptyI (w : World) : (w.alloc (.cells #[] 3)).ownsRow w.heap.size 3 1 (.slice (some ⟨w.heap.size, 0, none⟩) 0 0) 0 [] :=
  World.ownsRow_made w #[] 0 (Nat.le_refl _) (Nat.zero_le _) rfl

theorem ri_of_own {w : World} {base : Nat} {v : Value} {n : Nat} {xs : List Int} (hn : xs.length = n) (h : w.ownsRow base 3 1 v n (xs.map (Value.int .i64))) : ∃ ao cap, v = .slice ao n cap ∧ Ri w ao n cap xs := by
  rcases h.2 with ⟨h1, h2⟩ | ⟨g, cap', cur, hv, _⟩
  · refine ⟨none, 0, by rw [h2]; exact h1, hn, fun _ => ⟨h2, rfl⟩, .inl h2⟩
  · subst hv
    refine ⟨_, _, rfl, hn, by simp, .inr ⟨g, 0, rfl, fun i hi => ?_⟩⟩
    have := World.ownsRow.cellAt h i (by simp; omega)
    rw [Nat.zero_add, this]
    simp [List.getD, show i < xs.length by omega]

def Cz : Obj := .cells #[.int .i64 0, .int .i64 0, .int .i64 0, .int .i64 0, .int .i64 0, .int .i64 0, .int .i64 0, .slice none 0 0] 24
theorem own_at {W : World} {B : Nat} (h : B ≤ W.heap.size) : (W.alloc (.cells #[] 3)).ownsRow B 3 1 (.slice (some ⟨W.heap.size, 0, none⟩) 0 0) 0 [] :=
  World.ownsRow_made W #[] 0 h (Nat.zero_le _) rfl

theorem own_drew {W : World} {B n m : Nat} {t : TypeId} {v : Value} {l : List Value} (h : W.ownsRow B t m v n l) : W.drew.ownsRow B t m v n l := h

theorem second {W : World} {o o2 : Obj} : ((W.alloc o).alloc o2).heap[W.heap.size + 1]? = some o2 := by
  have h := heap_alloc_new (W.alloc o) o2
  rwa [World.size_alloc] at h
theorem firstOf {W : World} {o o2 : Obj} : ((W.alloc o).alloc o2).heap[W.heap.size]? = some o :=
  (Below.heap_alloc _ _ _ (by simp)).trans (heap_alloc_new _ _)

theorem own_two {W : World} {o : Obj} : ((W.alloc o).alloc (.cells #[] 3)).ownsRow W.heap.size 3 1 (.slice (some ⟨W.heap.size + 1, 0, none⟩) 0 0) 0 [] := by
  have h := own_at (W := W.alloc o) (B := W.heap.size) (by simp)
  rwa [World.size_alloc] at h
theorem lt_heap {w : World} {b : Nat} {o : Obj} (h : w.heap[b]? = some o) : b < w.heap.size := by
  rcases Array.getElem?_eq_some_iff.1 h with ⟨h, _⟩
  exact h

structure Fin (w F : World) (ib k : Nat) (cI cN : Array Value) (a2 : Option Addr) (n c2 : Nat) (xs : List Int) : Prop where
  i : F.heap[ib]? = some (.cells cI 24 (0, 0))
  k : F.heap[k]? = some (.cells cN 24 (0, 0))
  r : Ri F a2 n c2 xs
  b : Below w.heap.size w F

theorem Fin.still {w F F' : World} {ib k : Nat} {cI cN : Array Value} {a2 : Option Addr} {n c2 : Nat} {xs : List Int} (h : Fin w F ib k cI cN a2 n c2 xs) (hb : Below F.heap.size F F') : Fin w F' ib k cI cN a2 n c2 xs :=
  ⟨(hb.block ib (lt_heap h.i)).trans h.i, (hb.block k (lt_heap h.k)).trans h.k, h.r.below hb, h.b.trans (hb.mono h.b.size)⟩

theorem Fin.drew {w F : World} {ib k : Nat} {cI cN : Array Value} {a2 : Option Addr} {n c2 : Nat} {xs : List Int} (h : Fin w F ib k cI cN a2 n c2 xs) (q : Nat) : Fin w (F.drewN q) ib k cI cN a2 n c2 xs :=
  h.still (below_drewN (Below.refl _ _) q)
theorem Fin.alloc {w w2 : World} {ib n c2 : Nat} {cI cN : Array Value} {a2 : Option Addr} {xs : List Int} (hb : Below w.heap.size w w2) (hi : w2.heap[ib]? = some (.cells cI 24 (0, 0))) (hr : Ri w2 a2 n c2 xs) : Fin w (w2.alloc (.cells cN 24)) ib w2.heap.size cI cN a2 n c2 xs :=
  ⟨(Below.heap_alloc _ _ _ (lt_heap hi)).trans hi, heap_new _ _ _, hr.below ((Below.refl _ _).alloc (Nat.le_refl _) _), hb.alloc hb.size _⟩

theorem Fin.set {w F : World} {ib k n c2 : Nat} {cI cN : Array Value} {a2 : Option Addr} {xs : List Int} (h : Fin w F ib k cI cN a2 n c2 xs) (hne : ib ≠ k) (hwk : w.heap.size ≤ k) (hr : ∀ x, a2 = some x → 0 < n → x.block ≠ k) (i : Nat) (v : Value) : Fin w (F.setCell ⟨k, i, none⟩ v) ib k cI (cN.setIfInBounds i v) a2 n c2 xs := by
  refine ⟨(Below.heap_setCell F ⟨k, i, none⟩ v ib hne).trans h.i, heap_setCell_same F k i cN 24 v h.k, ⟨h.r.1, h.r.2.1, ?_⟩, ?_⟩
  · rcases h.r.2.2 with h0 | ⟨b, off, rfl, hc⟩
    · exact .inl h0
    · refine .inr ⟨b, off, rfl, fun j hj => (World.cell?_setCell_other F ⟨k, i, none⟩ ⟨b, off + j, none⟩ v (fun e => ?_)).trans (hc j hj)⟩
      have := hr ⟨b, off, none⟩ rfl (by omega)
      simp only [Addr.mk.injEq] at e
      exact this (by first | exact e.1 | exact e.1.symm)
  · exact h.b.trans ⟨rfl, rfl, rfl, by simp, fun j hj => Below.heap_setCell F ⟨k, i, none⟩ v j (by show ¬ j = k; omega)⟩

theorem ri_own2 {w : World} {base : Nat} {a2 : Option Addr} {n c2 : Nat} {xs : List Int} (hn : xs.length = n) (h : w.ownsRow base 3 1 (.slice a2 n c2) n (xs.map (Value.int .i64))) : Ri w a2 n c2 xs := by
  obtain ⟨a, c, hv, hr⟩ := ri_of_own hn h
  simp only [Value.slice.injEq, true_and] at hv
  rw [hv.1, hv.2]
  exact hr

theorem row_notK {w2 : World} {B k n c2 : Nat} {a2 : Option Addr} {cs : Array Value} {l : List Value} (ho : w2.ownsRow B 3 1 (.slice a2 n c2) n l) (hk : w2.heap[k]? = some (.cells cs 24 (0, 0))) : ∀ x, a2 = some x → 0 < n → x.block ≠ k := by
  intro x hx hn e
  rcases ho.2 with ⟨_, h2⟩ | ⟨g, cap, cur, hv, _, hg, _⟩
  · omega
  · simp only [Value.slice.injEq] at hv
    rw [hx] at hv
    obtain rfl := Option.some.inj hv.1
    simp only at e
    subst e
    rw [hk] at hg
    simp at hg

theorem fin_set {w w2 : World} {B ib k n c2 : Nat} {cI : Array Value} {a2 : Option Addr} {xs : List Int} {no wi ba st ca ro fl : Int} (hb : Below w.heap.size w w2) (hi : w2.heap[ib]? = some (.cells cI 24 (0, 0))) (hk : w2.heap[k]? = some (.cells #[.int .i64 0, .int .i64 0, .int .i64 0, .int .i64 0, .int .i64 0, .int .i64 0, .int .i64 0, .slice none 0 0] 24 (0, 0))) (hl : xs.length = n) (ho : w2.ownsRow B 3 1 (.slice a2 n c2) n (xs.map (Value.int .i64))) (hne : ib ≠ k) (hwk : w.heap.size ≤ k) (hr : Ri w2 a2 n c2 xs) :
    Fin w ((((((((w2.setCell ⟨k, 0, none⟩ (.int .i64 no)).setCell ⟨k, 1, none⟩ (.int .i64 wi)).setCell ⟨k, 2, none⟩ (.int .i64 ba)).setCell ⟨k, 3, none⟩ (.int .i64 st)).setCell ⟨k, 4, none⟩ (.int .i64 ca)).setCell ⟨k, 5, none⟩ (.int .i64 ro)).setCell ⟨k, 6, none⟩ (.int .i64 fl)).setCell ⟨k, 7, none⟩ (.slice a2 n c2)) ib k cI #[.int .i64 no, .int .i64 wi, .int .i64 ba, .int .i64 st, .int .i64 ca, .int .i64 ro, .int .i64 fl, .slice a2 n c2] a2 n c2 xs :=
  have q := row_notK ho hk
  have h0 : Fin w w2 ib k cI #[.int .i64 0, .int .i64 0, .int .i64 0, .int .i64 0, .int .i64 0, .int .i64 0, .int .i64 0, .slice none 0 0] a2 n c2 xs := ⟨hi, hk, hr, hb⟩
  have h1 : Fin w (w2.setCell ⟨k, 0, none⟩ (.int .i64 no)) ib k cI #[.int .i64 no, .int .i64 0, .int .i64 0, .int .i64 0, .int .i64 0, .int .i64 0, .int .i64 0, .slice none 0 0] a2 n c2 xs := h0.set hne hwk q 0 _
  have h2 : Fin w ((w2.setCell ⟨k, 0, none⟩ (.int .i64 no)).setCell ⟨k, 1, none⟩ (.int .i64 wi)) ib k cI #[.int .i64 no, .int .i64 wi, .int .i64 0, .int .i64 0, .int .i64 0, .int .i64 0, .int .i64 0, .slice none 0 0] a2 n c2 xs := h1.set hne hwk q 1 _
  have h3 : Fin w (((w2.setCell ⟨k, 0, none⟩ (.int .i64 no)).setCell ⟨k, 1, none⟩ (.int .i64 wi)).setCell ⟨k, 2, none⟩ (.int .i64 ba)) ib k cI #[.int .i64 no, .int .i64 wi, .int .i64 ba, .int .i64 0, .int .i64 0, .int .i64 0, .int .i64 0, .slice none 0 0] a2 n c2 xs := h2.set hne hwk q 2 _
  have h4 : Fin w ((((w2.setCell ⟨k, 0, none⟩ (.int .i64 no)).setCell ⟨k, 1, none⟩ (.int .i64 wi)).setCell ⟨k, 2, none⟩ (.int .i64 ba)).setCell ⟨k, 3, none⟩ (.int .i64 st)) ib k cI #[.int .i64 no, .int .i64 wi, .int .i64 ba, .int .i64 st, .int .i64 0, .int .i64 0, .int .i64 0, .slice none 0 0] a2 n c2 xs := h3.set hne hwk q 3 _
  have h5 : Fin w (((((w2.setCell ⟨k, 0, none⟩ (.int .i64 no)).setCell ⟨k, 1, none⟩ (.int .i64 wi)).setCell ⟨k, 2, none⟩ (.int .i64 ba)).setCell ⟨k, 3, none⟩ (.int .i64 st)).setCell ⟨k, 4, none⟩ (.int .i64 ca)) ib k cI #[.int .i64 no, .int .i64 wi, .int .i64 ba, .int .i64 st, .int .i64 ca, .int .i64 0, .int .i64 0, .slice none 0 0] a2 n c2 xs := h4.set hne hwk q 4 _
  have h6 : Fin w ((((((w2.setCell ⟨k, 0, none⟩ (.int .i64 no)).setCell ⟨k, 1, none⟩ (.int .i64 wi)).setCell ⟨k, 2, none⟩ (.int .i64 ba)).setCell ⟨k, 3, none⟩ (.int .i64 st)).setCell ⟨k, 4, none⟩ (.int .i64 ca)).setCell ⟨k, 5, none⟩ (.int .i64 ro)) ib k cI #[.int .i64 no, .int .i64 wi, .int .i64 ba, .int .i64 st, .int .i64 ca, .int .i64 ro, .int .i64 0, .slice none 0 0] a2 n c2 xs := h5.set hne hwk q 5 _
  have h7 : Fin w (((((((w2.setCell ⟨k, 0, none⟩ (.int .i64 no)).setCell ⟨k, 1, none⟩ (.int .i64 wi)).setCell ⟨k, 2, none⟩ (.int .i64 ba)).setCell ⟨k, 3, none⟩ (.int .i64 st)).setCell ⟨k, 4, none⟩ (.int .i64 ca)).setCell ⟨k, 5, none⟩ (.int .i64 ro)).setCell ⟨k, 6, none⟩ (.int .i64 fl)) ib k cI #[.int .i64 no, .int .i64 wi, .int .i64 ba, .int .i64 st, .int .i64 ca, .int .i64 ro, .int .i64 fl, .slice none 0 0] a2 n c2 xs := h6.set hne hwk q 6 _
  have h8 : Fin w ((((((((w2.setCell ⟨k, 0, none⟩ (.int .i64 no)).setCell ⟨k, 1, none⟩ (.int .i64 wi)).setCell ⟨k, 2, none⟩ (.int .i64 ba)).setCell ⟨k, 3, none⟩ (.int .i64 st)).setCell ⟨k, 4, none⟩ (.int .i64 ca)).setCell ⟨k, 5, none⟩ (.int .i64 ro)).setCell ⟨k, 6, none⟩ (.int .i64 fl)).setCell ⟨k, 7, none⟩ (.slice a2 n c2)) ib k cI #[.int .i64 no, .int .i64 wi, .int .i64 ba, .int .i64 st, .int .i64 ca, .int .i64 ro, .int .i64 fl, .slice a2 n c2] a2 n c2 xs := h7.set hne hwk q 7 _
  h8

theorem check_eq (no wi ba st ca ro fl : Int) (ao : Option Addr) (n c : Nat) (xs : List Int) (r : Bool) (E : Int) (w : World) (hr : Ri w ao n c xs) (hn : n ≤ 140737488355328) (hB : votesB xs = r) (hE : cfgE no wi ba st ca ro fl n r = E) :
    Calls Try.prog 5 #[.agg #[.int .i64 no, .int .i64 wi, .int .i64 ba, .int .i64 st, .int .i64 ca, .int .i64 ro, .int .i64 fl, .slice ao n c]] w fun e w' => e = .returned (.int .i64 E) ∧ Below w.heap.size w w' := by
  subst hE
  exact check_any no wi ba st ca ro fl ao n c xs r w hr hn hB
theorem rcheck_eq (no wi ba st ca ro fl : Int) (ao : Option Addr) (n c : Nat) (xs : List Int) (r : Bool) (E : Int) (w : World) (hr : Ri w ao n c xs) (hn : n ≤ 140737488355328) (hB : votesB xs = r) (hE : cfgE no wi ba st ca ro fl n r = E) :
    Calls Try.prog 6 #[.agg #[.int .i64 no, .int .i64 wi, .int .i64 ba, .int .i64 st, .int .i64 ca, .int .i64 ro, .int .i64 fl, .slice ao n c]] w fun e w' => e = .returned (.int .i64 E) ∧ Below w.heap.size w w' := by
  subst hE
  exact rcheck_any no wi ba st ca ro fl ao n c xs r w hr hn hB

set_option maxRecDepth 100000 in
set_option maxHeartbeats 4000000 in
theorem core (no wi ba st ca ro fl : Int) (ao : Option Addr) (n c : Nat) (xs : List Int) (w : World) (hr : Ri w ao n c xs) (hn : n ≤ 17592186044416) :
    Calls Try.prog 3 #[.agg #[.int .i64 no, .int .i64 wi, .int .i64 ba, .int .i64 st, .int .i64 ca, .int .i64 ro, .int .i64 fl, .slice ao n c]] w fun e w' => e = .returned (.bool true) ∧ Below w.heap.size w w' := by
  obtain ⟨i0, hi, hz0, hz1, hz2⟩ := info_parts info_int
  obtain ⟨r, hB⟩ : ∃ r, votesB xs = r := ⟨_, rfl⟩
  obtain ⟨E, hE⟩ : ∃ E, cfgE no wi ba st ca ro fl n r = E := ⟨_, rfl⟩
  have HR : Hid (Ri w ao n c xs) := hr
  have HV : Hid (votesB xs = r) := hB
  have HEE : Hid (cfgE no wi ba st ca ro fl n r = E) := hE
  have hlb : xs.length = n := hr.1
  clear hr hB hE
  go_enter Try.func3, Try.ntmps3
  have HA : Hid (Below w.heap.size w (w.alloc (.cells #[.int .i64 no, .int .i64 wi, .int .i64 ba, .int .i64 st, .int .i64 ca, .int .i64 ro, .int .i64 fl, .slice ao n c] 24))) := (Below.refl _ _).alloc (Nat.le_refl _) _
  go_wp2_with fail
  have HI : Hid ((w.alloc (.cells #[.int .i64 no, .int .i64 wi, .int .i64 ba, .int .i64 st, .int .i64 ca, .int .i64 ro, .int .i64 fl, .slice ao n c] 24)).heap[w.heap.size]? = some (.cells #[.int .i64 no, .int .i64 wi, .int .i64 ba, .int .i64 st, .int .i64 ca, .int .i64 ro, .int .i64 fl, .slice ao n c] 24 (0, 0))) := heap_new w _ _
  generalize hW0 : w.alloc (.cells #[.int .i64 no, .int .i64 wi, .int .i64 ba, .int .i64 st, .int .i64 ca, .int .i64 ro, .int .i64 fl, .slice ao n c] 24) = W0 at *
  have z0 : w.heap.size < W0.heap.size := by rw [← hW0]; simp
  generalize hib : w.heap.size = ib at *
  have hc0 : W0.cell? ⟨ib, 0, none⟩ = some (.int .i64 no) := blk_cell HI.out 0
  have hc1 : W0.cell? ⟨ib, 1, none⟩ = some (.int .i64 wi) := blk_cell HI.out 1
  have hc2 : W0.cell? ⟨ib, 2, none⟩ = some (.int .i64 ba) := blk_cell HI.out 2
  have hc3 : W0.cell? ⟨ib, 3, none⟩ = some (.int .i64 st) := blk_cell HI.out 3
  have hc4 : W0.cell? ⟨ib, 4, none⟩ = some (.int .i64 ca) := blk_cell HI.out 4
  have hc5 : W0.cell? ⟨ib, 5, none⟩ = some (.int .i64 ro) := blk_cell HI.out 5
  have hc6 : W0.cell? ⟨ib, 6, none⟩ = some (.int .i64 fl) := blk_cell HI.out 6
  have hc7 : W0.cell? ⟨ib, 7, none⟩ = some (.slice ao n c) := blk_cell HI.out 7
  clear hW0
  have n1 : ib ≠ W0.heap.size := by omega
  have n2 : ib ≠ W0.heap.size + 1 := by omega
  have n3 : W0.heap.size ≠ ib := by omega
  have n4 : W0.heap.size + 1 ≠ ib := by omega
  go_region_held_law (fun w' => w'.cell? ⟨ib, 0, none⟩ = some (.int .i64 no) ∧ w'.cell? ⟨ib, 1, none⟩ = some (.int .i64 wi) ∧ w'.cell? ⟨ib, 2, none⟩ = some (.int .i64 ba) ∧ w'.cell? ⟨ib, 3, none⟩ = some (.int .i64 st) ∧ w'.cell? ⟨ib, 4, none⟩ = some (.int .i64 ca) ∧ w'.cell? ⟨ib, 5, none⟩ = some (.int .i64 ro) ∧ w'.cell? ⟨ib, 6, none⟩ = some (.int .i64 fl) ∧ w'.cell? ⟨ib, 7, none⟩ = some (.slice ao n c)) (go_keep)
    ((first
      | (refine step_copy_rd _ (by rfl) _ _ 22 (by rfl) W0.heap.size 3 i0 (.int .i64 0) 8 Try.underlying22 hi hz0 hz1 hz2 rfl (.slice (some ⟨W0.heap.size, 0, none⟩) 0 0) (by rfl) (by first | exact own_at (Nat.le_refl _) | exact own_drew (own_at (Nat.le_refl _))) _ _ _ (xs.map (Value.int .i64)) (by rfl) HR.out.2.1 (by simpa using hlb) (by exact HR.out.cells (by rw [hib]; repeat (first | exact HA.out | apply Below.drew | refine Below.alloc ?_ (by first | omega | (simp; omega)) _))) (ints_oneCell xs) (by unfold maxLen; omega) (by omega) (by simp; try omega) ?_; intro a2 c2 w2 ho2 hg2; have hbw : Below W0.heap.size W0 w2 := Below.grown (by repeat (first | exact Below.refl _ _ | apply Below.drew | refine Below.alloc ?_ (by first | omega | (simp; done) | (simp; omega)) _)) hg2 (by simp; try omega) (fun k hk => by simp [Value.ownBlock] at hk; omega); have e0 : w2.cell? ⟨ib, 0, none⟩ = some (.int .i64 no) := (hbw.cell z0).trans hc0; have e1 : w2.cell? ⟨ib, 1, none⟩ = some (.int .i64 wi) := (hbw.cell z0).trans hc1; have e2 : w2.cell? ⟨ib, 2, none⟩ = some (.int .i64 ba) := (hbw.cell z0).trans hc2; have e3 : w2.cell? ⟨ib, 3, none⟩ = some (.int .i64 st) := (hbw.cell z0).trans hc3; have e4 : w2.cell? ⟨ib, 4, none⟩ = some (.int .i64 ca) := (hbw.cell z0).trans hc4; have e5 : w2.cell? ⟨ib, 5, none⟩ = some (.int .i64 ro) := (hbw.cell z0).trans hc5; have e6 : w2.cell? ⟨ib, 6, none⟩ = some (.int .i64 fl) := (hbw.cell z0).trans hc6; have e7 : w2.cell? ⟨ib, 7, none⟩ = some (.slice ao n c) := (hbw.cell z0).trans hc7)
      | (refine step_copy_rd _ (by rfl) _ _ 22 (by rfl) W0.heap.size 3 i0 (.int .i64 0) 8 Try.underlying22 hi hz0 hz1 hz2 rfl (.slice (some ⟨W0.heap.size, 0, none⟩) 0 0) (by rfl) (by first | exact World.ownsRow.alloc (own_at (Nat.le_refl _)) _ | exact own_drew (World.ownsRow.alloc (own_at (Nat.le_refl _)) _) | exact own_drew (World.ownsRow.alloc (own_drew (own_at (Nat.le_refl _))) _)) _ _ _ (xs.map (Value.int .i64)) (by rfl) HR.out.2.1 (by simpa using hlb) (by exact HR.out.cells (by rw [hib]; repeat (first | exact HA.out | apply Below.drew | refine Below.alloc ?_ (by first | omega | (simp; omega)) _))) (ints_oneCell xs) (by unfold maxLen; omega) (by omega) (by simp; try omega) ?_; intro a2 c2 w2 ho2 hg2; have hbw : Below W0.heap.size W0 w2 := Below.grown (by repeat (first | exact Below.refl _ _ | apply Below.drew | refine Below.alloc ?_ (by first | omega | (simp; done) | (simp; omega)) _)) hg2 (by simp; try omega) (fun k hk => by simp [Value.ownBlock] at hk; omega); have e0 : w2.cell? ⟨ib, 0, none⟩ = some (.int .i64 no) := (hbw.cell z0).trans hc0; have e1 : w2.cell? ⟨ib, 1, none⟩ = some (.int .i64 wi) := (hbw.cell z0).trans hc1; have e2 : w2.cell? ⟨ib, 2, none⟩ = some (.int .i64 ba) := (hbw.cell z0).trans hc2; have e3 : w2.cell? ⟨ib, 3, none⟩ = some (.int .i64 st) := (hbw.cell z0).trans hc3; have e4 : w2.cell? ⟨ib, 4, none⟩ = some (.int .i64 ca) := (hbw.cell z0).trans hc4; have e5 : w2.cell? ⟨ib, 5, none⟩ = some (.int .i64 ro) := (hbw.cell z0).trans hc5; have e6 : w2.cell? ⟨ib, 6, none⟩ = some (.int .i64 fl) := (hbw.cell z0).trans hc6; have e7 : w2.cell? ⟨ib, 7, none⟩ = some (.slice ao n c) := (hbw.cell z0).trans hc7; have hk : w2.heap[W0.heap.size + 1]? = some (.cells #[.int .i64 0, .int .i64 0, .int .i64 0, .int .i64 0, .int .i64 0, .int .i64 0, .int .i64 0, .slice none 0 0] 24 (0, 0)) := (hg2.block _ (by simp) (by simp [Value.ownBlock])).trans (by exact second); have zc := fun i => blk_cell hk i; have zf := fun i => frozen_of_row w2 _ i _ _ hk; have HK : Hid (_ = _) := hk; clear hk)
      | (refine step_copy_rd _ (by rfl) _ _ 22 (by rfl) W0.heap.size 3 i0 (.int .i64 0) 8 Try.underlying22 hi hz0 hz1 hz2 rfl (.slice (some ⟨W0.heap.size + 1, 0, none⟩) 0 0) (by rfl) (by first | exact own_two | exact own_drew own_two) _ _ _ (xs.map (Value.int .i64)) (by rfl) HR.out.2.1 (by simpa using hlb) (by exact HR.out.cells (by rw [hib]; repeat (first | exact HA.out | apply Below.drew | refine Below.alloc ?_ (by first | omega | (simp; omega)) _))) (ints_oneCell xs) (by unfold maxLen; omega) (by omega) (by simp; try omega) ?_; intro a2 c2 w2 ho2 hg2; have hbw : Below W0.heap.size W0 w2 := Below.grown (by repeat (first | exact Below.refl _ _ | apply Below.drew | refine Below.alloc ?_ (by first | omega | (simp; done) | (simp; omega)) _)) hg2 (by simp; try omega) (fun k hk => by simp [Value.ownBlock] at hk; omega); have e0 : w2.cell? ⟨ib, 0, none⟩ = some (.int .i64 no) := (hbw.cell z0).trans hc0; have e1 : w2.cell? ⟨ib, 1, none⟩ = some (.int .i64 wi) := (hbw.cell z0).trans hc1; have e2 : w2.cell? ⟨ib, 2, none⟩ = some (.int .i64 ba) := (hbw.cell z0).trans hc2; have e3 : w2.cell? ⟨ib, 3, none⟩ = some (.int .i64 st) := (hbw.cell z0).trans hc3; have e4 : w2.cell? ⟨ib, 4, none⟩ = some (.int .i64 ca) := (hbw.cell z0).trans hc4; have e5 : w2.cell? ⟨ib, 5, none⟩ = some (.int .i64 ro) := (hbw.cell z0).trans hc5; have e6 : w2.cell? ⟨ib, 6, none⟩ = some (.int .i64 fl) := (hbw.cell z0).trans hc6; have e7 : w2.cell? ⟨ib, 7, none⟩ = some (.slice ao n c) := (hbw.cell z0).trans hc7; have hk : w2.heap[W0.heap.size]? = some (.cells #[.int .i64 0, .int .i64 0, .int .i64 0, .int .i64 0, .int .i64 0, .int .i64 0, .int .i64 0, .slice none 0 0] 24 (0, 0)) := (hg2.block _ (by simp; try omega) (by simp [Value.ownBlock])).trans (by exact firstOf); have zc := fun i => blk_cell hk i; have zf := fun i => frozen_of_row w2 _ i _ _ hk; have HK : Hid (_ = _) := hk; clear hk)))
  all_goals
    have hbB : Below w.heap.size w w2 := by rw [hib]; exact HA.out.trans (hbw.mono (by omega))
    have hri : Ri w2 a2 n c2 xs := ri_own2 hlb ho2
    have hi2 : w2.heap[ib]? = some (.cells #[.int .i64 no, .int .i64 wi, .int .i64 ba, .int .i64 st, .int .i64 ca, .int .i64 ro, .int .i64 fl, .slice ao n c] 24 (0, 0)) := (hbw.block ib z0).trans HI.out
    clear e0 e1 e2 e3 e4 e5 e6 e7 hc0 hc1 hc2 hc3 hc4 hc5 hc6 hc7
  · have HF : Hid (Fin w (w2.alloc (.cells #[.int .i64 no, .int .i64 wi, .int .i64 ba, .int .i64 st, .int .i64 ca, .int .i64 ro, .int .i64 fl, .slice a2 n c2] 24)) ib w2.heap.size #[.int .i64 no, .int .i64 wi, .int .i64 ba, .int .i64 st, .int .i64 ca, .int .i64 ro, .int .i64 fl, .slice ao n c] #[.int .i64 no, .int .i64 wi, .int .i64 ba, .int .i64 st, .int .i64 ca, .int .i64 ro, .int .i64 fl, .slice a2 n c2] a2 n c2 xs) := Fin.alloc hbB hi2 hri
    generalize w2.alloc (.cells #[.int .i64 no, .int .i64 wi, .int .i64 ba, .int .i64 st, .int .i64 ca, .int .i64 ro, .int .i64 fl, .slice a2 n c2] 24) = F at *
    generalize w2.heap.size = k at *
    clear hbB hri hi2 hbw ho2 hg2 n1 n2 n3 n4
    have p0 : F.cell? ⟨ib, 0, none⟩ = some (.int .i64 no) := blk_cell HF.out.i 0
    have p1 : F.cell? ⟨ib, 1, none⟩ = some (.int .i64 wi) := blk_cell HF.out.i 1
    have p2 : F.cell? ⟨ib, 2, none⟩ = some (.int .i64 ba) := blk_cell HF.out.i 2
    have p3 : F.cell? ⟨ib, 3, none⟩ = some (.int .i64 st) := blk_cell HF.out.i 3
    have p4 : F.cell? ⟨ib, 4, none⟩ = some (.int .i64 ca) := blk_cell HF.out.i 4
    have p5 : F.cell? ⟨ib, 5, none⟩ = some (.int .i64 ro) := blk_cell HF.out.i 5
    have p6 : F.cell? ⟨ib, 6, none⟩ = some (.int .i64 fl) := blk_cell HF.out.i 6
    have p7 : F.cell? ⟨ib, 7, none⟩ = some (.slice ao n c) := blk_cell HF.out.i 7
    have q0 : F.cell? ⟨k, 0, none⟩ = some (.int .i64 no) := blk_cell HF.out.k 0
    have q1 : F.cell? ⟨k, 1, none⟩ = some (.int .i64 wi) := blk_cell HF.out.k 1
    have q2 : F.cell? ⟨k, 2, none⟩ = some (.int .i64 ba) := blk_cell HF.out.k 2
    have q3 : F.cell? ⟨k, 3, none⟩ = some (.int .i64 st) := blk_cell HF.out.k 3
    have q4 : F.cell? ⟨k, 4, none⟩ = some (.int .i64 ca) := blk_cell HF.out.k 4
    have q5 : F.cell? ⟨k, 5, none⟩ = some (.int .i64 ro) := blk_cell HF.out.k 5
    have q6 : F.cell? ⟨k, 6, none⟩ = some (.int .i64 fl) := blk_cell HF.out.k 6
    have q7 : F.cell? ⟨k, 7, none⟩ = some (.slice a2 n c2) := blk_cell HF.out.k 7
    go_wp2_with fail
    go_region_held3 (fun w' => w'.cell? ⟨ib, 0, none⟩ = some (.int .i64 no) ∧ w'.cell? ⟨ib, 1, none⟩ = some (.int .i64 wi) ∧ w'.cell? ⟨ib, 2, none⟩ = some (.int .i64 ba) ∧ w'.cell? ⟨ib, 3, none⟩ = some (.int .i64 st) ∧ w'.cell? ⟨ib, 4, none⟩ = some (.int .i64 ca) ∧ w'.cell? ⟨ib, 5, none⟩ = some (.int .i64 ro) ∧ w'.cell? ⟨ib, 6, none⟩ = some (.int .i64 fl) ∧ w'.cell? ⟨ib, 7, none⟩ = some (.slice ao n c) ∧ w'.cell? ⟨k, 0, none⟩ = some (.int .i64 no) ∧ w'.cell? ⟨k, 1, none⟩ = some (.int .i64 wi) ∧ w'.cell? ⟨k, 2, none⟩ = some (.int .i64 ba) ∧ w'.cell? ⟨k, 3, none⟩ = some (.int .i64 st) ∧ w'.cell? ⟨k, 4, none⟩ = some (.int .i64 ca) ∧ w'.cell? ⟨k, 5, none⟩ = some (.int .i64 ro) ∧ w'.cell? ⟨k, 6, none⟩ = some (.int .i64 fl) ∧ w'.cell? ⟨k, 7, none⟩ = some (.slice a2 n c2)) (go_keep)
      (first
        | (go_at_call 5; refine (check_eq _ _ _ _ _ _ _ _ _ _ xs r E _ (by first | exact (HF.out.drew _).r | exact HF.out.r) (by omega) HV.out HEE.out).mono ?_; rintro e w3 ⟨rfl, hb3⟩; have H3 : Hid (Fin w w3 ib k #[.int .i64 no, .int .i64 wi, .int .i64 ba, .int .i64 st, .int .i64 ca, .int .i64 ro, .int .i64 fl, .slice ao n c] #[.int .i64 no, .int .i64 wi, .int .i64 ba, .int .i64 st, .int .i64 ca, .int .i64 ro, .int .i64 fl, .slice a2 n c2] a2 n c2 xs) := (by first | exact (HF.out.drew _).still hb3 | exact HF.out.still hb3); clear hb3; have p0 : w3.cell? ⟨ib, 0, none⟩ = some (.int .i64 no) := blk_cell H3.out.i 0; have p1 : w3.cell? ⟨ib, 1, none⟩ = some (.int .i64 wi) := blk_cell H3.out.i 1; have p2 : w3.cell? ⟨ib, 2, none⟩ = some (.int .i64 ba) := blk_cell H3.out.i 2; have p3 : w3.cell? ⟨ib, 3, none⟩ = some (.int .i64 st) := blk_cell H3.out.i 3; have p4 : w3.cell? ⟨ib, 4, none⟩ = some (.int .i64 ca) := blk_cell H3.out.i 4; have p5 : w3.cell? ⟨ib, 5, none⟩ = some (.int .i64 ro) := blk_cell H3.out.i 5; have p6 : w3.cell? ⟨ib, 6, none⟩ = some (.int .i64 fl) := blk_cell H3.out.i 6; have p7 : w3.cell? ⟨ib, 7, none⟩ = some (.slice ao n c) := blk_cell H3.out.i 7; have q0 : w3.cell? ⟨k, 0, none⟩ = some (.int .i64 no) := blk_cell H3.out.k 0; have q1 : w3.cell? ⟨k, 1, none⟩ = some (.int .i64 wi) := blk_cell H3.out.k 1; have q2 : w3.cell? ⟨k, 2, none⟩ = some (.int .i64 ba) := blk_cell H3.out.k 2; have q3 : w3.cell? ⟨k, 3, none⟩ = some (.int .i64 st) := blk_cell H3.out.k 3; have q4 : w3.cell? ⟨k, 4, none⟩ = some (.int .i64 ca) := blk_cell H3.out.k 4; have q5 : w3.cell? ⟨k, 5, none⟩ = some (.int .i64 ro) := blk_cell H3.out.k 5; have q6 : w3.cell? ⟨k, 6, none⟩ = some (.int .i64 fl) := blk_cell H3.out.k 6; have q7 : w3.cell? ⟨k, 7, none⟩ = some (.slice a2 n c2) := blk_cell H3.out.k 7)
        | (go_at_call 4; refine (num_any _ _).mono ?_; rintro e w' ⟨rfl, rfl⟩)
        | (go_at_call 6; refine (rcheck_eq _ _ _ _ _ _ _ _ _ _ xs r E _ (by first | exact HR.out.below (H3.out.drew _).b | exact HR.out.below H3.out.b) (by omega) HV.out HEE.out).mono ?_; rintro e w4 ⟨rfl, hb4⟩; have H4 : Hid (Fin w w4 ib k #[.int .i64 no, .int .i64 wi, .int .i64 ba, .int .i64 st, .int .i64 ca, .int .i64 ro, .int .i64 fl, .slice ao n c] #[.int .i64 no, .int .i64 wi, .int .i64 ba, .int .i64 st, .int .i64 ca, .int .i64 ro, .int .i64 fl, .slice a2 n c2] a2 n c2 xs) := (by first | exact (H3.out.drew _).still hb4 | exact H3.out.still hb4); clear hb4; have p0 : w4.cell? ⟨ib, 0, none⟩ = some (.int .i64 no) := blk_cell H4.out.i 0; have p1 : w4.cell? ⟨ib, 1, none⟩ = some (.int .i64 wi) := blk_cell H4.out.i 1; have p2 : w4.cell? ⟨ib, 2, none⟩ = some (.int .i64 ba) := blk_cell H4.out.i 2; have p3 : w4.cell? ⟨ib, 3, none⟩ = some (.int .i64 st) := blk_cell H4.out.i 3; have p4 : w4.cell? ⟨ib, 4, none⟩ = some (.int .i64 ca) := blk_cell H4.out.i 4; have p5 : w4.cell? ⟨ib, 5, none⟩ = some (.int .i64 ro) := blk_cell H4.out.i 5; have p6 : w4.cell? ⟨ib, 6, none⟩ = some (.int .i64 fl) := blk_cell H4.out.i 6; have p7 : w4.cell? ⟨ib, 7, none⟩ = some (.slice ao n c) := blk_cell H4.out.i 7; have q0 : w4.cell? ⟨k, 0, none⟩ = some (.int .i64 no) := blk_cell H4.out.k 0; have q1 : w4.cell? ⟨k, 1, none⟩ = some (.int .i64 wi) := blk_cell H4.out.k 1; have q2 : w4.cell? ⟨k, 2, none⟩ = some (.int .i64 ba) := blk_cell H4.out.k 2; have q3 : w4.cell? ⟨k, 3, none⟩ = some (.int .i64 st) := blk_cell H4.out.k 3; have q4 : w4.cell? ⟨k, 4, none⟩ = some (.int .i64 ca) := blk_cell H4.out.k 4; have q5 : w4.cell? ⟨k, 5, none⟩ = some (.int .i64 ro) := blk_cell H4.out.k 5; have q6 : w4.cell? ⟨k, 6, none⟩ = some (.int .i64 fl) := blk_cell H4.out.k 6; have q7 : w4.cell? ⟨k, 7, none⟩ = some (.slice a2 n c2) := blk_cell H4.out.k 7)
        | fail)
    go_wp2_with fail
    go_ret
    first
      | exact ⟨rfl, H4.out.b⟩
      | exact ⟨rfl, (H4.out.drew _).b⟩
      | exact ⟨rfl, by rw [hib]; have h := H4.out.b; rw [hib] at h; exact h⟩
  · have HF : Hid (Fin w ((((((((w2.setCell ⟨W0.heap.size + 1, 0, none⟩ (.int .i64 no)).setCell ⟨W0.heap.size + 1, 1, none⟩ (.int .i64 wi)).setCell ⟨W0.heap.size + 1, 2, none⟩ (.int .i64 ba)).setCell ⟨W0.heap.size + 1, 3, none⟩ (.int .i64 st)).setCell ⟨W0.heap.size + 1, 4, none⟩ (.int .i64 ca)).setCell ⟨W0.heap.size + 1, 5, none⟩ (.int .i64 ro)).setCell ⟨W0.heap.size + 1, 6, none⟩ (.int .i64 fl)).setCell ⟨W0.heap.size + 1, 7, none⟩ (.slice a2 n c2)) ib (W0.heap.size + 1) #[.int .i64 no, .int .i64 wi, .int .i64 ba, .int .i64 st, .int .i64 ca, .int .i64 ro, .int .i64 fl, .slice ao n c] #[.int .i64 no, .int .i64 wi, .int .i64 ba, .int .i64 st, .int .i64 ca, .int .i64 ro, .int .i64 fl, .slice a2 n c2] a2 n c2 xs) := fin_set hbB hi2 HK.out hlb ho2 (by omega) (by omega) hri
    generalize ((((((((w2.setCell ⟨W0.heap.size + 1, 0, none⟩ (.int .i64 no)).setCell ⟨W0.heap.size + 1, 1, none⟩ (.int .i64 wi)).setCell ⟨W0.heap.size + 1, 2, none⟩ (.int .i64 ba)).setCell ⟨W0.heap.size + 1, 3, none⟩ (.int .i64 st)).setCell ⟨W0.heap.size + 1, 4, none⟩ (.int .i64 ca)).setCell ⟨W0.heap.size + 1, 5, none⟩ (.int .i64 ro)).setCell ⟨W0.heap.size + 1, 6, none⟩ (.int .i64 fl)).setCell ⟨W0.heap.size + 1, 7, none⟩ (.slice a2 n c2)) = F at *
    clear zc zf HK
    generalize W0.heap.size + 1 = k at *
    clear hbB hri hi2 hbw ho2 hg2 n1 n2 n3 n4
    have p0 : F.cell? ⟨ib, 0, none⟩ = some (.int .i64 no) := blk_cell HF.out.i 0
    have p1 : F.cell? ⟨ib, 1, none⟩ = some (.int .i64 wi) := blk_cell HF.out.i 1
    have p2 : F.cell? ⟨ib, 2, none⟩ = some (.int .i64 ba) := blk_cell HF.out.i 2
    have p3 : F.cell? ⟨ib, 3, none⟩ = some (.int .i64 st) := blk_cell HF.out.i 3
    have p4 : F.cell? ⟨ib, 4, none⟩ = some (.int .i64 ca) := blk_cell HF.out.i 4
    have p5 : F.cell? ⟨ib, 5, none⟩ = some (.int .i64 ro) := blk_cell HF.out.i 5
    have p6 : F.cell? ⟨ib, 6, none⟩ = some (.int .i64 fl) := blk_cell HF.out.i 6
    have p7 : F.cell? ⟨ib, 7, none⟩ = some (.slice ao n c) := blk_cell HF.out.i 7
    have q0 : F.cell? ⟨k, 0, none⟩ = some (.int .i64 no) := blk_cell HF.out.k 0
    have q1 : F.cell? ⟨k, 1, none⟩ = some (.int .i64 wi) := blk_cell HF.out.k 1
    have q2 : F.cell? ⟨k, 2, none⟩ = some (.int .i64 ba) := blk_cell HF.out.k 2
    have q3 : F.cell? ⟨k, 3, none⟩ = some (.int .i64 st) := blk_cell HF.out.k 3
    have q4 : F.cell? ⟨k, 4, none⟩ = some (.int .i64 ca) := blk_cell HF.out.k 4
    have q5 : F.cell? ⟨k, 5, none⟩ = some (.int .i64 ro) := blk_cell HF.out.k 5
    have q6 : F.cell? ⟨k, 6, none⟩ = some (.int .i64 fl) := blk_cell HF.out.k 6
    have q7 : F.cell? ⟨k, 7, none⟩ = some (.slice a2 n c2) := blk_cell HF.out.k 7
    go_wp2_with fail
    go_region_held3 (fun w' => w'.cell? ⟨ib, 0, none⟩ = some (.int .i64 no) ∧ w'.cell? ⟨ib, 1, none⟩ = some (.int .i64 wi) ∧ w'.cell? ⟨ib, 2, none⟩ = some (.int .i64 ba) ∧ w'.cell? ⟨ib, 3, none⟩ = some (.int .i64 st) ∧ w'.cell? ⟨ib, 4, none⟩ = some (.int .i64 ca) ∧ w'.cell? ⟨ib, 5, none⟩ = some (.int .i64 ro) ∧ w'.cell? ⟨ib, 6, none⟩ = some (.int .i64 fl) ∧ w'.cell? ⟨ib, 7, none⟩ = some (.slice ao n c) ∧ w'.cell? ⟨k, 0, none⟩ = some (.int .i64 no) ∧ w'.cell? ⟨k, 1, none⟩ = some (.int .i64 wi) ∧ w'.cell? ⟨k, 2, none⟩ = some (.int .i64 ba) ∧ w'.cell? ⟨k, 3, none⟩ = some (.int .i64 st) ∧ w'.cell? ⟨k, 4, none⟩ = some (.int .i64 ca) ∧ w'.cell? ⟨k, 5, none⟩ = some (.int .i64 ro) ∧ w'.cell? ⟨k, 6, none⟩ = some (.int .i64 fl) ∧ w'.cell? ⟨k, 7, none⟩ = some (.slice a2 n c2)) (go_keep)
      (first
        | (go_at_call 5; refine (check_eq _ _ _ _ _ _ _ _ _ _ xs r E _ (by first | exact (HF.out.drew _).r | exact HF.out.r) (by omega) HV.out HEE.out).mono ?_; rintro e w3 ⟨rfl, hb3⟩; have H3 : Hid (Fin w w3 ib k #[.int .i64 no, .int .i64 wi, .int .i64 ba, .int .i64 st, .int .i64 ca, .int .i64 ro, .int .i64 fl, .slice ao n c] #[.int .i64 no, .int .i64 wi, .int .i64 ba, .int .i64 st, .int .i64 ca, .int .i64 ro, .int .i64 fl, .slice a2 n c2] a2 n c2 xs) := (by first | exact (HF.out.drew _).still hb3 | exact HF.out.still hb3); clear hb3; have p0 : w3.cell? ⟨ib, 0, none⟩ = some (.int .i64 no) := blk_cell H3.out.i 0; have p1 : w3.cell? ⟨ib, 1, none⟩ = some (.int .i64 wi) := blk_cell H3.out.i 1; have p2 : w3.cell? ⟨ib, 2, none⟩ = some (.int .i64 ba) := blk_cell H3.out.i 2; have p3 : w3.cell? ⟨ib, 3, none⟩ = some (.int .i64 st) := blk_cell H3.out.i 3; have p4 : w3.cell? ⟨ib, 4, none⟩ = some (.int .i64 ca) := blk_cell H3.out.i 4; have p5 : w3.cell? ⟨ib, 5, none⟩ = some (.int .i64 ro) := blk_cell H3.out.i 5; have p6 : w3.cell? ⟨ib, 6, none⟩ = some (.int .i64 fl) := blk_cell H3.out.i 6; have p7 : w3.cell? ⟨ib, 7, none⟩ = some (.slice ao n c) := blk_cell H3.out.i 7; have q0 : w3.cell? ⟨k, 0, none⟩ = some (.int .i64 no) := blk_cell H3.out.k 0; have q1 : w3.cell? ⟨k, 1, none⟩ = some (.int .i64 wi) := blk_cell H3.out.k 1; have q2 : w3.cell? ⟨k, 2, none⟩ = some (.int .i64 ba) := blk_cell H3.out.k 2; have q3 : w3.cell? ⟨k, 3, none⟩ = some (.int .i64 st) := blk_cell H3.out.k 3; have q4 : w3.cell? ⟨k, 4, none⟩ = some (.int .i64 ca) := blk_cell H3.out.k 4; have q5 : w3.cell? ⟨k, 5, none⟩ = some (.int .i64 ro) := blk_cell H3.out.k 5; have q6 : w3.cell? ⟨k, 6, none⟩ = some (.int .i64 fl) := blk_cell H3.out.k 6; have q7 : w3.cell? ⟨k, 7, none⟩ = some (.slice a2 n c2) := blk_cell H3.out.k 7)
        | (go_at_call 4; refine (num_any _ _).mono ?_; rintro e w' ⟨rfl, rfl⟩)
        | (go_at_call 6; refine (rcheck_eq _ _ _ _ _ _ _ _ _ _ xs r E _ (by first | exact HR.out.below (H3.out.drew _).b | exact HR.out.below H3.out.b) (by omega) HV.out HEE.out).mono ?_; rintro e w4 ⟨rfl, hb4⟩; have H4 : Hid (Fin w w4 ib k #[.int .i64 no, .int .i64 wi, .int .i64 ba, .int .i64 st, .int .i64 ca, .int .i64 ro, .int .i64 fl, .slice ao n c] #[.int .i64 no, .int .i64 wi, .int .i64 ba, .int .i64 st, .int .i64 ca, .int .i64 ro, .int .i64 fl, .slice a2 n c2] a2 n c2 xs) := (by first | exact (H3.out.drew _).still hb4 | exact H3.out.still hb4); clear hb4; have p0 : w4.cell? ⟨ib, 0, none⟩ = some (.int .i64 no) := blk_cell H4.out.i 0; have p1 : w4.cell? ⟨ib, 1, none⟩ = some (.int .i64 wi) := blk_cell H4.out.i 1; have p2 : w4.cell? ⟨ib, 2, none⟩ = some (.int .i64 ba) := blk_cell H4.out.i 2; have p3 : w4.cell? ⟨ib, 3, none⟩ = some (.int .i64 st) := blk_cell H4.out.i 3; have p4 : w4.cell? ⟨ib, 4, none⟩ = some (.int .i64 ca) := blk_cell H4.out.i 4; have p5 : w4.cell? ⟨ib, 5, none⟩ = some (.int .i64 ro) := blk_cell H4.out.i 5; have p6 : w4.cell? ⟨ib, 6, none⟩ = some (.int .i64 fl) := blk_cell H4.out.i 6; have p7 : w4.cell? ⟨ib, 7, none⟩ = some (.slice ao n c) := blk_cell H4.out.i 7; have q0 : w4.cell? ⟨k, 0, none⟩ = some (.int .i64 no) := blk_cell H4.out.k 0; have q1 : w4.cell? ⟨k, 1, none⟩ = some (.int .i64 wi) := blk_cell H4.out.k 1; have q2 : w4.cell? ⟨k, 2, none⟩ = some (.int .i64 ba) := blk_cell H4.out.k 2; have q3 : w4.cell? ⟨k, 3, none⟩ = some (.int .i64 st) := blk_cell H4.out.k 3; have q4 : w4.cell? ⟨k, 4, none⟩ = some (.int .i64 ca) := blk_cell H4.out.k 4; have q5 : w4.cell? ⟨k, 5, none⟩ = some (.int .i64 ro) := blk_cell H4.out.k 5; have q6 : w4.cell? ⟨k, 6, none⟩ = some (.int .i64 fl) := blk_cell H4.out.k 6; have q7 : w4.cell? ⟨k, 7, none⟩ = some (.slice a2 n c2) := blk_cell H4.out.k 7)
        | fail)
    go_wp2_with fail
    go_ret
    first
      | exact ⟨rfl, H4.out.b⟩
      | exact ⟨rfl, (H4.out.drew _).b⟩
      | exact ⟨rfl, by rw [hib]; have h := H4.out.b; rw [hib] at h; exact h⟩
  · have HF : Hid (Fin w ((((((((w2.setCell ⟨W0.heap.size, 0, none⟩ (.int .i64 no)).setCell ⟨W0.heap.size, 1, none⟩ (.int .i64 wi)).setCell ⟨W0.heap.size, 2, none⟩ (.int .i64 ba)).setCell ⟨W0.heap.size, 3, none⟩ (.int .i64 st)).setCell ⟨W0.heap.size, 4, none⟩ (.int .i64 ca)).setCell ⟨W0.heap.size, 5, none⟩ (.int .i64 ro)).setCell ⟨W0.heap.size, 6, none⟩ (.int .i64 fl)).setCell ⟨W0.heap.size, 7, none⟩ (.slice a2 n c2)) ib W0.heap.size #[.int .i64 no, .int .i64 wi, .int .i64 ba, .int .i64 st, .int .i64 ca, .int .i64 ro, .int .i64 fl, .slice ao n c] #[.int .i64 no, .int .i64 wi, .int .i64 ba, .int .i64 st, .int .i64 ca, .int .i64 ro, .int .i64 fl, .slice a2 n c2] a2 n c2 xs) := fin_set hbB hi2 HK.out hlb ho2 (by omega) (by omega) hri
    generalize ((((((((w2.setCell ⟨W0.heap.size, 0, none⟩ (.int .i64 no)).setCell ⟨W0.heap.size, 1, none⟩ (.int .i64 wi)).setCell ⟨W0.heap.size, 2, none⟩ (.int .i64 ba)).setCell ⟨W0.heap.size, 3, none⟩ (.int .i64 st)).setCell ⟨W0.heap.size, 4, none⟩ (.int .i64 ca)).setCell ⟨W0.heap.size, 5, none⟩ (.int .i64 ro)).setCell ⟨W0.heap.size, 6, none⟩ (.int .i64 fl)).setCell ⟨W0.heap.size, 7, none⟩ (.slice a2 n c2)) = F at *
    clear zc zf HK hbw
    generalize W0.heap.size = k at *
    clear hbB hri hi2 ho2 hg2 n1 n2 n3 n4
    have p0 : F.cell? ⟨ib, 0, none⟩ = some (.int .i64 no) := blk_cell HF.out.i 0
    have p1 : F.cell? ⟨ib, 1, none⟩ = some (.int .i64 wi) := blk_cell HF.out.i 1
    have p2 : F.cell? ⟨ib, 2, none⟩ = some (.int .i64 ba) := blk_cell HF.out.i 2
    have p3 : F.cell? ⟨ib, 3, none⟩ = some (.int .i64 st) := blk_cell HF.out.i 3
    have p4 : F.cell? ⟨ib, 4, none⟩ = some (.int .i64 ca) := blk_cell HF.out.i 4
    have p5 : F.cell? ⟨ib, 5, none⟩ = some (.int .i64 ro) := blk_cell HF.out.i 5
    have p6 : F.cell? ⟨ib, 6, none⟩ = some (.int .i64 fl) := blk_cell HF.out.i 6
    have p7 : F.cell? ⟨ib, 7, none⟩ = some (.slice ao n c) := blk_cell HF.out.i 7
    have q0 : F.cell? ⟨k, 0, none⟩ = some (.int .i64 no) := blk_cell HF.out.k 0
    have q1 : F.cell? ⟨k, 1, none⟩ = some (.int .i64 wi) := blk_cell HF.out.k 1
    have q2 : F.cell? ⟨k, 2, none⟩ = some (.int .i64 ba) := blk_cell HF.out.k 2
    have q3 : F.cell? ⟨k, 3, none⟩ = some (.int .i64 st) := blk_cell HF.out.k 3
    have q4 : F.cell? ⟨k, 4, none⟩ = some (.int .i64 ca) := blk_cell HF.out.k 4
    have q5 : F.cell? ⟨k, 5, none⟩ = some (.int .i64 ro) := blk_cell HF.out.k 5
    have q6 : F.cell? ⟨k, 6, none⟩ = some (.int .i64 fl) := blk_cell HF.out.k 6
    have q7 : F.cell? ⟨k, 7, none⟩ = some (.slice a2 n c2) := blk_cell HF.out.k 7
    go_wp2_with fail
    go_region_held3 (fun w' => w'.cell? ⟨ib, 0, none⟩ = some (.int .i64 no) ∧ w'.cell? ⟨ib, 1, none⟩ = some (.int .i64 wi) ∧ w'.cell? ⟨ib, 2, none⟩ = some (.int .i64 ba) ∧ w'.cell? ⟨ib, 3, none⟩ = some (.int .i64 st) ∧ w'.cell? ⟨ib, 4, none⟩ = some (.int .i64 ca) ∧ w'.cell? ⟨ib, 5, none⟩ = some (.int .i64 ro) ∧ w'.cell? ⟨ib, 6, none⟩ = some (.int .i64 fl) ∧ w'.cell? ⟨ib, 7, none⟩ = some (.slice ao n c) ∧ w'.cell? ⟨k, 0, none⟩ = some (.int .i64 no) ∧ w'.cell? ⟨k, 1, none⟩ = some (.int .i64 wi) ∧ w'.cell? ⟨k, 2, none⟩ = some (.int .i64 ba) ∧ w'.cell? ⟨k, 3, none⟩ = some (.int .i64 st) ∧ w'.cell? ⟨k, 4, none⟩ = some (.int .i64 ca) ∧ w'.cell? ⟨k, 5, none⟩ = some (.int .i64 ro) ∧ w'.cell? ⟨k, 6, none⟩ = some (.int .i64 fl) ∧ w'.cell? ⟨k, 7, none⟩ = some (.slice a2 n c2)) (go_keep)
      (first
        | (go_at_call 5; refine (check_eq _ _ _ _ _ _ _ _ _ _ xs r E _ (by first | exact (HF.out.drew _).r | exact HF.out.r) (by omega) HV.out HEE.out).mono ?_; rintro e w3 ⟨rfl, hb3⟩; have H3 : Hid (Fin w w3 ib k #[.int .i64 no, .int .i64 wi, .int .i64 ba, .int .i64 st, .int .i64 ca, .int .i64 ro, .int .i64 fl, .slice ao n c] #[.int .i64 no, .int .i64 wi, .int .i64 ba, .int .i64 st, .int .i64 ca, .int .i64 ro, .int .i64 fl, .slice a2 n c2] a2 n c2 xs) := (by first | exact (HF.out.drew _).still hb3 | exact HF.out.still hb3); clear hb3; have p0 : w3.cell? ⟨ib, 0, none⟩ = some (.int .i64 no) := blk_cell H3.out.i 0; have p1 : w3.cell? ⟨ib, 1, none⟩ = some (.int .i64 wi) := blk_cell H3.out.i 1; have p2 : w3.cell? ⟨ib, 2, none⟩ = some (.int .i64 ba) := blk_cell H3.out.i 2; have p3 : w3.cell? ⟨ib, 3, none⟩ = some (.int .i64 st) := blk_cell H3.out.i 3; have p4 : w3.cell? ⟨ib, 4, none⟩ = some (.int .i64 ca) := blk_cell H3.out.i 4; have p5 : w3.cell? ⟨ib, 5, none⟩ = some (.int .i64 ro) := blk_cell H3.out.i 5; have p6 : w3.cell? ⟨ib, 6, none⟩ = some (.int .i64 fl) := blk_cell H3.out.i 6; have p7 : w3.cell? ⟨ib, 7, none⟩ = some (.slice ao n c) := blk_cell H3.out.i 7; have q0 : w3.cell? ⟨k, 0, none⟩ = some (.int .i64 no) := blk_cell H3.out.k 0; have q1 : w3.cell? ⟨k, 1, none⟩ = some (.int .i64 wi) := blk_cell H3.out.k 1; have q2 : w3.cell? ⟨k, 2, none⟩ = some (.int .i64 ba) := blk_cell H3.out.k 2; have q3 : w3.cell? ⟨k, 3, none⟩ = some (.int .i64 st) := blk_cell H3.out.k 3; have q4 : w3.cell? ⟨k, 4, none⟩ = some (.int .i64 ca) := blk_cell H3.out.k 4; have q5 : w3.cell? ⟨k, 5, none⟩ = some (.int .i64 ro) := blk_cell H3.out.k 5; have q6 : w3.cell? ⟨k, 6, none⟩ = some (.int .i64 fl) := blk_cell H3.out.k 6; have q7 : w3.cell? ⟨k, 7, none⟩ = some (.slice a2 n c2) := blk_cell H3.out.k 7)
        | (go_at_call 4; refine (num_any _ _).mono ?_; rintro e w' ⟨rfl, rfl⟩)
        | (go_at_call 6; refine (rcheck_eq _ _ _ _ _ _ _ _ _ _ xs r E _ (by first | exact HR.out.below (H3.out.drew _).b | exact HR.out.below H3.out.b) (by omega) HV.out HEE.out).mono ?_; rintro e w4 ⟨rfl, hb4⟩; have H4 : Hid (Fin w w4 ib k #[.int .i64 no, .int .i64 wi, .int .i64 ba, .int .i64 st, .int .i64 ca, .int .i64 ro, .int .i64 fl, .slice ao n c] #[.int .i64 no, .int .i64 wi, .int .i64 ba, .int .i64 st, .int .i64 ca, .int .i64 ro, .int .i64 fl, .slice a2 n c2] a2 n c2 xs) := (by first | exact (H3.out.drew _).still hb4 | exact H3.out.still hb4); clear hb4; have p0 : w4.cell? ⟨ib, 0, none⟩ = some (.int .i64 no) := blk_cell H4.out.i 0; have p1 : w4.cell? ⟨ib, 1, none⟩ = some (.int .i64 wi) := blk_cell H4.out.i 1; have p2 : w4.cell? ⟨ib, 2, none⟩ = some (.int .i64 ba) := blk_cell H4.out.i 2; have p3 : w4.cell? ⟨ib, 3, none⟩ = some (.int .i64 st) := blk_cell H4.out.i 3; have p4 : w4.cell? ⟨ib, 4, none⟩ = some (.int .i64 ca) := blk_cell H4.out.i 4; have p5 : w4.cell? ⟨ib, 5, none⟩ = some (.int .i64 ro) := blk_cell H4.out.i 5; have p6 : w4.cell? ⟨ib, 6, none⟩ = some (.int .i64 fl) := blk_cell H4.out.i 6; have p7 : w4.cell? ⟨ib, 7, none⟩ = some (.slice ao n c) := blk_cell H4.out.i 7; have q0 : w4.cell? ⟨k, 0, none⟩ = some (.int .i64 no) := blk_cell H4.out.k 0; have q1 : w4.cell? ⟨k, 1, none⟩ = some (.int .i64 wi) := blk_cell H4.out.k 1; have q2 : w4.cell? ⟨k, 2, none⟩ = some (.int .i64 ba) := blk_cell H4.out.k 2; have q3 : w4.cell? ⟨k, 3, none⟩ = some (.int .i64 st) := blk_cell H4.out.k 3; have q4 : w4.cell? ⟨k, 4, none⟩ = some (.int .i64 ca) := blk_cell H4.out.k 4; have q5 : w4.cell? ⟨k, 5, none⟩ = some (.int .i64 ro) := blk_cell H4.out.k 5; have q6 : w4.cell? ⟨k, 6, none⟩ = some (.int .i64 fl) := blk_cell H4.out.k 6; have q7 : w4.cell? ⟨k, 7, none⟩ = some (.slice a2 n c2) := blk_cell H4.out.k 7)
        | fail)
    go_wp2_with fail
    go_ret
    first
      | exact ⟨rfl, H4.out.b⟩
      | exact ⟨rfl, (H4.out.drew _).b⟩
      | exact ⟨rfl, by rw [hib]; have h := H4.out.b; rw [hib] at h; exact h⟩

end Go.Proofs.Ytaipkoepmfojbaa.Lo
