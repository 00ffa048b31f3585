import Derived.Test.YtjnbkkmagceggaaXa
import Derived.Test.YtjnbkkmagceggaaVs
namespace Go.Proofs.Ytjnbkkmagceggaa.Dt
open Go.RowKit
set_option linter.unusedVariables false
set_option maxRecDepth 100000
set_option linter.unusedSimpArgs false
section
variable {D D' : De} {w w' W V : World} {B m : Nat}
def opCells (xs : List Opx) : List Value := xs.flatMap fun x => x.cs.toList
theorem opCells_app (a b : List Opx) : opCells (a ++ b) = opCells a ++ opCells b := by simp [opCells]
theorem opCells_len (xs : List Opx) : (opCells xs).length = xs.length * 5 := by
  induction xs with
  | nil => rfl
  | cons x xs ih => simp only [opCells, List.flatMap_cons, List.length_append] at ih ⊢; rw [ih]; simp [Opx.cs]; omega
theorem opCells_one (xs : List Opx) : ∀ u ∈ opCells xs, u.oneCell' = true := by
  intro u hu
  simp only [opCells, List.mem_flatMap] at hu
  obtain ⟨x, _, hx⟩ := hu
  simp [Opx.cs] at hx
  rcases hx with rfl | rfl | rfl | rfl | rfl <;> rfl
theorem opCells_get (xs : List Opx) (i : Nat) (hi : i < xs.length) (j : Nat) (hj : j < 5) : (opCells xs)[i * 5 + j]? = (xs.getD i o0).cs[j]? := by
  induction xs generalizing i with
  | nil => simp at hi
  | cons x xs ih =>
    have hl : x.cs.toList.length = 5 := rfl
    cases i with
    | zero =>
      simp only [opCells, List.flatMap_cons, Nat.zero_mul, Nat.zero_add]
      rw [List.getElem?_append_left (by rw [hl]; exact hj)]
      simp
    | succ i =>
      have := ih i (by simpa using hi)
      simp only [opCells, List.flatMap_cons] at this ⊢
      rw [List.getElem?_append_right (by rw [hl]; omega), hl, show (i + 1) * 5 + j - 5 = i * 5 + j by omega, this]
      simp
def RowK (w : World) (B : Nat) (v : Value) (xs : List Opx) : Prop := w.ownsRow B 61 5 v xs.length (opCells xs)
theorem RowK.still {v : Value} {xs : List Opx} (h : RowK w B v xs) (hb : Below w.heap.size w w') : RowK w' B v xs := own_still h hb
theorem RowK.slice {v : Value} {xs : List Opx} (h : RowK w B v xs) : ∃ a c, v = .slice a xs.length c := own_slice h
theorem RowK.at {v : Value} {xs : List Opx} (h : RowK w B v xs) {k : Nat} (hk : k < xs.length) : ∃ g c, v = .slice (some ⟨g, 0, none⟩) xs.length c ∧ w.cell? ⟨g, k * 5, none⟩ = some (.int .i64 (xs.getD k o0).k) ∧ w.cell? ⟨g, k * 5 + 1, none⟩ = some (.int .i64 (xs.getD k o0).q) ∧ w.cell? ⟨g, k * 5 + 2, none⟩ = some (.int .i64 (xs.getD k o0).inc) ∧ w.cell? ⟨g, k * 5 + 3, none⟩ = some (.int .i64 (xs.getD k o0).t) ∧ w.cell? ⟨g, k * 5 + 4, none⟩ = some (.slice (xs.getD k o0).ha (xs.getD k o0).hn (xs.getD k o0).hc) := by
  rcases h.2 with ⟨h1, h2⟩ | ⟨g, cap, cur, hv, hB, hg, hnc, hcm, hcs, htk⟩
  · omega
  · have key : ∀ j, j < 5 → w.cell? ⟨g, k * 5 + j, none⟩ = (xs.getD k o0).cs[j]? := fun j hj => by
      rw [blk_cell hg, ← opCells_get xs k hk j hj, ← htk, List.getElem?_take_of_lt (by omega), ← Array.getElem?_toList]
    exact ⟨g, cap, hv, key 0 (by omega), key 1 (by omega), key 2 (by omega), key 3 (by omega), key 4 (by omega)⟩
theorem RowK.ge {v : Value} {xs : List Opx} (h : RowK w B v xs) : ∀ k, v.ownBlock = some k → B ≤ k := fun k hk => (World.ownsRow.lt h k hk).1
structure KOk (D : De) (n s : Nat) (o : Opx) : Prop where
  q : ∃ q : Nat, o.q = q ∧ q < n ∧ q ≠ s ∧ (o.inc < (D.pe q).known ∨ (o.inc = (D.pe q).known ∧ posI o.t 50 ≤ (D.pe q).last))
  i : 1 ≤ o.inc ∧ o.inc ≤ 4611686018427387904
section
variable {n s b : Nat} {inc step lim : Int}
theorem hear_ok (h : D.Ok w B m) (L : Lk D n s inc step lim b) {q : Nat} (hq : q < n) (hs : q ≠ s) (i t x : Int) (hi : 1 ≤ i ∧ i ≤ 4611686018427387904) (ht : 0 ≤ t ∧ t ≤ 4611686018427387904) (hx : 0 ≤ x ∧ x ≤ 4611686018427387904) : D.okArg q i t (heaI n s x) = true := by
  have hS := L.se q
  unfold De.okArg
  rw [hS.isI hq hs, fits_hea hS t x ht hx, show inR1 i = true from decide_eq_true hi]
  rfl
theorem refused_any (h : D.Ok w B m) (L : Lk D n s inc step lim b) {o : Opx} (K : KOk D n s o) (x : Int) (hx : 0 ≤ x ∧ x ≤ 4611686018427387904) {g : Nat} (hk : BlkI w g (heaI n s x)) :
    Calls Try.prog 15 #[.pointer (some ⟨b, 0, none⟩), .int .i64 o.q, .int .i64 o.inc, .agg #[.int .i64 (posI o.t 50), .slice (some ⟨g, 0, none⟩) n n]] w fun e w2 => ∃ c : Int, e = .returned (.int .i64 c) ∧ (c = 50 ∨ c = 51) ∧ Below w.heap.size w w2 := by
  obtain ⟨q, e, hq, hs, hc⟩ := K.q
  have ht := posI_lt o.t (show (1 : Int) ≤ 50 by omega)
  have ho := hear_ok h L hq hs o.inc (posI o.t 50) x K.i ⟨ht.1, by omega⟩ hx
  rw [e]
  rcases hc with hc | ⟨h1, h2⟩
  · have := heard_old (c := n) h q o.inc (posI o.t 50) (hk.rd (heaI_len n s x)) ho (by rw [Int.toNat_natCast]; exact hc)
    rw [L.b] at this
    exact this.mono fun e w' ⟨e1, e2⟩ => ⟨50, e1, .inl rfl, e2⟩
  · have := heard_stale (c := n) h q o.inc (posI o.t 50) (hk.rd (heaI_len n s x)) ho (by rw [Int.toNat_natCast]; exact h1) (by rw [Int.toNat_natCast]; exact h2)
    rw [L.b] at this
    exact this.mono fun e w' ⟨e1, e2⟩ => ⟨51, e1, .inr rfl, e2⟩
theorem KOk.tick {o : Opx} (K : KOk D n s o) : KOk D.ticked n s o := by
  obtain ⟨⟨q, e, hq, hs, hc⟩, hi⟩ := K
  refine ⟨⟨q, e, hq, hs, ?_⟩, hi⟩
  have e1 : (D.ticked.pe q).known = (D.pe q).known ∧ (D.ticked.pe q).last = (D.pe q).last := by
    show (if q < D.n ∧ q ≠ D.self then Pe.tick (D.pe q) else D.pe q).known = _ ∧ (if q < D.n ∧ q ≠ D.self then Pe.tick (D.pe q) else D.pe q).last = _
    split
    · unfold Pe.tick; split <;> exact ⟨rfl, rfl⟩
    · exact ⟨rfl, rfl⟩
  rw [e1.1, e1.2]
  exact hc
theorem herr_ok {q i t : Int} {xs : List Int} (h : D.herr q i t xs = 0) : D.okArg q i t xs = true ∧ ((D.pe q.toNat).known < i ∨ (i = (D.pe q.toNat).known ∧ (D.pe q.toNat).last < t)) := by
  unfold De.herr at h
  cases ho : D.okArg q i t xs with
  | false => rw [ho] at h; simp at h
  | true =>
    rw [ho] at h
    simp only [Bool.true_eq_false, if_false] at h
    refine ⟨rfl, ?_⟩
    split at h
    · omega
    · split at h
      · omega
      · omega
theorem KOk.after {o : Opx} (K : KOk D n s o) (q' i t : Int) (xs : List Int) : KOk (D.after q' i t xs) n s o := by
  unfold De.after
  by_cases h0 : D.herr q' i t xs = 0
  · rw [if_pos h0]
    obtain ⟨⟨q, e, hq, hs, hc⟩, hi⟩ := K
    refine ⟨⟨q, e, hq, hs, ?_⟩, hi⟩
    by_cases hqq : q = q'.toNat
    · have h1 := (herr_ok h0).2
      rw [← hqq] at h1 ⊢
      have e1 : ((D.set q (D.taken (D.pe q) i t (xs.getD D.self 0))).pe q).known = i ∧ ((D.set q (D.taken (D.pe q) i t (xs.getD D.self 0))).pe q).last = t := by
        unfold De.set
        simp only [upd_same]
        exact ⟨rfl, rfl⟩
      rw [e1.1, e1.2]
      omega
    · have e1 : (D.set q'.toNat (D.taken (D.pe q'.toNat) i t (xs.getD D.self 0))).pe q = D.pe q := upd_ne _ _ hqq
      rw [e1]
      exact hc
  · rw [if_neg h0]; exact K
theorem KOk.new (L : Lk D n s inc step lim b) {o : Opx} {xs : List Int} (h0 : D.herr o.q o.inc (posI o.t 50) xs = 0) : KOk (D.after o.q o.inc (posI o.t 50) xs) n s o := by
  unfold De.after
  rw [if_pos h0]
  have h1 := (herr_ok h0).1
  unfold De.okArg at h1
  simp only [Bool.and_eq_true] at h1
  obtain ⟨⟨hq1, hq2⟩, hq3⟩ := isI_is h1.1
  refine ⟨⟨o.q.toNat, hq3, by rw [← L.n]; exact hq1, by rw [← L.s]; exact hq2, .inr ?_⟩, of_decide_eq_true h1.2.1⟩
  unfold De.set
  simp only [upd_same]
  exact ⟨rfl, Int.le_refl _⟩
theorem first_ok (h : D.Ok w B m) (L : Lk D n s inc step lim b) {q i t x : Int} (hq : 0 ≤ q ∧ q < n ∧ q ≠ s) (hk : D.known q < i) (hi : i ≤ 4611686018427387904) (ht : 0 ≤ t ∧ t ≤ 4611686018427387904) (hx : 0 ≤ x ∧ x ≤ 4611686018427387904) : D.herr q i t (heaI n s x) = 0 := by
  obtain ⟨q', e⟩ : ∃ q' : Nat, q = q' := ⟨q.toNat, by omega⟩
  subst e
  have hS := L.se q'
  have hq1 : q' < n := by omega
  have hq2 : q' ≠ s := by omega
  have hr := (h.rng q' (hS.is hq1 hq2)).known
  have hkk : D.known (q' : Int) = (D.pe q').known := hS.known hq1 hq2
  rw [hkk] at hk
  unfold De.herr
  rw [hear_ok h L hq1 hq2 i t x ⟨by omega, hi⟩ ht hx, Int.toNat_natCast]
  simp only [Bool.true_eq_false, if_false]
  rw [if_neg (by omega), if_neg (by omega)]
end
end
end Go.Proofs.Ytjnbkkmagceggaa.Dt
