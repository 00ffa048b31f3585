import Derived.Test.YtfbollifegngjaaVk
import Derived.Test.YtfbollifegngjaaVm
namespace Go.Proofs.Ytfbollifegngjaa.Dt
open Go.RowKit
set_option linter.unusedVariables false
set_option maxRecDepth 100000
set_option linter.unusedSimpArgs false
structure Bt where
  t : Int
  xs : List Int
structure Mp (D : De) (s q : Nat) : Prop where
  n : D.n = 2
  sf : D.self = s
  q2 : q < 2
  s2 : s < 2
  ne : q ≠ s
  inc : 1 ≤ D.inc ∧ D.inc ≤ 4611686018427387904
  known : 0 ≤ (D.pe q).known ∧ (D.pe q).known ≤ 4611686018427387904
  ticks : 1 ≤ (D.pe q).ticks
  tick : 0 ≤ D.tick
structure Hf (D E : De) (s q : Nat) (T : List Bt) (S : Bool) (k : Nat) : Prop where
  known : (D.pe q).known = 0 ∨ (D.pe q).known = E.inc
  both : (D.pe q).both = true → S = true ∧ (E.pe s).known = D.inc
  last : (D.pe q).last ≤ E.tick
  told : ∀ x ∈ T, (x.xs.length = 2 ∧ x.xs.all inR = true) ∧ (1 ≤ x.t ∧ x.t ≤ E.tick) ∧ (x.xs.getD s 0 = D.inc → S = true ∧ (E.pe s).known = D.inc)
  tick : E.tick ≤ k
section
variable {D E : De} {s q : Nat} {T : List Bt} {S : Bool} {k : Nat}
theorem Mp.isI (h : Mp D s q) : D.isI q = true := by
  unfold De.isI
  exact decide_eq_true ⟨by omega, by rw [h.n]; have := h.q2; omega, by rw [h.sf]; have := h.ne; omega⟩
theorem tick_pe (h : Mp D s q) : D.ticked.pe q = (D.pe q).tick := by
  show (if q < D.n ∧ q ≠ D.self then Pe.tick (D.pe q) else D.pe q) = _
  rw [if_pos ⟨by rw [h.n]; exact h.q2, by rw [h.sf]; exact h.ne⟩]
theorem gone_pe (h : Mp D s q) : D.gone.pe q = (D.pe q).deaf := by
  show (if q < D.n ∧ q ≠ D.self then Pe.deaf (D.pe q) else D.pe q) = _
  rw [if_pos ⟨by rw [h.n]; exact h.q2, by rw [h.sf]; exact h.ne⟩]
theorem petick (p : Pe) : p.tick.known = p.known ∧ p.tick.last = p.last ∧ p.tick.both = p.both ∧ p.tick.ticks = p.ticks ∧ (p.tick.heard = true → p.heard = true) ∧ (p.heard = true → p.age = 0 → 1 ≤ p.ticks → p.tick.heard = true) := by
  unfold Pe.tick
  cases h : p.heard with
  | false => simp [h]
  | true => simp [h, Pe.older]; omega
theorem tick_tick (hk : D.tick ≤ 1000) : D.ticked.tick = D.tick + 1 := by
  show (if D.tick < 4611686018427387904 then D.tick + 1 else D.tick) = _
  rw [if_pos (by omega)]
theorem Mp.ticked (h : Mp D s q) (hk : D.tick ≤ 1000) : Mp D.ticked s q :=
  ⟨h.n, h.sf, h.q2, h.s2, h.ne, h.inc, by rw [tick_pe h, (petick _).1]; exact h.known, by rw [tick_pe h, (petick _).2.2.2.1]; exact h.ticks, by rw [tick_tick hk]; have := h.tick; omega⟩
theorem Mp.gone (h : Mp D s q) : Mp D.gone s q :=
  ⟨h.n, h.sf, h.q2, h.s2, h.ne, h.inc, by rw [gone_pe h]; exact h.known, by rw [gone_pe h]; exact h.ticks, h.tick⟩
theorem at_hears (h : Mp D s q) : D.hears.getD q 0 = if (D.pe q).heard then (D.pe q).known else 0 := by
  unfold De.hears De.lst
  rw [show ((List.range D.n).map (fun q => if q = D.self then (if D.left = true then 0 else D.inc) else if Pe.hrd (D.pe q) = true then (D.pe q).known else 0)).getD q 0 = (if q = D.self then (if D.left = true then 0 else D.inc) else if Pe.hrd (D.pe q) = true then (D.pe q).known else 0) from by simp [List.getD, show q < D.n by rw [h.n]; exact h.q2]]
  rw [if_neg (by rw [h.sf]; exact h.ne)]
  rfl
theorem len_hears (h : Mp D s q) : D.hears.length = 2 := by unfold De.hears; rw [lst_len, h.n]
theorem len_ests (h : Mp D s q) : D.ests.length = 2 := by unfold De.ests; rw [lst_len, h.n]
theorem atI_hears (h : Mp D s q) : atI D.hears q = if (D.pe q).heard then (D.pe q).known else 0 := by
  unfold atI
  rw [len_hears h, if_neg (by have := h.q2; omega), Int.toNat_natCast, at_hears h]
theorem atI_ests (h : Mp D s q) : atI D.ests q = if (D.pe q).heard && (D.pe q).both then (D.pe q).known else 0 := by
  unfold atI
  rw [len_ests h, if_neg (by have := h.q2; omega), Int.toNat_natCast]
  unfold De.ests De.lst
  rw [show ((List.range D.n).map (fun q => if q = D.self then D.inc else if Pe.pair (D.pe q) = true then (D.pe q).known else 0)).getD q 0 = (if q = D.self then D.inc else if Pe.pair (D.pe q) = true then (D.pe q).known else 0) from by simp [List.getD, show q < D.n by rw [h.n]; exact h.q2]]
  rw [if_neg (by rw [h.sf]; exact h.ne)]
  rfl
theorem atI_own (h : Mp D s q) : atI D.ests s = D.inc := by
  unfold atI
  rw [len_ests h, if_neg (by have := h.s2; omega), Int.toNat_natCast]
  unfold De.ests De.lst
  rw [show ((List.range D.n).map (fun q => if q = D.self then D.inc else if Pe.pair (D.pe q) = true then (D.pe q).known else 0)).getD s 0 = (if s = D.self then D.inc else if Pe.pair (D.pe s) = true then (D.pe s).known else 0) from by simp [List.getD, show s < D.n by rw [h.n]; exact h.s2]]
  rw [if_pos h.sf.symm]
theorem hears_in (h : Mp D s q) : D.hears.all inR = true := by
  rw [List.all_eq_true]
  intro y hy
  unfold De.hears De.lst at hy
  obtain ⟨i, hi, rfl⟩ := List.mem_map.1 hy
  have hi2 := List.mem_range.1 hi
  rw [h.n] at hi2
  have h1 := h.inc
  have h2 := h.known
  have h3 := h.s2
  have h4 := h.q2
  have h5 := h.ne
  unfold inR
  apply decide_eq_true
  by_cases e : i = D.self
  · rw [if_pos e]
    split <;> omega
  · rw [if_neg e]
    have e2 : i = q := by rw [h.sf] at e; omega
    subst e2
    split <;> omega
theorem Hf.est (h : Hf D E s q T S k) (hp : Mp D s q) (hv : atI D.ests q ≠ 0) : atI D.ests q = E.inc ∧ S = true ∧ (E.pe s).known = D.inc := by
  rw [atI_ests hp] at hv ⊢
  cases h1 : (D.pe q).heard <;> cases h2 : (D.pe q).both <;> simp [h1, h2] at hv ⊢
  exact ⟨h.known.resolve_left hv, h.both h2⟩
theorem Hf.up (h : Hf D E s q T S k) : Hf D E s q T S (k + 1) := ⟨h.known, h.both, h.last, h.told, by have := h.tick; omega⟩
theorem Hf.tick1 (h : Hf D E s q T S k) (hp : Mp D s q) : Hf D.ticked E s q T S (k + 1) := by
  obtain ⟨e1, e2, e3, e4, e5, e6⟩ := petick (D.pe q)
  exact ⟨by rw [tick_pe hp, e1]; exact h.known, by rw [tick_pe hp, e3]; exact h.both, by rw [tick_pe hp, e2]; exact h.last, h.told, by have := h.tick; omega⟩
theorem Hf.tick2 (h : Hf D E s q T S k) (he : Mp E q s) (hd : 1 ≤ D.inc) (hk : k ≤ 900) : Hf D E.ticked s q (T ++ [⟨E.ticked.tick, E.ticked.hears⟩]) (S || (atI E.ticked.hears s == D.inc)) (k + 1) := by
  obtain ⟨e1, e2, e3, e4, e5, e6⟩ := petick (E.pe s)
  have ht := h.tick
  have h0 := he.tick
  have hE : E.tick ≤ 1000 := by omega
  have ht2 := tick_tick hE
  have hm := he.ticked hE
  refine ⟨h.known, fun hb => ?_, by rw [ht2]; have := h.last; omega, fun x hx => ?_, by rw [ht2]; omega⟩
  · rw [tick_pe he, e1]
    have := h.both hb
    exact ⟨by rw [this.1]; rfl, this.2⟩
  · rcases List.mem_append.1 hx with h1 | h1
    · obtain ⟨a, b, c⟩ := h.told x h1
      refine ⟨a, ⟨b.1, by rw [ht2]; omega⟩, fun e => ?_⟩
      have := c e
      rw [tick_pe he, e1]
      exact ⟨by rw [this.1]; rfl, this.2⟩
    · simp only [List.mem_singleton] at h1
      subst h1
      refine ⟨⟨len_hears hm, hears_in hm⟩, ⟨by show 1 ≤ E.ticked.tick; rw [ht2]; omega, Int.le_refl _⟩, fun e => ?_⟩
      have e : E.ticked.hears.getD s 0 = D.inc := e
      have ha := atI_hears hm
      rw [at_hears hm] at e
      rw [ha, e]
      refine ⟨by simp, ?_⟩
      split at e
      · exact e
      · omega
theorem Hf.gone1 (h : Hf D E s q T S k) (hp : Mp D s q) : Hf D.gone E s q T S (k + 1) :=
  ⟨by rw [gone_pe hp]; exact h.known, by rw [gone_pe hp]; exact h.both, by rw [gone_pe hp]; exact h.last, h.told, by have := h.tick; omega⟩
theorem Hf.gone2 (h : Hf D E s q T S k) (he : Mp E q s) : Hf D E.gone s q T S (k + 1) :=
  ⟨h.known, by rw [gone_pe he]; exact h.both, h.last, by rw [gone_pe he]; exact h.told, by have := h.tick; show E.tick ≤ _; omega⟩
theorem after_eq (D : De) (q : Nat) (i t : Int) (xs : List Int) : (D.after q i t xs = D ∧ D.herr q i t xs ≠ 0) ∨ (D.after q i t xs = D.set q (D.taken (D.pe q) i t (xs.getD D.self 0)) ∧ D.herr q i t xs = 0) := by
  unfold De.after
  by_cases h : D.herr q i t xs = 0
  · right; rw [if_pos h, Int.toNat_natCast]; exact ⟨rfl, h⟩
  · left; rw [if_neg h]; exact ⟨rfl, h⟩
theorem taken_is (D : De) (p : Pe) (i t x : Int) : (D.taken p i t x).known = i ∧ (D.taken p i t x).last = t ∧ (D.taken p i t x).age = 0 ∧ (D.taken p i t x).heard = !D.left ∧ (D.taken p i t x).both = decide (x = D.inc) := ⟨rfl, rfl, rfl, rfl, rfl⟩
theorem after_fields (D : De) (q i t : Int) (xs : List Int) : (D.after q i t xs).n = D.n ∧ (D.after q i t xs).self = D.self ∧ (D.after q i t xs).inc = D.inc ∧ (D.after q i t xs).tick = D.tick ∧ (D.after q i t xs).left = D.left ∧ (D.after q i t xs).b = D.b ∧ (D.after q i t xs).limit = D.limit ∧ (D.after q i t xs).step = D.step := by
  unfold De.after
  split <;> exact ⟨rfl, rfl, rfl, rfl, rfl, rfl, rfl, rfl⟩
theorem Hf.hear1 (h : Hf D E s q T S k) (hp : Mp D s q) {x : Bt} (hx : x ∈ T) : Hf (D.after q E.inc x.t x.xs) E s q T S (k + 1) := by
  rcases after_eq D q E.inc x.t x.xs with ⟨e, _⟩ | ⟨e, _⟩
  · rw [e]; exact h.up
  · rw [e]
    have ep : ∀ P, (D.set q P).pe q = P := fun P => set_at D q P
    obtain ⟨a, b, c⟩ := h.told x hx
    refine ⟨by rw [ep]; exact .inr rfl, fun hb => ?_, by rw [ep]; exact b.2, h.told, by have := h.tick; omega⟩
    rw [ep] at hb
    have hb2 : x.xs.getD D.self 0 = D.inc := of_decide_eq_true hb
    rw [hp.sf] at hb2
    exact c hb2
theorem Hf.hear2 (h : Hf E D q s T S k) (i t : Int) (xs : List Int) (hi : i = E.inc) : Hf E (D.after q i t xs) q s T S (k + 1) := by
  obtain ⟨f1, f2, f3, f4, f5, f6, f7, f8⟩ := after_fields D q i t xs
  have key : ∀ v, (D.pe q).known = v → v = E.inc → ((D.after q i t xs).pe q).known = v := fun v hv he => by
    rcases after_eq D q i t xs with ⟨e, _⟩ | ⟨e, _⟩
    · rw [e]; exact hv
    · rw [e, set_at]; show i = v; omega
  refine ⟨by rw [f3]; exact h.known, fun hb => ?_, by rw [f4]; exact h.last, fun x hx => ?_, by rw [f4]; have := h.tick; omega⟩
  · have := h.both hb
    exact ⟨this.1, key _ this.2 rfl⟩
  · obtain ⟨a, b, c⟩ := h.told x hx
    exact ⟨a, by rw [f4]; exact b, fun e => ⟨(c e).1, key _ (c e).2 rfl⟩⟩
structure Fr (D E : De) (s q : Nat) (T : List Bt) (z : Bool) : Prop where
  out : ∃ x, T.getLast? = some x ∧ (D.pe q).last < x.t ∧ (z = true → x.xs.getD s 0 = D.inc)
theorem Hf.fresh (h : Hf D E s q T S k) (he : Mp E q s) (hd : 1 ≤ D.inc) (hk : k ≤ 900) (z : Bool) (hz : z = true → E.ticked.pe s = (E.pe s).tick → (E.ticked.pe s).heard = true ∧ (E.pe s).known = D.inc) : Fr D E.ticked s q (T ++ [⟨E.ticked.tick, E.ticked.hears⟩]) z := by
  have hE : E.tick ≤ 1000 := by have := h.tick; omega
  refine ⟨_, by simp only [List.getLast?_append, List.getLast?_singleton, Option.some_or]; rfl, ?_, fun e => ?_⟩
  · show (D.pe q).last < E.ticked.tick
    rw [tick_tick hE]
    have := h.last
    omega
  · show E.ticked.hears.getD s 0 = D.inc
    obtain ⟨h1, h2⟩ := hz e (tick_pe he)
    rw [at_hears (he.ticked hE), h1, if_pos rfl, tick_pe he, (petick _).1, h2]
theorem Hf.takes (h : Hf D E s q T S k) (hp : Mp D s q) (hE : 1 ≤ E.inc ∧ E.inc ≤ 4611686018427387904) (hk : k ≤ 900) (hl : D.left = false) {x : Bt} (hx : T.getLast? = some x) {z : Bool} (hf : Fr D E s q T z) : ((D.after q E.inc x.t x.xs).pe q).heard = true ∧ ((D.after q E.inc x.t x.xs).pe q).age = 0 ∧ ((D.after q E.inc x.t x.xs).pe q).known = E.inc ∧ (z = true → ((D.after q E.inc x.t x.xs).pe q).both = true) := by
  obtain ⟨y, hy, h1, h2⟩ := hf.out
  obtain rfl : x = y := by rw [hx] at hy; exact Option.some.inj hy
  have hm : x ∈ T := List.mem_of_getLast? hx
  obtain ⟨a, b, c⟩ := h.told x hm
  have ht := h.tick
  have h0 : D.herr q E.inc x.t x.xs = 0 := by
    unfold De.herr De.okArg De.fits
    rw [hp.isI, show inR1 E.inc = true from decide_eq_true hE, show inR x.t = true from decide_eq_true (by omega), a.1, hp.n, a.2, Int.toNat_natCast]
    simp only [decide_true, Bool.and_self, Bool.true_eq_false, if_false]
    have := h.known
    rw [if_neg (by omega), if_neg (by omega)]
  rcases after_eq D q E.inc x.t x.xs with ⟨_, e⟩ | ⟨e, _⟩
  · exact absurd h0 e
  · rw [e, set_at]
    refine ⟨by show (!D.left) = true; rw [hl]; rfl, rfl, rfl, fun e2 => ?_⟩
    show decide (x.xs.getD D.self 0 = D.inc) = true
    rw [hp.sf]
    exact decide_eq_true (h2 e2)
end
end Go.Proofs.Ytfbollifegngjaa.Dt
