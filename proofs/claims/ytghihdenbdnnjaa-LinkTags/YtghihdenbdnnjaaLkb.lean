import Derived.Test.YtghihdenbdnnjaaLka
namespace Go.Proofs.Ytghihdenbdnnjaa.Ln
open Go.RowKit Mb
set_option linter.unusedVariables false
set_option maxRecDepth 100000
set_option linter.unusedSimpArgs false
def nm (p L i : Nat) : Nat := p + 1 + (i + L - (p + 1) % L) % L
theorem mod_add_d (x d L : Nat) (hL : 0 < L) (hd : d < L) : (x + d) % L = if x % L + d < L then x % L + d else x % L + d - L := by
  have hx := Nat.mod_lt x hL
  rw [Nat.add_mod, Nat.mod_eq_of_lt hd]
  by_cases h : x % L + d < L
  · rw [if_pos h, Nat.mod_eq_of_lt h]
  · rw [if_neg h, Nat.mod_eq_sub_mod (by omega), Nat.mod_eq_of_lt (by omega)]
theorem nm_mod {p L n : Nat} (h1 : p < n) (h2 : n ≤ p + L) : nm p L (n % L) = n := by
  have hL : 0 < L := by omega
  obtain ⟨d, rfl⟩ : ∃ d, n = p + 1 + d := ⟨n - (p + 1), by omega⟩
  have hd : d < L := by omega
  have ha := Nat.mod_lt (p + 1) hL
  unfold nm
  rw [mod_add_d (p + 1) d L hL hd]
  generalize (p + 1) % L = a at *
  by_cases h : a + d < L
  · rw [if_pos h, show a + d + L - a = d + L by omega, Nat.add_mod_right, Nat.mod_eq_of_lt hd]
  · rw [if_neg h, show a + d - L + L - a = d by omega, Nat.mod_eq_of_lt hd]
theorem nm_gt (p L i : Nat) : p < nm p L i := by unfold nm; omega
theorem nm_le {p L : Nat} (i : Nat) (hL : 0 < L) : nm p L i ≤ p + L := by
  have := Nat.mod_lt (i + L - (p + 1) % L) hL
  unfold nm; omega
theorem nm_res {p L i : Nat} (hi : i < L) : nm p L i % L = i := by
  have hL : 0 < L := by omega
  have ha := Nat.mod_lt (p + 1) hL
  unfold nm
  have hd := Nat.mod_lt (i + L - (p + 1) % L) hL
  rw [mod_add_d (p + 1) _ L hL hd]
  generalize (p + 1) % L = a at *
  by_cases h : a ≤ i
  · have e : (i + L - a) % L = i - a := by rw [show i + L - a = (i - a) + L by omega, Nat.add_mod_right, Nat.mod_eq_of_lt (by omega)]
    rw [e, if_pos (by omega)]; omega
  · have e : (i + L - a) % L = i + L - a := Nat.mod_eq_of_lt (by omega)
    rw [e, if_neg (by omega)]; omega
theorem nm_next {p L i : Nat} (hi : i < L) (h : i ≠ (p + 1) % L) : nm (p + 1) L i = nm p L i := by
  have hL : 0 < L := by omega
  have h1 := nm_gt p L i
  have h2 := nm_le (p := p) i hL
  have h3 := nm_res (p := p) hi
  have : nm p L i ≠ p + 1 := by intro e; rw [e] at h3; exact h h3.symm
  have h4 := nm_mod (p := p + 1) (L := L) (n := nm p L i) (by omega) (by omega)
  rwa [h3] at h4
theorem nm_next_same {p L : Nat} (hL : 0 < L) : nm (p + 1) L ((p + 1) % L) = p + 1 + L := by
  have h4 := nm_mod (p := p + 1) (L := L) (n := p + 1 + L) (by omega) (by omega)
  rwa [Nat.add_mod_right] at h4
theorem mod_inj {p L n m : Nat} (h1 : p < n) (h2 : n ≤ p + L) (h3 : p < m) (h4 : m ≤ p + L) (e : n % L = m % L) : n = m := by
  rw [← nm_mod h1 h2, ← nm_mod h3 h4, e]

structure Bd where
  k : Nat
  bs : List Int
def Bd.v (b : Bd) : Value := .slice (some ⟨b.k, 0, none⟩) b.bs.length b.bs.length
structure St where
  p : Nat
  L : Nat
  rb : Nat
  f : Nat → Option Bd
def noV (n : Nat) : Option Bd → Value
  | some _ => .int .i64 (n : Int)
  | none => .int .i64 0
def thV : Option Bd → Value
  | some b => b.v
  | none => .slice none 0 0
def St.cs (S : St) (i : Nat) : List Value := [noV (nm S.p S.L i) (S.f (nm S.p S.L i)), thV (S.f (nm S.p S.L i))]
def St.rf (S : St) (j : Nat) : Value := (S.cs (j / 2)).getD (j % 2) undef
def St.ring (S : St) : Value := .slice (if S.L = 0 then none else some ⟨S.rb, 0, none⟩) S.L S.L
def St.own (S : St) (j : Nat) : Prop := (0 < S.L ∧ j = S.rb) ∨ ∃ n b, S.f n = some b ∧ j = b.k
def St.set (S : St) (n : Nat) (b : Bd) : St := { S with f := upd S.f n (some b) }
def St.nxt (S : St) : St := { S with p := S.p + 1, f := upd S.f (S.p + 1) none }
section
variable {w w' W : World} {B : Nat} {S S' : St}
structure Body (w : World) (B : Nat) (b : Bd) : Prop where
  bk : Bk w b.k b.bs
  by_ : By b.bs
  pos : 0 < b.bs.length
  le : b.bs.length ≤ 300
  lo : B ≤ b.k
theorem Body.keep {b : Bd} {P : Nat → Prop} (h : Body w B b) (k : Kept w w' P) (hp : ¬ P b.k) : Body w' B b := ⟨h.bk.keep k hp, h.by_, h.pos, h.le, h.lo⟩
theorem Body.still {b : Bd} (h : Body w B b) (hb : Below w.heap.size w w') : Body w' B b := h.keep (Kept.ofBelow hb (fun _ => False)) id
theorem Body.rd {b : Bd} (h : Body w B b) : Rd w (some ⟨b.k, 0, none⟩) b.bs.length b.bs.length b.bs := h.bk.all _ (Nat.le_refl _) h.by_
structure St.Ok (S : St) (w : World) (B : Nat) : Prop where
  row : 0 < S.L → Fb w S.rb 91 (S.L * 2) S.rf ∧ B ≤ S.rb
  el : ∀ n b, S.f n = some b → Body w B b
  inw : ∀ n b, S.f n = some b → S.p < n ∧ n ≤ S.p + S.L
  inj : ∀ n m b c, S.f n = some b → S.f m = some c → b.k = c.k → n = m
  le : S.L ≤ 40000
  p62 : S.p ≤ 4611686018427387904
theorem St.Ok.ne {n : Nat} {b : Bd} (h : S.Ok w B) (hL : 0 < S.L) (hb : S.f n = some b) : b.k ≠ S.rb := by
  obtain ⟨C, h1, _⟩ := (h.row hL).1
  exact bk_ne (h.el n b hb).bk h1 (by decide)
theorem St.Ok.lt (h : S.Ok w B) {j : Nat} (hj : S.own j) : j < w.heap.size := by
  rcases hj with ⟨h1, rfl⟩ | ⟨n, b, h1, rfl⟩
  · exact (h.row h1).1.lt
  · exact (h.el n b h1).bk.lt
theorem St.Ok.lo (h : S.Ok w B) {j : Nat} (hj : S.own j) : B ≤ j := by
  rcases hj with ⟨h1, rfl⟩ | ⟨n, b, h1, rfl⟩
  · exact (h.row h1).2
  · exact (h.el n b h1).lo
theorem St.Ok.keep {P : Nat → Prop} (h : S.Ok w B) (k : Kept w w' P) (hp : ∀ j, S.own j → ¬ P j) : S.Ok w' B :=
  ⟨fun hL => ⟨(h.row hL).1.keep k (hp _ (.inl ⟨hL, rfl⟩)), (h.row hL).2⟩, fun n b hb => (h.el n b hb).keep k (hp _ (.inr ⟨n, b, hb, rfl⟩)), h.inw, h.inj, h.le, h.p62⟩
theorem St.Ok.still (h : S.Ok w B) (hb : Below w.heap.size w w') : S.Ok w' B := h.keep (Kept.ofBelow hb (fun _ => False)) fun _ _ => id
theorem St.Ok.none_gt (h : S.Ok w B) {n : Nat} (hn : S.p + S.L < n) : S.f n = none := by
  cases e : S.f n with
  | none => rfl
  | some b => have := (h.inw n b e).2; omega
theorem St.Ok.none_le (h : S.Ok w B) {n : Nat} (hn : n ≤ S.p) : S.f n = none := by
  cases e : S.f n with
  | none => rfl
  | some b => have := (h.inw n b e).1; omega
theorem St.cell_no (h : Fb w S.rb 91 (S.L * 2) S.rf) {i : Nat} (hi : i < S.L) : w.cell? ⟨S.rb, i * 2, none⟩ = some (noV (nm S.p S.L i) (S.f (nm S.p S.L i))) := by
  rw [h.cell _ (by omega)]
  unfold St.rf St.cs
  rw [show i * 2 / 2 = i by omega, show i * 2 % 2 = 0 by omega]
  rfl
theorem St.cell_th (h : Fb w S.rb 91 (S.L * 2) S.rf) {i : Nat} (hi : i < S.L) : w.cell? ⟨S.rb, i * 2 + 1, none⟩ = some (thV (S.f (nm S.p S.L i))) := by
  rw [h.cell _ (by omega)]
  unfold St.rf St.cs
  rw [show (i * 2 + 1) / 2 = i by omega, show (i * 2 + 1) % 2 = 1 by omega]
  rfl
theorem rf_ext {S S' : St} {k : Nat} {l : List Value} (hl : l.length = 2) (h : ∀ i, i ≠ k → i < S.L → S'.cs i = S.cs i) (hk : S'.cs k = l) {j : Nat} (hj : j < S.L * 2) : (if k * 2 ≤ j ∧ j < k * 2 + l.length then l.getD (j - k * 2) undef else S.rf j) = S'.rf j := by
  unfold St.rf
  rw [hl]
  by_cases e : k * 2 ≤ j ∧ j < k * 2 + 2
  · rw [if_pos e, show j / 2 = k by omega, hk, show j % 2 = j - k * 2 by omega]
  · rw [if_neg e, h (j / 2) (by omega) (by omega)]
theorem set_row (h : S.Ok w B) (hL : 0 < S.L) {n : Nat} (h1 : S.p < n) (h2 : n ≤ S.p + S.L) (b : Bd) : Fb (w.setCells S.rb (n % S.L * 2) [.int .i64 (n : Int), b.v]) S.rb 91 (S.L * 2) (S.set n b).rf := by
  refine (Fb.sets _ _ _ _ (h.row hL).1).congr fun j hj => rf_ext rfl (fun i hi hl => ?_) ?_ hj
  · have : nm S.p S.L i ≠ n := by intro e; rw [← e, nm_res hl] at hi; exact hi rfl
    unfold St.cs St.set
    simp only
    rw [upd_ne _ _ this]
  · unfold St.cs St.set
    simp only
    rw [nm_mod h1 h2, upd_same]
    rfl
theorem nxt_row (h : S.Ok w B) (hL : 0 < S.L) : Fb (w.setCells S.rb ((S.p + 1) % S.L * 2) [.int .i64 0, .slice none 0 0]) S.rb 91 (S.L * 2) S.nxt.rf := by
  refine (Fb.sets _ _ _ _ (h.row hL).1).congr fun j hj => rf_ext rfl (fun i hi hl => ?_) ?_ hj
  · have h3 := nm_next (p := S.p) hl hi
    have h4 : nm S.p S.L i ≠ S.p + 1 := by intro e; have := nm_res (p := S.p) hl; rw [e] at this; exact hi this.symm
    unfold St.cs St.nxt
    simp only
    rw [h3, upd_ne _ _ h4]
  · unfold St.cs St.nxt
    simp only
    rw [nm_next_same hL, upd_ne _ _ (by omega), h.none_gt (by omega)]
    rfl
theorem St.Ok.set (h : S.Ok w B) (hL : 0 < S.L) {n : Nat} (h1 : S.p < n) (h2 : n ≤ S.p + S.L) {b : Bd} (hb : Body w B b) (hn : ¬ S.own b.k) : (S.set n b).Ok (w.setCells S.rb (n % S.L * 2) [.int .i64 (n : Int), b.v]) B := by
  have k : Kept w (w.setCells S.rb (n % S.L * 2) [.int .i64 (n : Int), b.v]) (fun j => j = S.rb) := ksets (P := fun j => j = S.rb) rfl _ _ _
  refine ⟨fun _ => ⟨set_row h hL h1 h2 b, (h.row hL).2⟩, fun m c hc => ?_, fun m c hc => ?_, fun m m' c c' hc hc' e => ?_, h.le, h.p62⟩
  · by_cases e : m = n
    · subst e
      simp only [St.set, upd_same, Option.some.injEq] at hc
      subst hc
      exact hb.keep k (fun e => hn (.inl ⟨hL, e⟩))
    · simp only [St.set, upd_ne _ _ e] at hc
      exact (h.el m c hc).keep k (h.ne hL hc)
  · by_cases e : m = n
    · subst e; exact ⟨h1, h2⟩
    · simp only [St.set, upd_ne _ _ e] at hc
      exact h.inw m c hc
  · by_cases e1 : m = n
    · by_cases e2 : m' = n
      · rw [e1, e2]
      · subst e1
        simp only [St.set, upd_same, upd_ne _ _ e2, Option.some.injEq] at hc hc'
        subst hc
        exact (hn (.inr ⟨m', c', hc', e⟩)).elim
    · by_cases e2 : m' = n
      · subst e2
        simp only [St.set, upd_same, upd_ne _ _ e1, Option.some.injEq] at hc hc'
        subst hc'
        exact (hn (.inr ⟨m, c, hc, e.symm⟩)).elim
      · simp only [St.set, upd_ne _ _ e1, upd_ne _ _ e2] at hc hc'
        exact h.inj m m' c c' hc hc' e
theorem St.Ok.nxt (h : S.Ok w B) (hL : 0 < S.L) (h62 : S.p + 1 ≤ 4611686018427387904) : S.nxt.Ok (w.setCells S.rb ((S.p + 1) % S.L * 2) [.int .i64 0, .slice none 0 0]) B := by
  have k : Kept w (w.setCells S.rb ((S.p + 1) % S.L * 2) [.int .i64 0, .slice none 0 0]) (fun j => j = S.rb) := ksets (P := fun j => j = S.rb) rfl _ _ _
  have hf : ∀ m c, S.nxt.f m = some c → S.f m = some c ∧ m ≠ S.p + 1 := fun m c hc => by
    by_cases e : m = S.p + 1
    · subst e; simp only [St.nxt, upd_same] at hc; cases hc
    · simp only [St.nxt, upd_ne _ _ e] at hc; exact ⟨hc, e⟩
  refine ⟨fun _ => ⟨nxt_row h hL, (h.row hL).2⟩, fun m c hc => (h.el m c (hf m c hc).1).keep k (h.ne hL (hf m c hc).1), fun m c hc => ?_, fun m m' c c' hc hc' e => h.inj m m' c c' (hf m c hc).1 (hf m' c' hc').1 e, h.le, h62⟩
  obtain ⟨h1, h2⟩ := hf m c hc
  have := h.inw m c h1
  exact ⟨by show S.p + 1 < m; omega, by show m ≤ S.p + 1 + S.L; omega⟩
end
end Go.Proofs.Ytghihdenbdnnjaa.Ln
