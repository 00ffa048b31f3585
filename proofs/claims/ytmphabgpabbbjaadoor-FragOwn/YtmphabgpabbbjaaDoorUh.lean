import Derived.Test.YtmphabgpabbbjaaDoorUd
import Derived.Test.YtmphabgpabbbjaaDoorUg
namespace Go.Proofs.YtmphabgpabbbjaaDoor.Fg
open Go.RowKit Mb
set_option linter.unusedVariables false
set_option maxRecDepth 100000
set_option linter.unusedSimpArgs false
section
variable {w w' W : World} {B : Nat}
theorem form_short {bs : List Int} (h : bs.length < 8) : form bs = false := by
  unfold form
  rw [decide_eq_false (by omega)]
  rfl
theorem opened_any {ao : Option Addr} {n c : Nat} {bs : List Int} (hr : Rd w ao n c bs) (hn : n ≤ 140737488355328) : Calls Tryd.prog 27 #[.slice ao n c] w fun e w' => ∃ A m d, e = .returned (opV (form bs) (sz bs) (pl bs) (sm bs) A m d) ∧ (form bs = true → Rd w' A m d (bs.drop 8)) ∧ Below w.heap.size w w' := by
  by_cases h8 : n < 8
  · have hf := form_short (bs := bs) (by rw [hr.len]; exact h8)
    refine (opened_short h8).mono ?_
    rintro e w' ⟨rfl, hb⟩
    exact ⟨none, 0, 0, by rw [hf]; rfl, fun h => (by rw [hf] at h; cases h), hb⟩
  · rcases hr.at_ with h0 | ⟨b, off, rfl, _⟩
    · omega
    · refine (opened_long hr (by omega) hn).mono ?_
      rintro e w' ⟨A, rfl, h1, h2⟩
      exact ⟨A, _, _, rfl, fun _ => h1, h2⟩

structure Jn where
  b : Nat
  bp : Nat
  n : Nat
  ps : Nat → Pt
  gs : Nat → Option Nat
def slg (p : Pt) : Option Nat → Value
  | some g => .slice (some ⟨g, 0, none⟩) p.sz p.sz
  | none => .slice none 0 0
def pcs (p : Pt) (g : Option Nat) : List Value := [.int .i64 (p.sz : Int), .int .i64 (p.bs.length : Int), .int .i64 (p.sm : Int), slg p g]
theorem pcs_len (p : Pt) (g : Option Nat) : (pcs p g).length = 4 := rfl
theorem pcs_one (p : Pt) (g : Option Nat) : ∀ u ∈ pcs p g, u.oneCell' = true := by
  intro u hu
  simp [pcs] at hu
  rcases hu with rfl | rfl | rfl | rfl
  · rfl
  · rfl
  · rfl
  · cases g <;> rfl
def Jn.f (J : Jn) (i : Nat) : Value := (pcs (J.ps (i / 4)) (J.gs (i / 4))).getD (i % 4) undef
def Jn.put (J : Jn) (s : Nat) (p : Pt) (g : Option Nat) : Jn := { J with ps := upd J.ps s p, gs := upd J.gs s g }
def Jn.own (J : Jn) (k : Nat) : Prop := k = J.b ∨ k = J.bp ∨ ∃ s, J.gs s = some k
structure Held (w : World) (B g : Nat) (p : Pt) : Prop where
  bk : ∃ L, Bk w g L ∧ L.length = p.sz ∧ L.take p.bs.length = p.bs ∧ By L
  lo : B ≤ g
structure Jn.Ok (J : Jn) (w : World) (B : Nat) : Prop where
  jb : w.heap[J.b]? = some (.cells #[.slice (some ⟨J.bp, 0, none⟩) J.n J.n] 56 (0, 0))
  row : Fb w J.bp 64 (J.n * 4) J.f
  n1 : 1 ≤ J.n
  n16 : J.n ≤ 16
  ok : ∀ s, (J.ps s).Ok
  no : ∀ s, J.gs s = none → J.ps s = p0
  yes : ∀ s g, J.gs s = some g → Held w B g (J.ps s) ∧ J.ps s ≠ p0
  ap : ∀ s t g, J.gs s = some g → J.gs t = some g → s = t
  lb : B ≤ J.b
  lp : B ≤ J.bp
  far : ∀ s, J.n ≤ s → J.gs s = none
theorem Held.keep {P : Nat → Prop} {g : Nat} {p : Pt} (h : Held w B g p) (k : Kept w w' P) (hp : ¬ P g) : Held w' B g p := by
  obtain ⟨L, h1, h2⟩ := h.bk
  exact ⟨⟨L, h1.keep k hp, h2⟩, h.lo⟩
theorem Held.lt {g : Nat} {p : Pt} (h : Held w B g p) : g < w.heap.size := by
  obtain ⟨L, h1, h2⟩ := h.bk
  exact h1.lt
theorem Jn.Ok.own_lt {J : Jn} (h : J.Ok w B) : ∀ k, J.own k → k < w.heap.size := by
  rintro k (rfl | rfl | ⟨s, hs⟩)
  · exact lt_heap h.jb
  · exact h.row.lt
  · exact (h.yes s k hs).1.lt
theorem Jn.Ok.own_lo {J : Jn} (h : J.Ok w B) : ∀ k, J.own k → B ≤ k := by
  rintro k (rfl | rfl | ⟨s, hs⟩)
  · exact h.lb
  · exact h.lp
  · exact (h.yes s k hs).1.lo
theorem Jn.Ok.keep {J : Jn} {P : Nat → Prop} (h : J.Ok w B) (k : Kept w w' P) (hp : ∀ j, J.own j → ¬ P j) : J.Ok w' B :=
  ⟨k.obj h.jb (hp _ (.inl rfl)), h.row.keep k (hp _ (.inr (.inl rfl))), h.n1, h.n16, h.ok, h.no, fun s g hs => ⟨(h.yes s g hs).1.keep k (hp _ (.inr (.inr ⟨s, hs⟩))), (h.yes s g hs).2⟩, h.ap, h.lb, h.lp, h.far⟩
theorem Jn.Ok.still {J : Jn} (h : J.Ok w B) (hb : Below w.heap.size w w') : J.Ok w' B := h.keep (Kept.ofBelow hb (fun _ => False)) (fun _ _ => id)
theorem Jn.Ok.jp {J : Jn} (h : J.Ok w B) : J.b ≠ J.bp := by
  obtain ⟨C, h1, h2, h3⟩ := h.row
  have h4 := h.jb
  intro e
  rw [e, h1] at h4
  simp at h4
theorem Jn.Ok.gb {J : Jn} (h : J.Ok w B) {s g : Nat} (hs : J.gs s = some g) : g ≠ J.b ∧ g ≠ J.bp := by
  obtain ⟨C, h1, h2, h3⟩ := h.row
  obtain ⟨L, hL, _⟩ := (h.yes s g hs).1.bk
  exact ⟨bk_ne hL h.jb (by decide), bk_ne hL h1 (by decide)⟩
theorem jf_put (J : Jn) (s : Nat) (p : Pt) (g : Option Nat) (i : Nat) : (J.put s p g).f i = if s * 4 ≤ i ∧ i < s * 4 + (pcs p g).length then (pcs p g).getD (i - s * 4) undef else J.f i := by
  unfold Jn.f Jn.put
  rw [pcs_len]
  by_cases h : s * 4 ≤ i ∧ i < s * 4 + 4
  · rw [if_pos h]
    have e : i / 4 = s := by omega
    simp only [e, upd_same]
    rw [show i % 4 = i - s * 4 by omega]
  · rw [if_neg h]
    simp only
    rw [upd_ne _ _ (show i / 4 ≠ s by omega), upd_ne _ _ (show i / 4 ≠ s by omega)]
theorem Jn.row_put {J : Jn} (s : Nat) (p : Pt) (g : Option Nat) (h : Fb w J.bp 64 (J.n * 4) J.f) : Fb (w.setCells J.bp (s * 4) (pcs p g)) J.bp 64 (J.n * 4) (J.put s p g).f :=
  (Fb.sets (pcs p g) (s * 4) w J.f h).congr fun i _ => (jf_put J s p g i).symm
theorem Jn.put_put (J : Jn) (s : Nat) (p q : Pt) (g g' : Option Nat) : (J.put s p g).put s q g' = J.put s q g' := by
  simp [Jn.put, upd_twice]
theorem Jn.cell (J : Jn) {s : Nat} (hs : s < J.n) {j : Nat} (hj : j < 4) (h : Fb w J.bp 64 (J.n * 4) J.f) : w.cell? ⟨J.bp, s * 4 + j, none⟩ = some ((pcs (J.ps s) (J.gs s)).getD j undef) := by
  rw [h.cell _ (by omega)]
  unfold Jn.f
  rw [show (s * 4 + j) / 4 = s by omega, show (s * 4 + j) % 4 = j by omega]
theorem Jn.Ok.put {J : Jn} (h : J.Ok w B) {s : Nat} (hs : s < J.n) {p : Pt} {g : Option Nat} {P : Nat → Prop} (k : Kept w w' P) (hb : ¬ P J.b) (ho : ∀ t g', t ≠ s → J.gs t = some g' → ¬ P g')
    (hrow : Fb w' J.bp 64 (J.n * 4) (J.put s p g).f) (hp : p.Ok) (hn : g = none → p = p0) (hy : ∀ g', g = some g' → Held w' B g' p ∧ p ≠ p0) (ha : ∀ t g', t ≠ s → J.gs t = some g' → g ≠ some g') : (J.put s p g).Ok w' B := by
  refine ⟨k.obj h.jb hb, hrow, h.n1, h.n16, fun t => ?_, fun t ht => ?_, fun t g' ht => ?_, fun t u g' ht hu => ?_, h.lb, h.lp, fun t ht => ?_⟩
  · by_cases e : t = s
    · subst e; simp only [Jn.put, upd_same]; exact hp
    · simp only [Jn.put, upd_ne _ _ e]; exact h.ok t
  · by_cases e : t = s
    · subst e; simp only [Jn.put, upd_same] at ht ⊢; exact hn ht
    · simp only [Jn.put, upd_ne _ _ e] at ht ⊢; exact h.no t ht
  · by_cases e : t = s
    · subst e; simp only [Jn.put, upd_same] at ht ⊢; exact hy g' ht
    · simp only [Jn.put, upd_ne _ _ e] at ht ⊢
      exact ⟨(h.yes t g' ht).1.keep k (ho t g' e ht), (h.yes t g' ht).2⟩
  · by_cases e : t = s
    · by_cases e2 : u = s
      · rw [e, e2]
      · subst e
        simp only [Jn.put, upd_same, upd_ne _ _ e2] at ht hu
        exact (ha u g' e2 hu ht).elim
    · by_cases e2 : u = s
      · subst e2
        simp only [Jn.put, upd_same, upd_ne _ _ e] at ht hu
        exact (ha t g' e ht hu).elim
      · simp only [Jn.put, upd_ne _ _ e, upd_ne _ _ e2] at ht hu
        exact h.ap t u g' ht hu
  · have e : t ≠ s := by show t ≠ s; have : J.n ≤ t := ht; omega
    simp only [Jn.put, upd_ne _ _ e]
    exact h.far t ht
theorem Jn.Ok.sender {J : Jn} (h : J.Ok w B) (x : Int) : Calls Tryd.prog 26 #[.pointer (some ⟨J.b, 0, none⟩), .int .i64 x] w fun e w' => e = .returned (.bool (inR 0 ((J.n : Int) - 1) x)) ∧ w = w' := by
  have c0 : w.cell? ⟨J.b, 0, none⟩ = some (.slice (some ⟨J.bp, 0, none⟩) J.n J.n) := blk_cell h.jb 0
  have HW : Hid (Calls Tryd.prog 25 #[.int .i64 x, .int .i64 0, .int .i64 ((J.n : Int) - 1)] w fun e w' => e = .returned (.bool (inR 0 ((J.n : Int) - 1) x)) ∧ w = w') := within_any x _ _
  have n1 := h.n1
  have n16 := h.n16
  clear h
  go_enter Tryd.func26, Tryd.ntmps26
  go_wp2_with (first | (go_at_call 25; refine HW.out.mono ?_; rintro e w2 ⟨rfl, rfl⟩) | fail)
  go_ret
  exact ⟨rfl, rfl⟩
set_option maxHeartbeats 400000 in
theorem held_any {J : Jn} (h : J.Ok w B) (x : Int) : Calls Tryd.prog 12 #[.pointer (some ⟨J.b, 0, none⟩), .int .i64 x] w fun e w' => e = .returned (.int .i64 (if 0 ≤ x ∧ x < (J.n : Int) then ((J.ps x.toNat).bs.length : Int) else 0)) ∧ w = w' := by
  have HS : Hid (Calls Tryd.prog 26 #[.pointer (some ⟨J.b, 0, none⟩), .int .i64 x] w fun e w' => e = .returned (.bool (inR 0 ((J.n : Int) - 1) x)) ∧ w = w') := h.sender x
  have n1 := h.n1
  have n16 := h.n16
  by_cases hx : 0 ≤ x ∧ x < (J.n : Int)
  · rw [if_pos hx]
    rw [inR_t hx.1 (by omega)] at HS
    obtain ⟨k, rfl⟩ := Int.eq_ofNat_of_zero_le hx.1
    have hk : k < J.n := by omega
    have c0 : w.cell? ⟨J.b, 0, none⟩ = some (.slice (some ⟨J.bp, 0, none⟩) J.n J.n) := blk_cell h.jb 0
    have c1 : w.cell? ⟨J.bp, k * 4 + 1, none⟩ = some (.int .i64 ((J.ps k).bs.length : Int)) := J.cell hk (by omega) h.row
    have i1 : (0 : Int) ≤ (k : Int) := Int.natCast_nonneg _
    have i2 : (k : Int) < (J.n : Int) := by omega
    clear h hx
    rw [Int.toNat_natCast]
    go_enter Tryd.func12, Tryd.ntmps12
    go_wp2_with (first | (go_at_call 26; refine HS.out.mono ?_; rintro e w2 ⟨rfl, rfl⟩) | fail)
    go_ret
    exact ⟨rfl, rfl⟩
  · rw [if_neg hx]
    rw [inR_f (by omega)] at HS
    clear h hx
    go_enter Tryd.func12, Tryd.ntmps12
    go_wp2_with (first | (go_at_call 26; refine HS.out.mono ?_; rintro e w2 ⟨rfl, rfl⟩) | fail)
    go_ret
    exact ⟨rfl, rfl⟩
end
end Go.Proofs.YtmphabgpabbbjaaDoor.Fg
