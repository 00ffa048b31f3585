import Derived.Test.YtgpehjkogfbnkaaLks
import Derived.Test.YtgpehjkogfbnkaaLkq
namespace Go.Proofs.Ytgpehjkogfbnkaa.Ln
open Go.RowKit Mb
set_option linter.unusedVariables false
set_option maxRecDepth 100000
set_option linter.unusedSimpArgs false
def Wr.setM (X : Wr) (s : Nat) (M' : Mx) (e' : En) : Wr := { X with m := upd X.m s M', e := upd X.e s e' }
def Wr.renew (X : Wr) (b1 : Nat) : Wr := ⟨b1, X.m, fun j => if j < 2 then X.e j else E0 0, X.win, X.space, fun _ => .slice none 0 0, fun _ => [], fun _ => [], fun _ => [], fun _ => []⟩
section
variable {w w' W : World} {B : Nat} {X X' : Wr}
theorem Wr.Ok.muxM (h : X.Ok w B) {s : Nat} (hs : s < 2) {M' : Mx} {e' : En} (ms : Mstep w w' (X.m s) M' B) (hme : M'.es (pid (1 - s)) = some e') (hmb : M'.b = (X.m s).b) (hmt : M'.tag = tg9 ∧ M'.win = X.win ∧ M'.room = X.space) (hsf : M'.self = pid s) : Xstep w w' X (X.setM s M' e') B := by
  have hk : ∀ j, X.own j → ¬ (X.m s).own j → w'.heap[j]? = w.heap[j]? := fun j hj hn => ms.kept.block j (h.lt hj) hn
  have ho : ∀ t, t < 2 → t ≠ s → ∀ j, (X.m t).own j → (X.m s).own j → False := fun t ht hts j h1 h2 => by
    have : (t = 0 ∧ s = 1) ∨ (t = 1 ∧ s = 0) := by omega
    rcases this with ⟨rfl, rfl⟩ | ⟨rfl, rfl⟩
    · exact h.ap j h1 h2
    · exact h.ap j h2 h1
  have hm : ∀ t, t < 2 → ∀ j, ((X.setM s M' e').m t).own j → (X.m t).own j ∨ w.heap.size ≤ j := fun t ht j hj => by
    by_cases e : t = s
    · subst e; simp only [Wr.setM, upd_same] at hj; exact ms.own j hj
    · simp only [Wr.setM, upd_ne _ _ e] at hj; exact .inl hj
  have hen : ∀ y, X.ents y → ∀ t, t < 2 → ¬ ((X.setM s M' e').m t).own y.k := fun y hy t ht hj => by
    rcases hm t ht _ hj with h1 | h1
    · have : t = 0 ∨ t = 1 := by omega
      rcases this with rfl | rfl
      · exact (h.en y hy).2.1 h1
      · exact (h.en y hy).2.2 h1
    · have := (h.en y hy).1.lt; omega
  have hes : ∀ y, X.ents y → ¬ (X.m s).own y.k := fun y hy => by
    have : s = 0 ∨ s = 1 := by omega
    rcases this with rfl | rfl
    · exact (h.en y hy).2.1
    · exact (h.en y hy).2.2
  have hcs : (X.setM s M' e').cs = X.cs := by
    have : s = 0 ∨ s = 1 := by omega
    rcases this with rfl | rfl <;> simp [Wr.cs, Wr.setM, upd, mp, hmb]
  refine ⟨⟨?_, h.lo, fun t ht => ?_, fun t ht => ?_, fun t ht => ?_, fun j h1 h2 => ?_, fun i h4 h12 => ?_, h.rr, fun y hy => ?_, h.w1, fun t ht => by
    by_cases e : t = s
    · subst e; simp only [Wr.setM, upd_same]; exact hsf
    · simp only [Wr.setM, upd_ne _ _ e]; exact h.sf t ht⟩, ?_, ?_, rfl⟩
  · rw [hcs]; exact ms.kept.obj h.blk (h.b_m hs)
  · by_cases e : t = s
    · subst e; simp only [Wr.setM, upd_same]; exact ms.ok
    · simp only [Wr.setM, upd_ne _ _ e]; exact (h.mo t ht).keep ms.kept fun j hj hj2 => ho t ht e j hj hj2
  · by_cases e : t = s
    · subst e; simp only [Wr.setM, upd_same]; exact hme
    · simp only [Wr.setM, upd_ne _ _ e]; exact h.me t ht
  · by_cases e : t = s
    · subst e; simp only [Wr.setM, upd_same]; exact hmt
    · simp only [Wr.setM, upd_ne _ _ e]; exact h.mt t ht
  · have a1 := hm 0 (by omega) j h1
    have a2 := hm 1 (by omega) j h2
    rcases a1 with a1 | a1
    · rcases a2 with a2 | a2
      · exact h.ap j a1 a2
      · have := (h.mo 0 (by omega)).lt a1; omega
    · rcases a2 with a2 | a2
      · have := (h.mo 1 (by omega)).lt a2; omega
      · have : s = 0 ∨ s = 1 := by omega
        rcases this with rfl | rfl
        · simp only [Wr.setM, upd_ne _ _ (show (1:Nat) ≠ 0 by omega)] at h2
          have := (h.mo 1 (by omega)).lt h2; omega
        · simp only [Wr.setM, upd_ne _ _ (show (0:Nat) ≠ 1 by omega)] at h1
          have := (h.mo 0 (by omega)).lt h1; omega
  · exact ms.kept.owns (h.row i h4 h12) fun g hg => h.row_m h4 h12 hs hg
  · exact ⟨(h.en y hy).1.keep ms.kept (hes y hy), hen y hy 0 (by omega), hen y hy 1 (by omega)⟩
  · exact ms.kept.mono fun j _ hj => own_m hs hj
  · rintro j (rfl | ⟨i, h4, h12, hk⟩ | hj | hj | ⟨y, hy, rfl⟩)
    · exact .inl (.inl rfl)
    · exact .inl (own_r h4 h12 hk)
    · exact (hm 0 (by omega) j hj).imp (fun h1 => own_m (by omega) h1) id
    · exact (hm 1 (by omega) j hj).imp (fun h1 => own_m (by omega) h1) id
    · exact .inl (.inr (.inr (.inr (.inr ⟨y, hy, rfl⟩))))
theorem Wr.Ok.renew (h : X.Ok w B) (hb : Below w.heap.size w W) {b1 : Nat} (hblk : W.heap[b1]? = some (.cells #[mp (X.m 0), mp (X.m 1), .int .i64 (X.win : Int), .int .i64 (X.space : Int), .slice none 0 0, .slice none 0 0, .slice none 0 0, .slice none 0 0, .slice none 0 0, .slice none 0 0, .slice none 0 0, .slice none 0 0] 42 (0, 0))) (hb1 : B ≤ b1) : (X.renew b1).Ok W B := by
  refine ⟨hblk, hb1, fun s hs => (h.mo s hs).still hb, fun s hs => ?_, h.mt, h.ap, fun i _ _ => ?_, fun i j _ _ _ _ _ k hk => (by cases hk), fun y hy => ?_, h.w1, h.sf⟩
  · show (X.m s).es _ = some (if s < 2 then X.e s else E0 0)
    rw [if_pos hs]
    exact h.me s hs
  · have e1 : ∀ (X : Wr), X.p = (fun _ => []) → X.o = (fun _ => []) → X.f = (fun _ => []) → X.a = (fun _ => []) → X.rowN i = 0 ∧ X.rowC i = [] := fun X p1 p2 p3 p4 => by
      unfold Wr.rowN Wr.rowC
      rw [p1, p2, p3, p4]
      repeat' split
      all_goals exact ⟨rfl, rfl⟩
    have e2 := e1 (X.renew b1) rfl rfl rfl rfl
    rw [e2.1, e2.2]
    exact ⟨by simp, .inl ⟨rfl, rfl⟩⟩
  · obtain ⟨t, _, hy | hy | ⟨_, hy⟩⟩ := hy <;> cases hy
end
end Go.Proofs.Ytgpehjkogfbnkaa.Ln
