import Derived.Test.YtgpehjkogfbnkaaLk5
import Derived.Test.YtgpehjkogfbnkaaLk6
namespace Go.Proofs.Ytgpehjkogfbnkaa.Ln
open Go.RowKit Mb
set_option linter.unusedVariables false
set_option maxRecDepth 100000
set_option linter.unusedSimpArgs false
structure FrT (W0 wr : World) (b1 win space s : Nat) (Y : Wr) : Prop where
  ok : Y.Ok wr W0.heap.size
  bel : Below W0.heap.size W0 wr
  b : Y.b = b1
  em : ∀ j, j < s ∨ 2 ≤ j → (Y.e j).pu = ep0
  ws : Y.win = win ∧ Y.space = space
  nil : Y.p = (fun _ => []) ∧ Y.o = (fun _ => []) ∧ Y.f = (fun _ => []) ∧ Y.a = (fun _ => [])
section
variable {w w' W W0 wr w2 : World} {B b1 win space s : Nat} {X X' Y : Wr}
theorem FrT.still (h : FrT W0 wr b1 win space s Y) (hb : Below wr.heap.size wr w2) : FrT W0 w2 b1 win space s Y := ⟨h.ok.still hb, bstep h.bel hb, h.b, h.em, h.ws, h.nil⟩
theorem FrT.first (h : X.Ok w W0.heap.size) (hbel : Below W0.heap.size W0 w) (hb : Below w.heap.size w W) (hblk : W.heap[b1]? = some (.cells #[mp (X.m 0), mp (X.m 1), .int .i64 (X.win : Int), .int .i64 (X.space : Int), .slice none 0 0, .slice none 0 0, .slice none 0 0, .slice none 0 0, .slice none 0 0, .slice none 0 0, .slice none 0 0, .slice none 0 0] 42 (0, 0))) (hb1 : W0.heap.size ≤ b1) (hw : X.win = win) (hs : X.space = space) : FrT W0 W b1 win space 0 (X.renew b1) :=
  ⟨h.renew hb hblk hb1, bstep hbel hb, rfl, fun j hj => (by
    have h2 : ¬ j < 2 := by omega
    show (if j < 2 then X.e j else E0 0).pu = ep0
    rw [if_neg h2]
    rfl), ⟨hw, hs⟩, rfl, rfl, rfl, rfl⟩
theorem FrT.reset (h : FrT W0 wr b1 win space s Y) (hs : s < 2) (hr : ResO wr w2 (Y.m s) W0.heap.size tg9 [2 + 3 * (1 - (s : Int))]) : ∃ Y', FrT W0 w2 b1 win space (s + 1) Y' ∧ (Y'.m s).b = (Y.m s).b := by
  obtain ⟨bs, ms⟩ := hr.out
  have st := h.ok.muxM hs ms (e' := E0 (bs (pid (1 - s)))) (by
    show (if ((pid (1 - s) : Nat) : Int) ∈ [2 + 3 * (1 - (s : Int))] then _ else _) = _
    rw [if_pos (by simp; unfold pid; omega)]) rfl ⟨rfl, (h.ok.mt s hs).2.1, (h.ok.mt s hs).2.2⟩ (h.ok.sf s hs)
  refine ⟨_, ⟨st.ok, h.bel.trans (st.kept.below h.bel.size (fun j hj e => by have := h.ok.loj e; omega)), h.b, fun j hj => ?_, h.ws, h.nil⟩, ?_⟩
  · show (upd Y.e s _ j).pu = ep0
    by_cases e : j = s
    · subst e; rw [upd_same]; rfl
    · rw [upd_ne _ _ e]; exact h.em j (by omega)
  · show (upd Y.m s _ s).b = _
    rw [upd_same]
theorem FrT.fin (h : FrT W0 wr b1 win space 2 Y) : TlS W0 wr b1 (px0 win space) Y := by
  refine ⟨h.ok, ?_, h.bel, h.b⟩
  unfold Wr.pu px0
  rw [h.ws.1, h.ws.2, h.nil.1, h.nil.2.1, h.nil.2.2.1, h.nil.2.2.2]
  have : (fun s => (Y.e s).pu) = fun _ => ep0 := funext fun j => h.em j (by omega)
  rw [this]
  rfl
theorem okp_ok (h : X.Ok w B) (hs : s < 2) : okP (X.m s).n (X.m s).self 0 [2 + 3 * (1 - (s : Int))] = true := by
  have h1 : pid (1 - s) < (X.m s).n := by
    rcases Nat.lt_or_ge (pid (1 - s)) (X.m s).n with h1 | h1
    · exact h1
    · have := (h.mo s hs).far _ h1
      rw [h.me s hs] at this
      cases this
  have h2 := h.sf s hs
  unfold pid at h1 h2
  simp only [okP, inR, Bool.and_true, Bool.and_eq_true, decide_eq_true_eq, Bool.not_eq_true', beq_eq_false_iff_ne]
  omega
theorem ep_facts {E : En} (h : E.pu = ep0) : E.o.p = 0 ∧ E.sent = 0 ∧ E.i.p = 0 ∧ E.owed = false ∧ ∀ n, E.o.f n = none := by
  refine ⟨congrArg Ep.op h, congrArg Ep.sent h, congrArg Ep.ip h, congrArg Ep.owed h, fun n => ?_⟩
  have h2 : (E.o.f n).map Bd.bs = none := congrFun (congrArg Ep.ob h) n
  cases h3 : E.o.f n with
  | none => rfl
  | some b => rw [h3] at h2; cases h2
theorem takeN_none (f : Nat → Option Bd) (h : ∀ n, f n = none) (p m : Nat) : takeN f p m = [] := by
  cases m with
  | zero => rfl
  | succ m => simp [takeN, h]
end
end Go.Proofs.Ytgpehjkogfbnkaa.Ln
