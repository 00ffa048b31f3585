import Derived.Test.YtbjpbcanmpimnabTexts0
namespace Go.Proofs.Ytbjpbcanmpimnab.Lo
open Go.RowKit Bk
set_option linter.unusedVariables false

def Env (w : World) (bl : List (Nat × Array Value)) (ow : List (Nat × Value × List Int)) : Prop :=
  (∀ b ∈ bl, w.heap[b.1]? = some (.cells b.2 28 (0, 0)) ∧ b.2.size = 9) ∧ ∀ o ∈ ow, Own w o.1 o.2.1 o.2.2

theorem Env.nil (w : World) : Env w [] [] := ⟨by simp, by simp⟩
theorem Env.still {w w' : World} {bl : List (Nat × Array Value)} {ow : List (Nat × Value × List Int)} (h : Env w bl ow) (hb : Below w.heap.size w w') : Env w' bl ow :=
  ⟨fun b hm => ⟨(hb.block b.1 (lt_heap (h.1 b hm).1)).trans (h.1 b hm).1, (h.1 b hm).2⟩, fun o hm => owns_below (h.2 o hm) hb⟩
theorem Env.own {w : World} {bl : List (Nat × Array Value)} {ow : List (Nat × Value × List Int)} (h : Env w bl ow) {base : Nat} {v : Value} {bs : List Int} (ho : Own w base v bs) : Env w bl ((base, v, bs) :: ow) :=
  ⟨h.1, fun o hm => by rcases List.mem_cons.1 hm with rfl | hm; exact ho; exact h.2 o hm⟩
theorem Env.alloc {w : World} {bl : List (Nat × Array Value)} {ow : List (Nat × Value × List Int)} (h : Env w bl ow) (cs : Array Value) (hs : cs.size = 9) : Env (w.alloc (.cells cs 28)) ((w.heap.size, cs) :: bl) ow := by
  have h' := h.still (balloc (o := .cells cs 28) (Below.refl _ _))
  exact ⟨fun b hm => by rcases List.mem_cons.1 hm with rfl | hm; exact ⟨heap_alloc_new w _, hs⟩; exact h'.1 b hm, h'.2⟩
theorem blk_own {w : World} {k : Nat} {cs : Array Value} (h : w.heap[k]? = some (.cells cs 28 (0, 0))) (hs : cs.size = 9) : w.ownsRow 0 28 9 (.slice (some ⟨k, 0, none⟩) 1 1) 1 cs.toList :=
  ⟨by simp [hs], .inr ⟨k, 1, cs, rfl, Nat.zero_le _, h, Nat.le_refl _, by unfold maxLen; omega, by simp [hs], List.take_of_length_le (by simp [hs])⟩⟩
theorem own_blk {w : World} {k : Nat} {cs : Array Value} (h : w.ownsRow 0 28 9 (.slice (some ⟨k, 0, none⟩) 1 1) 1 cs.toList) : w.heap[k]? = some (.cells cs 28 (0, 0)) := by
  rcases h.2 with ⟨hv, _⟩ | ⟨g, cap, cur, hv, _, hg, _, _, hz, ht⟩
  · simp at hv
  · simp only [Value.slice.injEq, Option.some.injEq, Addr.mk.injEq, and_true, true_and] at hv
    obtain ⟨rfl, rfl⟩ := hv
    rw [hg]
    have e : cur = cs := by
      apply Array.toList_inj.1
      rw [← ht]
      exact (List.take_of_length_le (by simp [hz])).symm
    rw [e]
theorem Env.sp {w w' : World} {B : Nat} {P : Nat → Prop} {bl : List (Nat × Array Value)} {ow : List (Nat × Value × List Int)} (h : Env w bl ow) (hs : Sp w w' B P) (h1 : ∀ b ∈ bl, ¬ P b.1) (h2 : ∀ o ∈ ow, ∀ k, o.2.1.ownBlock = some k → ¬ P k) : Env w' bl ow :=
  ⟨fun b hm => ⟨own_blk (hs.own (blk_own (h.1 b hm).1 (h.1 b hm).2) (by decide) (by decide) (fun k hk => by simp [Value.ownBlock] at hk; subst hk; exact h1 b hm)), (h.1 b hm).2⟩, fun o hm => hs.u8 (h.2 o hm) (h2 o hm)⟩
theorem Env.grown {w w' : World} {g : Nat} {bl : List (Nat × Array Value)} {ow : List (Nat × Value × List Int)} (h : Env w bl ow) (hg : w.grownBy w' (some g)) (h1 : ∀ b ∈ bl, b.1 ≠ g) (h2 : ∀ o ∈ ow, ∀ k, o.2.1.ownBlock = some k → k ≠ g) : Env w' bl ow := by
  have hk := Kept.ofGrown hg
  exact ⟨fun b hm => ⟨(hk.block b.1 (lt_heap (h.1 b hm).1) (fun e => h1 b hm (Option.some.inj e))).trans (h.1 b hm).1, (h.1 b hm).2⟩, fun o hm => hk.owns (h.2 o hm) (fun k hk' e => h2 o hm k hk' (Option.some.inj e))⟩

theorem dec_text (a1 : Option Addr) (c1 base : Nat) (w : World) (h : Own w base (.slice a1 8 c1) [1, 1, 1, 0, 3, 4, 5, 6]) :
    Calls Try.prog 10 #[.slice a1 8 c1] w fun e w' => ∃ ab cb, e = .returned (.tuple #[.agg #[.int .i64 1, .int .i64 1, .int .i64 1, .int .i64 0, .slice ab 3 cb, .int .i64 0, .int .i64 0, .int .i64 0, .int .i64 0], .int .i64 0]) ∧ Own w' w.heap.size (.slice ab 3 cb) [4, 5, 6] ∧ Below w.heap.size w w' :=
  dec_eq a1 8 c1 [1, 1, 1, 0, 3, 4, 5, 6] w (own_src h (getD_range (by decide))) (own_le h) 1 1 1 0 [4, 5, 6] 0 0 0 0 0 resI_text

end Go.Proofs.Ytbjpbcanmpimnab.Lo
