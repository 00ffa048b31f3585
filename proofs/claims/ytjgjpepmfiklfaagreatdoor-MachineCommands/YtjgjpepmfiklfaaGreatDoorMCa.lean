import Derived.Test.YtjgjpepmfiklfaaGreatDoorMxw
import Derived.Test.YtjgjpepmfiklfaaGreatDoorMxy
import Derived.Test.YtjgjpepmfiklfaaGreatDoorBookAt
namespace Go.Proofs.YtjgjpepmfiklfaaGreatDoor.Mx
open Go.RowKit Mb Mh Lo
set_option linter.unusedVariables false
set_option maxRecDepth 100000
set_option linter.unusedSimpArgs false
section
variable {w w' W : World} {B : Nat}
def encX (cl inc req op : Int) (ky v old : ByteArray) : List Int := if okC cl inc req op ky v old = true then encC cl inc req op ky v old else []
def encE (cl inc req op : Int) (ky v old : ByteArray) : Int := if okC cl inc req op ky v old = true then 0 else 130
theorem encX_rng (cl inc req op : Int) (ky v old : ByteArray) : rng (encX cl inc req op ky v old) := by
  unfold encX
  split
  · exact enc_rng (by assumption)
  · intro i; simp [List.getD]
theorem encX_len (cl inc req op : Int) (ky v old : ByteArray) : (encX cl inc req op ky v old).length ≤ 200 := by
  unfold encX
  split
  · rename_i h
    obtain ⟨r1, r2, r3, r4, r5, r6, r7⟩ := okC_rng h
    rw [encC_eq]
    simp only [List.length_append, List.length_nil]
    have h1 := put9 cl
    have h2 := put9 inc
    have h3 := put9 req
    have h4 := put9 op
    have h5 := txt_len ky
    have h6 := txt_len v
    have h7 := txt_len old
    omega
  · simp
theorem shape {b : Nat} {v : Value} {bs : List Int} (ho : Own w b v bs) (hr : rng bs) : ∃ a c, v = .slice a bs.length c := by
  obtain ⟨a, c, e, _⟩ := ho.rdAny hr
  exact ⟨a, c, e⟩
theorem enc_u (hg : Gl w) {cl inc req op : Int} (ky v old : ByteArray) : Calls Tryz.prog 5 #[.agg #[.int .i64 cl, .int .i64 inc, .int .i64 req, .int .i64 op, .string ky, .string v, .string old]] w fun e w' => ∃ a c, e = .returned (.tuple #[.slice a (encX cl inc req op ky v old).length c, .int .i64 (encE cl inc req op ky v old)]) ∧ Own w' w.heap.size (.slice a (encX cl inc req op ky v old).length c) (encX cl inc req op ky v old) ∧ Below w.heap.size w w' := by
  have hr := encX_rng cl inc req op ky v old
  cases hok : okC cl inc req op ky v old with
  | true =>
    have e1 : encX cl inc req op ky v old = encC cl inc req op ky v old := if_pos hok
    have e2 : encE cl inc req op ky v old = 0 := if_pos hok
    rw [e1] at hr ⊢
    rw [e2]
    refine (enc_ok hg ky v old hok).mono fun e w' ⟨x, h1, h2, h3⟩ => ?_
    obtain ⟨a, c, rfl⟩ := shape h2 hr
    exact ⟨a, c, h1, h2, h3⟩
  | false =>
    have hok' : ¬ okC cl inc req op ky v old = true := by rw [hok]; decide
    have e1 : encX cl inc req op ky v old = [] := if_neg hok'
    have e2 : encE cl inc req op ky v old = 130 := if_neg hok'
    rw [e1, e2]
    exact (enc_no hg ky v old hok).mono fun e w' ⟨h1, h2⟩ => ⟨none, 0, h1, ownN _ _, h2⟩
theorem qenc_u {cl inc req op : Int} (ky v old : ByteArray) : Calls Tryz.prog 12 #[.agg #[.int .i64 cl, .int .i64 inc, .int .i64 req, .int .i64 op, .string ky, .string v, .string old]] w fun e w' => ∃ a c, e = .returned (.tuple #[.slice a (encX cl inc req op ky v old).length c, .int .i64 (encE cl inc req op ky v old)]) ∧ Own w' w.heap.size (.slice a (encX cl inc req op ky v old).length c) (encX cl inc req op ky v old) ∧ Below w.heap.size w w' := by
  have hr := encX_rng cl inc req op ky v old
  cases hok : okC cl inc req op ky v old with
  | true =>
    have e1 : encX cl inc req op ky v old = encC cl inc req op ky v old := if_pos hok
    have e2 : encE cl inc req op ky v old = 0 := if_pos hok
    rw [e1] at hr ⊢
    rw [e2]
    refine (qenc_ok ky v old hok).mono fun e w' ⟨x, h1, h2, h3⟩ => ?_
    obtain ⟨a, c, rfl⟩ := shape h2 hr
    exact ⟨a, c, h1, h2, h3⟩
  | false =>
    have hok' : ¬ okC cl inc req op ky v old = true := by rw [hok]; decide
    have e1 : encX cl inc req op ky v old = [] := if_neg hok'
    have e2 : encE cl inc req op ky v old = 130 := if_neg hok'
    rw [e1, e2]
    exact (qenc_no ky v old hok).mono fun e w' ⟨h1, h2⟩ => ⟨none, 0, h1, ownN _ _, h2⟩
structure Cv where
  a : Int
  b : Int
  c : Int
  d : Int
  e : ByteArray
  f : ByteArray
  g : ByteArray
def Cv.cs (x : Cv) : Array Value := #[.int .i64 x.a, .int .i64 x.b, .int .i64 x.c, .int .i64 x.d, .string x.e, .string x.f, .string x.g]
theorem decV_shape (bs : List Int) : ∃ (x : Cv) (er : Int), decV (decO bs) = .tuple #[.agg x.cs, .int .i64 er] := by
  cases decO bs with
  | none => exact ⟨⟨0, 0, 0, 0, ⟨#[]⟩, ⟨#[]⟩, ⟨#[]⟩⟩, 130, rfl⟩
  | some p =>
    obtain ⟨v0, v1, v2, v3, s0, s1, s2⟩ := p
    exact ⟨⟨v0, v1, v2, v3, s0, s1, s2⟩, 0, rfl⟩
def Env (w : World) (bl : List (Nat × Array Value)) (ow : List (Nat × Value × List Int)) : Prop :=
  (∀ b ∈ bl, w.heap[b.1]? = some (.cells b.2 23 (0, 0)) ∧ b.2.size = 7) ∧ ∀ o ∈ ow, Own w o.1 o.2.1 o.2.2
section
variable {bl : List (Nat × Array Value)} {ow : List (Nat × Value × List Int)}
theorem Env.still (h : Env w bl ow) (hb : Below w.heap.size w w') : Env w' bl ow :=
  ⟨fun b hm => ⟨(hb.block b.1 (lt_heap (h.1 b hm).1)).trans (h.1 b hm).1, (h.1 b hm).2⟩, fun o hm => owns_below (h.2 o hm) hb⟩
theorem Env.own (h : Env w bl ow) {base : Nat} {v : Value} {bs : List Int} (ho : Own w base v bs) : Env w bl ((base, v, bs) :: ow) :=
  ⟨h.1, fun o hm => by rcases List.mem_cons.1 hm with rfl | hm; exact ho; exact h.2 o hm⟩
theorem Env.blk (h : Env w bl ow) {k : Nat} {cs : Array Value} (hk : w.heap[k]? = some (.cells cs 23 (0, 0))) (hs : cs.size = 7) : Env w ((k, cs) :: bl) ow :=
  ⟨fun b hm => by rcases List.mem_cons.1 hm with rfl | hm; exact ⟨hk, hs⟩; exact h.1 b hm, h.2⟩
theorem blk_own {k : Nat} {cs : Array Value} (h : w.heap[k]? = some (.cells cs 23 (0, 0))) (hs : cs.size = 7) : w.ownsRow 0 23 7 (.slice (some ⟨k, 0, none⟩) 1 1) 1 cs.toList :=
  ⟨by simp [hs], .inr ⟨k, 1, cs, rfl, Nat.zero_le _, h, Nat.le_refl _, by unfold maxLen; omega, by simp [hs], List.take_of_length_le (by simp [hs])⟩⟩
theorem own_blk {k : Nat} {cs : Array Value} (h : w.ownsRow 0 23 7 (.slice (some ⟨k, 0, none⟩) 1 1) 1 cs.toList) : w.heap[k]? = some (.cells cs 23 (0, 0)) := by
  rcases h.2 with ⟨hv, _⟩ | ⟨g, cap, cur, hv, _, hg, _, _, hz, ht⟩
  · simp at hv
  · simp only [Value.slice.injEq, Option.some.injEq, Addr.mk.injEq, and_true, true_and] at hv
    obtain ⟨rfl, rfl⟩ := hv
    rw [hg]
    have e : cur = cs := by
      apply Array.toList_inj.1
      rw [← ht]
      exact (List.take_of_length_le (by simp [hz])).symm
    rw [e]
theorem Env.sp {B : Nat} {P : Nat → Prop} (h : Env w bl ow) (hs : Bk.Sp w w' B P) (h1 : ∀ b ∈ bl, ¬ P b.1) (h2 : ∀ o ∈ ow, ∀ k, o.2.1.ownBlock = some k → ¬ P k) : Env w' bl ow :=
  ⟨fun b hm => ⟨own_blk (hs.own (blk_own (h.1 b hm).1 (h.1 b hm).2) (by decide) (by decide) (fun k hk => by simp [Value.ownBlock] at hk; subst hk; exact h1 b hm)), (h.1 b hm).2⟩, fun o hm => hs.u8 (h.2 o hm) (h2 o hm)⟩
theorem Env.grown {g : Nat} (h : Env w bl ow) (hg : w.grownBy w' (some g)) (h1 : ∀ b ∈ bl, b.1 ≠ g) (h2 : ∀ o ∈ ow, ∀ k, o.2.1.ownBlock = some k → k ≠ g) : Env w' bl ow := by
  have hk := Bk.Kept.ofGrown hg
  exact ⟨fun b hm => ⟨(hk.block b.1 (lt_heap (h.1 b hm).1) (fun e => h1 b hm (Option.some.inj e))).trans (h.1 b hm).1, (h.1 b hm).2⟩, fun o hm => hk.owns (h.2 o hm) (fun k hk' e => h2 o hm k hk' (Option.some.inj e))⟩
theorem Env.kept {P : Nat → Prop} (h : Env w bl ow) (hk : Kept w w' P) (h1 : ∀ b ∈ bl, ¬ P b.1) (h2 : ∀ o ∈ ow, ∀ k, o.2.1.ownBlock = some k → ¬ P k) : Env w' bl ow :=
  ⟨fun b hm => ⟨(hk.block b.1 (lt_heap (h.1 b hm).1) (h1 b hm)).trans (h.1 b hm).1, (h.1 b hm).2⟩, fun o hm => hk.owns (h.2 o hm) (fun k hk' => h2 o hm k hk')⟩
end
theorem Env.sub {bl : List (Nat × Array Value)} {ow ow' : List (Nat × Value × List Int)} (h : Env w bl ow) (hs : ∀ o ∈ ow', o ∈ ow) : Env w bl ow' := ⟨h.1, fun o hm => h.2 o (hs o hm)⟩
theorem bk_grown {B kb g base n cap : Nat} {nx : Int} {ps : List Bk.Pg} {xs : List Int} (h : Bk.BkAt w B kb nx ps) (hg : w.grownBy w' (some g)) (ho : Own w base (.slice (some ⟨g, 0, none⟩) n cap) xs) (hn : ∀ p ∈ ps, ∀ k, Bk.holds p k → k ≠ g) : Bk.BkAt w' B kb nx ps := by
  obtain ⟨h1, vp, h2⟩ := h
  have ht := h2.vtype ho (by decide) (by decide) g rfl
  refine ⟨h1, vp, h2.kept (Bk.Kept.ofGrown hg) (fun e => ?_) (fun k hk e => ?_) (fun p hp k hk e => ?_)⟩
  · exact ht.1 (Option.some.inj e).symm
  · have e2 := Option.some.inj e
    subst e2
    exact ht.2 hk
  · exact hn p hp k hk (Option.some.inj e)
theorem bk_kept {B kb k0 : Nat} {nx : Int} {ps : List Bk.Pg} {cs : Array Value} (h : Bk.BkAt w B kb nx ps) (hk : Bk.Kept w w' (fun j => j = k0)) (hc : w.heap[k0]? = some (.cells cs 23 (0, 0))) (hs : cs.size = 7) (hn : ∀ p ∈ ps, ∀ k, Bk.holds p k → k ≠ k0) : Bk.BkAt w' B kb nx ps := by
  obtain ⟨h1, vp, h2⟩ := h
  have ht := h2.vtype (blk_own hc hs) (by decide) (by decide) k0 rfl
  refine ⟨h1, vp, h2.kept hk (fun e => ?_) (fun k hv e => ?_) (fun p hp k hk e => ?_)⟩
  · exact ht.1 e.symm
  · rw [e] at hv
    exact ht.2 hv
  · exact hn p hp k hk e
theorem kept_bk {P : Nat → Prop} (h : Kept w w' P) : Bk.Kept w w' P := ⟨h.os, h.tape, h.output, h.size, h.block⟩
theorem own_notC {base k : Nat} {v : Value} {bs : List Int} {cs : Array Value} (h : Own w base v bs) (hb : w.heap[k]? = some (.cells cs 23 (0, 0))) : ∀ j, v.ownBlock = some j → j ≠ k := fun j hj e => by
  obtain ⟨cur, hc⟩ := own_typeU8 h hj
  rw [e, hb] at hc
  simp at hc
theorem ownRd {b n cap : Nat} {ao : Option Addr} {bs : List Int} (h : Own w b (.slice ao n cap) bs) (hr : rng bs) : Rd w ao n cap bs := by
  obtain ⟨a, c, e, hd⟩ := h.rdAny hr
  simp only [Value.slice.injEq] at e
  obtain ⟨rfl, rfl, rfl⟩ := e
  exact hd
theorem loose_shape (ao : Option Addr) (cap : Nat) (bs : List Int) (w : World) (hr : Rd w ao bs.length cap bs) (hlen : bs.length ≤ 140737488355264) :
    Calls Tryz.prog 13 #[.slice ao bs.length cap] w fun e w' => ∃ g capl, e = .returned (.slice (some ⟨g, 0, none⟩) (bs.length + 64) capl) ∧ bs.length + 64 ≤ capl ∧ w.heap.size ≤ g ∧ Own w' w.heap.size (.slice (some ⟨g, 0, none⟩) (bs ++ marks 64).length capl) (bs ++ marks 64) ∧ Below w.heap.size w w' := by
  refine (loose_any ao _ cap bs w hr hlen).mono fun e w' h => ?_
  obtain ⟨v', rfl, ho, hb⟩ := h
  rcases ho.2 with ⟨_, h2⟩ | ⟨g, cap', cur, hv, hg, hcap⟩
  · simp [marks_len] at h2
  · subst hv
    have hl : (bs ++ marks 64).length = bs.length + 64 := by simp [marks_len]
    have hle := hcap.2.1
    rw [hl] at hle
    exact ⟨g, cap', by rw [hl], hle, hg, ho, hb⟩
def x1 (y : Int) : Int := bits BinOp.xor IntKind.u8 y 1
def tw (k : Nat) (bs : List Int) : List Int := (bs.take k).map x1 ++ bs.drop k
theorem tw_len (k : Nat) (bs : List Int) : (tw k bs).length = bs.length := by
  unfold tw
  rw [List.length_append, List.length_map, List.length_take, List.length_drop]
  omega
theorem tw_zero (bs : List Int) : tw 0 bs = bs := by simp [tw]
theorem tw_get (k : Nat) (bs : List Int) (h : k < bs.length) : (tw k bs).getD k 0 = bs.getD k 0 := by
  unfold tw
  simp only [List.getD]
  rw [List.getElem?_append_right (by simp; omega)]
  simp [show k - min k bs.length = 0 by omega]
theorem tw_set (k : Nat) (bs : List Int) (h : k < bs.length) : (tw k bs).set k (x1 (bs.getD k 0)) = tw (k + 1) bs := by
  unfold tw
  rw [List.set_append_right _ _ (by simp; omega), List.take_add_one]
  have e : (List.map x1 (List.take k bs)).length = k := by simp; omega
  rw [e, Nat.sub_self, List.map_append, List.append_assoc]
  congr 1
  have e2 : bs[k]? = some (bs.getD k 0) := by simp [List.getD, h]
  rw [e2]
  have e3 : bs.drop k = bs.getD k 0 :: bs.drop (k + 1) := by
    rw [List.drop_eq_getElem_cons h]
    simp [List.getD, h]
  rw [e3]
  rfl
theorem tw_rng (k : Nat) (bs : List Int) (h : rng bs) : rng (tw k bs) := getD_range (fun x hx => by
  unfold tw at hx
  rcases List.mem_append.1 hx with h1 | h1
  · obtain ⟨y, _, rfl⟩ := List.mem_map.1 h1
    exact u8_range _ _ _
  · exact mem_range h x (List.mem_of_mem_drop h1))
theorem own_tw {base g n cap k : Nat} {bs ms : List Int} (h : Own w base (.slice (some ⟨g, 0, none⟩) n cap) (tw k bs ++ ms)) (hk : k < bs.length) :
    w.frozen? ⟨g, k, none⟩ = false ∧ w.cell? ⟨g, k, none⟩ = some (.int .u8 (bs.getD k 0)) ∧ Own (w.setCell ⟨g, k, none⟩ (.int .u8 (x1 (bs.getD k 0)))) base (.slice (some ⟨g, 0, none⟩) n cap) (tw (k + 1) bs ++ ms) ∧ w.grownBy (w.setCell ⟨g, k, none⟩ (.int .u8 (x1 (bs.getD k 0)))) (some g) := by
  have hn := h.len
  subst hn
  have hs := World.ownsRow.stored h k (.int .u8 (x1 (bs.getD k 0)))
  have hl : k < (tw k bs ++ ms).length := by rw [List.length_append, tw_len]; omega
  have hc := h.cellAll k hl
  have eg : (tw k bs ++ ms).getD k 0 = bs.getD k 0 := by
    rw [← tw_get k bs hk]
    simp only [List.getD]
    rw [List.getElem?_append_left (by rw [tw_len]; exact hk)]
  rw [Nat.zero_add, eg] at hc
  obtain ⟨cur, hcur⟩ := own_typeU8 h rfl
  refine ⟨frozen_of_row w g k _ _ hcur, hc, ?_, hs.2⟩
  have e : ((tw k bs ++ ms).map (Value.int .u8)).set k (.int .u8 (x1 (bs.getD k 0))) = (tw (k + 1) bs ++ ms).map (Value.int .u8) := by
    rw [← List.map_set, List.set_append_left k _ (by rw [tw_len]; exact hk), tw_set k bs hk]
  have hs1 := hs.1
  rw [e] at hs1
  unfold Own
  have el : (tw (k + 1) bs ++ ms).length = (tw k bs ++ ms).length := by simp [tw_len]
  rw [el]
  exact hs1
end
end Go.Proofs.YtjgjpepmfiklfaaGreatDoor.Mx
