import Derived.Test.YtghihdenbdnnjaaLkv
namespace Go.Proofs.Ytghihdenbdnnjaa.Ln
open Go.RowKit Mb
set_option linter.unusedVariables false
set_option maxRecDepth 100000
set_option linter.unusedSimpArgs false
section
variable {w w' W : World} {B : Nat} {X X' : Wr}
abbrev ak5 (u : Nat) : List Value := [.int .i64 3, .int .i64 2, .int .i64 4, .int .i64 9, .int .i64 (u : Int)]
theorem ak5_one (u : Nat) : ∀ v ∈ ak5 u, v.oneCell' = true := ones5 _ _ _ _ _
def Wr.addA (X : Wr) (s : Nat) (v : Value) (u : Nat) : Wr := { X with v := upd X.v (10 + s) v, a := upd X.a s (X.a s ++ [u]) }
theorem addA_step {D w6 : World} (h : X.Ok D B) {s : Nat} (hs : s < 2) {u : Nat} {g cap n : Nat} (hn : n = (X.a s).length) (hrow : w6.ownsRow B 57 5 (.slice (some ⟨g, 0, none⟩) (n + 1) cap) (n + 1) ((X.a s).flatMap akc ++ akc u)) (k : Kept D w6 (fun q => (X.v (10 + s)).ownBlock = some q)) (hl : (X.v (10 + s)).ownBlock = some g ∨ D.heap.size ≤ g) : Xstep D (w6.setCell ⟨X.b, 10 + s, none⟩ (.slice (some ⟨g, 0, none⟩) (n + 1) cap)) X (X.addA s (.slice (some ⟨g, 0, none⟩) (n + 1) cap) u) B := by
  subst hn
  refine h.grow (i := 10 + s) (by omega) (by omega) rfl rfl rfl rfl rfl rfl ?_ (fun j j4 j12 hj => ?_) k (fun q hq => ?_) (fun z hz => .inl hz)
  · have e1 : rowT (10 + s) = 57 := by unfold rowT; rw [if_neg (by omega), if_neg (by omega)]
    have e2 : rowS (10 + s) = 5 := by unfold rowS; rw [if_neg (by omega), if_neg (by omega)]
    have e3 : (X.addA s (.slice (some ⟨g, 0, none⟩) ((X.a s).length + 1) cap) u).rowN (10 + s) = (X.a s).length + 1 := by unfold Wr.rowN Wr.addA; rw [if_neg (by omega), if_neg (by omega), if_neg (by omega), Nat.add_sub_cancel_left]; show (upd X.a s _ s).length = _; rw [upd_same]; simp
    have e4 : (X.addA s (.slice (some ⟨g, 0, none⟩) ((X.a s).length + 1) cap) u).rowC (10 + s) = (X.a s).flatMap akc ++ akc u := by unfold Wr.rowC Wr.addA; rw [if_neg (by omega), if_neg (by omega), if_neg (by omega), Nat.add_sub_cancel_left]; show (upd X.a s _ s).flatMap akc = _; rw [upd_same]; simp
    rw [e1, e2, e3, e4]; exact hrow
  · unfold Wr.rowN Wr.rowC Wr.addA
    by_cases c1 : j < 6
    · simp only [c1, if_true]; exact ⟨trivial, trivial⟩
    · by_cases c2 : j < 8
      · simp only [c1, c2, if_true, if_false]; exact ⟨trivial, trivial⟩
      · by_cases c3 : j < 10
        · simp only [c1, c2, c3, if_true, if_false]; exact ⟨trivial, trivial⟩
        · simp only [c1, c2, c3, if_false]; rw [upd_ne _ _ (show j - 10 ≠ s by omega)]; exact ⟨rfl, rfl⟩
  · simp [Value.ownBlock] at hq
    subst hq
    exact hl
theorem addA_pu (X : Wr) (s : Nat) (v : Value) (u : Nat) : (X.addA s v u).pu = { X.pu with a := upd X.pu.a s (X.pu.a s ++ [u]) } := rfl
theorem ack_info : ∃ i : TypeInfo, Try.prog.info? 57 = some i ∧ i.zero = some (.agg z5.toArray) ∧ i.size = 5 ∧ i.bytes = 40 := by
  have h : (Try.prog.info? 57).map (fun i => (i.zero, i.size, i.bytes)) = some (some (.agg z5.toArray), 5, 40) := by kernel_rfl
  cases hq : Try.prog.info? 57 with
  | none => rw [hq] at h; cases h
  | some i => rw [hq] at h; simp at h; exact ⟨i, rfl, h.1, h.2.1, h.2.2⟩
theorem step_pushA {ops : Array Oper} {o : Oper} {a : Act} {K : Act → World → Prop} {Q : Exit → Act → World → Prop} {E : Prop} (hgd : o.guard = none) (s x : Operand)
    (ho : o.op = .call { callee := .builtin .append, args := #[s, x], argTypes := #[39, 39] })
    (w0 : World) (v : Value) (vals : List Value) (u : Nat) (hs : a.eval s = v) (n : Nat) (hown : w0.ownsRow B 57 5 v n vals) (hw : w = w0.alloc (.cells (ak5 u).toArray 57)) (hx : a.eval x = .slice (some ⟨w0.heap.size, 0, none⟩) 1 1)
    (hn : n + 1 ≤ 1000000) (hbase : B ≤ w0.heap.size)
    (h : ∀ g cap w', w'.ownsRow B 57 5 (.slice (some ⟨g, 0, none⟩) (n + 1) cap) (n + 1) (vals ++ akc u) → Kept w0 w' (fun k => v.ownBlock = some k) → (v.ownBlock = some g ∨ w0.heap.size ≤ g) → g < w'.heap.size → K (a.put o.dst (.slice (some ⟨g, 0, none⟩) (n + 1) cap)) w') : if Region.wanted o (yielded ops a.tmps) = true then Oper.wp Try.prog o a w K Q else E := by
  obtain ⟨i0, hi, hz0, hz1, hz2⟩ := ack_info
  subst hw
  refine step_append_lies _ hgd s x 39 ho B 57 i0 (.agg z5.toArray) 5 40 Try.underlying39 hi hz0 hz1 hz2 rfl (by decide) v n vals hs (World.ownsRow.alloc hown _) ⟨w0.heap.size, 0, none⟩ 1 1 (ak5 u) hx rfl (fun j y hy => by rw [Addr.add_mid, Nat.zero_add, blk_cell (heap_alloc_new _ _), List.getElem?_toArray, hy]) (ak5_one u) (by omega) (by unfold maxLen; omega) (by omega) (by simp; omega) _ rfl fun g cap w' h2 h3 h4 h5 => h g cap w' h2 ?_ ?_ h5
  · exact (Kept.ofBelow ((Below.refl _ w0).alloc (Nat.le_refl _) (.cells (ak5 u).toArray 57)) _).step (Kept.ofGrown h3) (fun j hj => .inl hj.symm)
  · rcases h4 with h4 | h4
    · exact .inl h4
    · right; rw [h4]; simp
theorem eq_ack0 : (Op.equalIn 10000 57 (.agg #[.int .i64 0, .int .i64 0, .int .i64 0, .int .i64 0, .int .i64 0]) (.agg #[.int .i64 0, .int .i64 0, .int .i64 0, .int .i64 0, .int .i64 0])).run Try.prog w = .ok true w := by kernel_rfl
theorem guard_ack : Try.prog.eqGuardType Try.prog.depth 57 = false := by kernel_rfl
abbrev zA : Array Value := #[.int .i64 0, .int .i64 0, .int .i64 0, .int .i64 0, .int .i64 0]
theorem Xstep.blk {kd t : Nat} {cs : Array Value} (st : Xstep w w' X X' B) (hb : w.heap[kd]? = some (.cells cs t (0, 0))) (hn : ¬ X.own kd) : w'.heap[kd]? = some (.cells cs t (0, 0)) := st.kept.obj hb hn
theorem var_after {w3 : World} (L : List Value) (hl : L.length = 5) : Below w3.heap.size w3 ((w3.alloc (.cells zA 57)).setCells w3.heap.size 0 L) ∧ ((w3.alloc (.cells zA 57)).setCells w3.heap.size 0 L).heap[w3.heap.size]? = some (.cells L.toArray 57 (0, 0)) := newvar w3 57 zA L (by rw [hl]; rfl)
theorem var_before {D w3 : World} (L : List Value) (hl : L.length = 5) {X1 : Wr} (h : X.Ok D B) (st : Xstep (D.alloc (.cells zA 57)) w3 X X1 B) : Xstep D (w3.setCells D.heap.size 0 L) X X1 B ∧ (w3.setCells D.heap.size 0 L).heap[D.heap.size]? = some (.cells L.toArray 57 (0, 0)) ∧ w3.there D.heap.size 0 5 ∧ ¬ X1.own D.heap.size := by
  have hn : ¬ X.own D.heap.size := fun e => by have := h.lt e; omega
  have hb0 : (D.alloc (.cells zA 57)).heap[D.heap.size]? = some (.cells zA 57 (0, 0)) := heap_alloc_new _ _
  have hb3 := st.kept.obj hb0 hn
  have kk : Kept w3 (w3.setCells D.heap.size 0 L) (fun j => j = D.heap.size) := ksets (P := fun j => j = D.heap.size) rfl _ _ _
  have hn1 : ¬ X1.own D.heap.size := fun e => (st.own _ e).elim hn (fun hh => by simp at hh; omega)
  have s0 : Xstep D (D.alloc (.cells zA 57)) X X B := Xstep.below h (balloc (Below.refl _ _))
  have s1 := s0.trans st
  refine ⟨⟨s1.ok.keep kk (fun j hj e => hn1 (by rw [← show j = D.heap.size from e]; exact hj)), s1.kept.step kk (fun j hj => .inr (by have : j = D.heap.size := hj; omega)), s1.own, s1.b⟩, sets_whole hb3 (by rw [hl]; rfl), blk_there hb3 rfl, hn1⟩
theorem setE0 (h : X.Ok w B) {s : Nat} (hs : s < 2) (hb : Below w.heap.size w w') : Xstep w w' X X B := Xstep.below h hb
end
end Go.Proofs.Ytghihdenbdnnjaa.Ln
