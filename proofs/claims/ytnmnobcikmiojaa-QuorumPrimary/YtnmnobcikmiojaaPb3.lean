import Derived.Test.YtnmnobcikmiojaaPa3
import Derived.Deep.DeepCutAuto
namespace Go.Proofs.Ytnmnobcikmiojaa.Qm
open Go.RowKit Mb
set_option linter.unusedVariables false
set_option maxRecDepth 100000
set_option linter.unusedSimpArgs false
section
variable {w w' : World} {B : Nat}
def fl3 (ts : List St) : List Int := ts.flatMap St.li
theorem fl3_len : ∀ ts : List St, (fl3 ts).length = ts.length * 3
  | [] => rfl
  | x :: r => by
      have := fl3_len r
      simp only [fl3, List.flatMap_cons, List.length_append, List.length_cons, St.li_len] at this ⊢
      rw [this]
      omega
theorem fl3_at : ∀ (ts : List St) (i j : Nat), i < ts.length → j < 3 → (fl3 ts)[i * 3 + j]? = (ts.getD i z3).li[j]?
  | [], i, j, h, _ => by simp at h
  | x :: r, 0, j, h, hj => by
      simp only [fl3, List.flatMap_cons, Nat.zero_mul, Nat.zero_add]
      rw [List.getElem?_append_left (by rw [St.li_len]; exact hj)]
      simp [List.getD]
  | x :: r, i + 1, j, h, hj => by
      have ih := fl3_at r i j (by simpa using h) hj
      simp only [fl3, List.flatMap_cons] at ih ⊢
      rw [List.getElem?_append_right (by rw [St.li_len]; omega), St.li_len, show (i + 1) * 3 + j - 3 = i * 3 + j by omega, ih]
      simp [List.getD]
theorem fl3_snoc (ts : List St) (x : St) : fl3 (ts ++ [x]) = fl3 ts ++ x.li := by simp [fl3]
theorem ints_get (xs : List Int) (j : Nat) : (ints xs)[j]? = (xs[j]?).map (Value.int .i64) := by simp [ints]
theorem own3_rd {a : Option Addr} {n c : Nat} {ts : List St} (h : w.ownsRow B 65 3 (.slice a n c) n (ints (fl3 ts))) : Rd3 w a n c ts := by
  have hl : ts.length = n := by
    have := h.1
    rw [ints_len, fl3_len] at this
    omega
  rcases h.2 with ⟨h1, h2⟩ | ⟨g, cap, cur, hv, hB, hg, hnc, hcm, hcs, htk⟩
  · simp only [Value.slice.injEq] at h1
    obtain ⟨rfl, rfl, rfl⟩ := h1
    exact ⟨hl, Nat.le_refl _, fun _ => rfl, .inl rfl⟩
  · simp only [Value.slice.injEq] at hv
    obtain ⟨rfl, -, rfl⟩ := hv
    refine ⟨hl, by omega, by simp, .inr ⟨g, 0, rfl, fun i hi j v hj => ?_⟩⟩
    have hj3 : j < 3 := by
      have := (List.getElem?_eq_some_iff.1 hj).1
      rw [ints_len, St.li_len] at this
      exact this
    rw [Nat.zero_add, blk_cell hg (i * 3 + j)]
    have e1 : (cur.toList.take (n * 3))[i * 3 + j]? = (ints (fl3 ts))[i * 3 + j]? := by rw [htk]
    rw [List.getElem?_take_of_lt (by omega)] at e1
    rw [← Array.getElem?_toList, e1, ints_get, fl3_at ts i j (by omega) hj3, ← ints_get, hj]
theorem rd3_cells {ao : Option Addr} {n c : Nat} {ts : List St} (h : Rd3 w ao n c ts) : ∀ ad, ao = some ad → ∀ j u, (ints (fl3 ts))[j]? = some u → w.cell? (ad.add j) = some u := by
  intro ad ha
  have h1 := h.len
  rcases h.at_ with h2 | ⟨b, o, e, hc⟩
  · obtain rfl : ts = [] := List.eq_nil_of_length_eq_zero (by omega)
    intro j u hu
    simp [fl3, ints] at hu
  · obtain rfl : ad = ⟨b, o, none⟩ := by rw [ha] at e; simpa using e
    intro j u hu
    have hj : j < n * 3 := by
      have := (List.getElem?_eq_some_iff.1 hu).1
      rw [ints_len, fl3_len] at this
      omega
    rw [Addr.add_lit]
    have := hc (j / 3) (by omega) (j % 3) u (by
      rw [← hu, ints_get, ints_get, ← fl3_at ts (j / 3) (j % 3) (by omega) (by omega)]
      congr 1
      congr 1
      omega)
    rw [show o + j / 3 * 3 + j % 3 = o + j by omega] at this
    exact this
theorem mb_info : ∃ i : TypeInfo, Try.prog.info? 65 = some i ∧ i.zero = some (.agg #[.int .i64 0, .int .i64 0, .int .i64 0]) ∧ i.size = 3 ∧ i.bytes = 24 := by
  have h : (Try.prog.info? 65).map (fun i => (i.zero, i.size, i.bytes)) = some (some (.agg #[.int .i64 0, .int .i64 0, .int .i64 0]), 3, 24) := by kernel_rfl
  cases hi : Try.prog.info? 65 with
  | none => rw [hi] at h; cases h
  | some i =>
    rw [hi] at h
    simp only [Option.map_some, Option.some.injEq, Prod.mk.injEq] at h
    exact ⟨i, rfl, h.1, h.2.1, h.2.2⟩
theorem vw_info : ∃ i : TypeInfo, Try.prog.info? 62 = some i ∧ i.zero = some (.agg #[.int .i64 0, .int .i64 0, .int .i64 0, .int .i64 0, .slice none 0 0]) ∧ i.size = 5 ∧ i.bytes = 56 := by
  have h : (Try.prog.info? 62).map (fun i => (i.zero, i.size, i.bytes)) = some (some (.agg #[.int .i64 0, .int .i64 0, .int .i64 0, .int .i64 0, .slice none 0 0]), 5, 56) := by kernel_rfl
  cases hi : Try.prog.info? 62 with
  | none => rw [hi] at h; cases h
  | some i =>
    rw [hi] at h
    simp only [Option.map_some, Option.some.injEq, Prod.mk.injEq] at h
    exact ⟨i, rfl, h.1, h.2.1, h.2.2⟩
theorem wp_app_m {w0 : World} {o : Oper} {a : Act} {K : Act → World → Prop} {Q : Exit → Act → World → Prop} (s x : Operand)
    (ho : o.op = .call { callee := .builtin .append, args := #[s, x], argTypes := #[60, 60] })
    (v : Value) (n : Nat) (ts : List St) (hs : a.eval s = v) (hown : w.ownsRow w0.heap.size 65 3 v n (ints (fl3 ts))) (hb : Below w0.heap.size w0 w)
    (ad : Addr) (k c : Nat) (ys : List St) (hx : a.eval x = .slice (some ad) k c) (hr : Rd3 w (some ad) k c ys) (hn : n + k ≤ 5864062014805)
    (h : ∀ v' w', Hid (w'.ownsRow w0.heap.size 65 3 v' (n + k) (ints (fl3 (ts ++ ys)))) → Hid (Below w0.heap.size w0 w') → Hid (w.grownBy w' v.ownBlock) → K (a.put o.dst v') w') : o.wp Try.prog a w K Q := by
  obtain ⟨i0, hi, hz0, hz1, hz2⟩ := mb_info
  have hk := hr.len
  refine wp_append_own w s x 60 ho w0.heap.size 65 i0 (.agg #[.int .i64 0, .int .i64 0, .int .i64 0]) 3 24 Try.underlying60 hi hz0 hz1 hz2 (by rfl) (by decide) v n (ints (fl3 ts)) hs hown ad k c (ints (fl3 ys)) hx (by rw [ints_len, fl3_len]; omega) (rd3_cells hr ad rfl) (ints_one _) (by unfold maxLen; omega) (by omega) hb.size ?_
  intro v' w' h2 h3 _
  exact h v' w' (by show World.ownsRow _ _ _ _ _ _ _; simpa [ints, fl3] using h2) (hb.grown h3 hb.size (fun q hq => (World.ownsRow.lt hown q hq).1)) h3
theorem own_type {t s n : Nat} {v : Value} {l : List Value} {g : Nat} (h : w.ownsRow B t s v n l) (hg : v.ownBlock = some g) : ∃ cur, w.heap[g]? = some (.cells cur t (0, 0)) := by
  rcases h.2 with ⟨h1, h2⟩ | ⟨g', cap, cur, hv, hB, hh, _⟩
  · rw [h1] at hg; cases hg
  · rw [hv] at hg
    simp only [Value.ownBlock, Option.some.injEq] at hg
    exact ⟨cur, hg ▸ hh⟩
theorem own_keepT {P : Nat → Prop} {t s n : Nat} {v : Value} {l : List Value} (h : w.ownsRow B t s v n l) (k : Kept w w' P) (hp : ∀ g cur, w.heap[g]? = some (.cells cur t (0, 0)) → ¬ P g) : w'.ownsRow B t s v n l :=
  k.owns h fun g hg => by
    obtain ⟨cur, hc⟩ := own_type h hg
    exact hp g cur hc
theorem ty_ne {a b t t' : Nat} {C C' : Array Value} (h : w.heap[a]? = some (.cells C t (0, 0))) (h' : w.heap[b]? = some (.cells C' t' (0, 0))) (ht : t ≠ t') : a ≠ b := by
  intro e
  subst e
  rw [h] at h'
  simp only [Option.some.injEq, Obj.cells.injEq] at h'
  exact ht h'.2.1
theorem mul_li (x : St) : ints x.li = [.int .i64 x.p, .int .i64 x.e, .int .i64 x.l] := rfl
structure Mq (w : World) (mv : Value) (L : List Nat) (k BV q : Nat) (mo : Option Addr) (mc : Nat) (wq : World) : Prop where
  blk : wq.heap[BV]? = some (.cells #[.int .i64 0, .int .i64 0, .int .i64 0, .int .i64 0, .slice mo q mc] 62 (0, 0))
  row : wq.ownsRow w.heap.size 65 3 (.slice mo q mc) q (ints (fl3 ((L.take q).map (mbr k))))
  ml : wq.ownsRow w.heap.size 3 1 mv L.length (ints (zi L))
  bel : Below w.heap.size w wq
structure Wst (w : World) (v : List Nat) (ns : List Int) (b k : Nat) (E : Int) (l : Value) (wr : World) : Prop where
  ok : ∃ A : Wa, A.b = b ∧ A.v = v ∧ A.ep = E ∧ A.en = k ∧ A.qu = (sel v (ns.take k)).length ∧ A.Ok wr
  row : wr.ownsRow w.heap.size 3 1 l (sel v (ns.take k)).length (ints (zi (sel v (ns.take k))))
  bel : Below w.heap.size w wr
  low : w.heap.size ≤ b
end
end Go.Proofs.Ytnmnobcikmiojaa.Qm
