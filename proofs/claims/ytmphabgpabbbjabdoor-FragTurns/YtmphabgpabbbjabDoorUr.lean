import Derived.Test.YtmphabgpabbbjabDoorUq
import Derived.Test.YtmphabgpabbbjabDoorUp
namespace Go.Proofs.YtmphabgpabbbjabDoor.Fg
open Go.RowKit Mb
set_option linter.unusedVariables false
set_option maxRecDepth 100000
set_option linter.unusedSimpArgs false
section
variable {w w' W : World} {B : Nat}
structure RS (w : World) (base : Nat) (v : Value) (cs : List (List Int)) : Prop where
  out : ∃ vals, w.ownsRow base 32 1 v cs.length vals ∧ ∀ i, i < cs.length → ∃ a m c, vals[i]? = some (.slice a m c) ∧ Own w base (.slice a m c) (cs.getD i [])
theorem rs_nil (w : World) (base : Nat) : RS w base (.slice none 0 0) [] := ⟨[], ⟨rfl, .inl ⟨rfl, rfl⟩⟩, fun i hi => by simp at hi⟩
theorem own_ty {base e s n g : Nat} {v : Value} {l : List Value} (h : w.ownsRow base e s v n l) (hg : v.ownBlock = some g) : ∃ C, w.heap[g]? = some (.cells C e (0, 0)) := by
  rcases h.2 with ⟨h1, _⟩ | ⟨g', cap, cur, hv, _, hh, _⟩
  · rw [h1] at hg; cases hg
  · rw [hv] at hg
    simp [Value.ownBlock] at hg
    subst hg
    exact ⟨cur, hh⟩
theorem rs_vals {base : Nat} {v : Value} {cs : List (List Int)} {vals : List Value} (h : w.ownsRow base 32 1 v cs.length vals) : vals.length = cs.length := by rw [h.1]; omega
theorem wl_pushR {ops : Array Oper} {rest : List Oper} {o : Oper} {a : Act} {Q : Exit → Act → World → Prop} (hgd : o.guard = none) (s x : Operand)
    (ho : o.op = .call { callee := .builtin .append, args := #[s, x], argTypes := #[41, 41] })
    (w0 wb : World) (base : Nat) (v : Value) (cs : List (List Int)) (y : Value) (bs : List Int) (hs : a.eval s = v) (hown : RS w0 base v cs) (hy : Own w0 base y bs) (hw : w = w0.alloc (.cells #[y] 32)) (hx : a.eval x = .slice (some ⟨w0.heap.size, 0, none⟩) 1 1)
    (hbytes : cs.length + 1 ≤ 1000000) (hbase : base ≤ w0.heap.size) (hbel : Below base wb w0)
    (h : ∀ v' w', RS w' base v' (cs ++ [bs]) → Below base wb w' → wpList Tryd.prog ops Q rest (a.put o.dst v') w') : wpList Tryd.prog ops Q (o :: rest) a w := by
  obtain ⟨i0, hi, hz0, hz1, hz2⟩ := rows_info
  obtain ⟨vals, hv1, hv2⟩ := hown
  have hvl := rs_vals hv1
  subst hw
  obtain ⟨ya, yc, hye, _⟩ := hy.shape
  refine wpList_append_own _ hgd s x 41 ho base 32 i0 (.slice none 0 0) 1 24 Tryd.underlying41 hi hz0 hz1 hz2 rfl (by decide) v cs.length vals hs (World.ownsRow.alloc hv1 _) ⟨w0.heap.size, 0, none⟩ 1 1 [y] hx rfl (cell_one_new _ _ _) (by intro u hu; simp at hu; subst hu; rw [hye]; rfl) (by unfold maxLen; omega) (by omega) (by simp; omega) fun v' w' h2 h3 _ => h v' w' ⟨vals ++ [y], by simpa using h2, fun i hi => ?_⟩ ((hbel.alloc hbase _).grown h3 (by simp; omega) (fun k hk => (World.ownsRow.lt hv1 k hk).1))
  have keep : ∀ (z : Value) (zs : List Int), Own w0 base z zs → Own w' base z zs := fun z zs hz => by
    have hz' : Own (w0.alloc (.cells #[y] 32)) base z zs := World.ownsRow.alloc hz _
    refine hz'.keep (Kept.ofGrown h3) fun g hg he => ?_
    obtain ⟨C, hC⟩ := own_ty hz' hg
    obtain ⟨C', hC'⟩ := own_ty (World.ownsRow.alloc hv1 (.cells #[y] 32)) he.symm
    rw [hC] at hC'
    simp at hC'
  simp only [List.length_append, List.length_cons, List.length_nil, Nat.zero_add] at hi
  by_cases e : i < cs.length
  · obtain ⟨a', m', c', h4, h5⟩ := hv2 i e
    refine ⟨a', m', c', by rw [List.getElem?_append_left (by omega), h4], ?_⟩
    have : (cs ++ [bs]).getD i [] = cs.getD i [] := by simp [List.getD, List.getElem?_append, e]
    rw [this]
    exact keep _ _ h5
  · obtain rfl : i = cs.length := by omega
    refine ⟨ya, bs.length, yc, by rw [List.getElem?_append_right (by omega), hvl]; simp [hye], ?_⟩
    have : (cs ++ [bs]).getD cs.length [] = bs := by simp [List.getD]
    rw [this, ← hye]
    exact keep _ _ hy
theorem RS.below {base : Nat} {v : Value} {cs : List (List Int)} (h : RS w base v cs) (hb : Below w.heap.size w w') : RS w' base v cs := by
  obtain ⟨vals, h1, h2⟩ := h
  exact ⟨vals, own_still h1 hb, fun i hi => by obtain ⟨a, m, c, h3, h4⟩ := h2 i hi; exact ⟨a, m, c, h3, h4.still hb⟩⟩
theorem own_lower' {B' base : Nat} {v : Value} {bs : List Int} (h : Own w base v bs) (hB : B' ≤ base) : Own w B' v bs := own_lower h hB
structure RR (w : World) (a : Option Addr) (n : Nat) (cs : List (List Int)) : Prop where
  len : cs.length = n
  at_ : n = 0 ∨ ∃ g, a = some ⟨g, 0, none⟩ ∧ ∀ i, i < n → ∃ ai mi ci, w.cell? ⟨g, i, none⟩ = some (.slice ai mi ci) ∧ Rd w ai mi ci (cs.getD i [])
theorem RS.rr {base : Nat} {a : Option Addr} {n c : Nat} {cs : List (List Int)} (h : RS w base (.slice a n c) cs) (hb : ∀ i, By (cs.getD i [])) : RR w a n cs ∧ cs.length = n := by
  obtain ⟨vals, h1, h2⟩ := h
  have hn : cs.length = n := by
    rcases h1.2 with ⟨e, h3⟩ | ⟨g, cap, cur, hv, _⟩
    · simp at e; omega
    · simp at hv; omega
  refine ⟨⟨hn, ?_⟩, hn⟩
  rcases h1.2 with ⟨e, h3⟩ | ⟨g, cap, cur, hv, _⟩
  · exact .inl (by omega)
  · simp at hv
    obtain ⟨rfl, _⟩ := hv
    refine .inr ⟨g, rfl, fun i hi => ?_⟩
    obtain ⟨ai, mi, ci, h4, h5⟩ := h2 i (by omega)
    rw [hn] at h1
    exact ⟨ai, mi, ci, by rw [World.ownsRow.cellAt h1 i (by omega), h4], h5.rd (hb i)⟩
theorem RS.shape {base : Nat} {v : Value} {cs : List (List Int)} (h : RS w base v cs) : ∃ a c, v = .slice a cs.length c := by
  obtain ⟨vals, h1, h2⟩ := h
  rcases h1.2 with ⟨e, h3⟩ | ⟨g, cap, cur, hv, _⟩
  · exact ⟨none, 0, by rw [e, h3]⟩
  · exact ⟨_, _, hv⟩
theorem split_at (b : List Int) (i : Nat) (h : i < cnt b.length) : (split b).getD i [] = chunk b i := by simp [split, List.getD, h]
theorem split_by {b : List Int} (h : By b) (i : Nat) : By ((split b).getD i []) := by
  by_cases hi : i < cnt b.length
  · rw [split_at b i hi]; exact chunk_by h i
  · have : (split b).getD i [] = [] := by simp [split, List.getD, show cnt b.length ≤ i by omega]
    rw [this]; exact By.nil
theorem row_cell {gc gr n N i : Nat} (h : Fb w gc 32 N (rowF gr n N)) (hi : i < N) : w.cell? ⟨gc, i, none⟩ = some (.slice (some ⟨gr, i * 256, none⟩) (8 + min 248 (n - i * 248)) (8 + min 248 (n - i * 248))) := by
  rw [h.cell _ hi]
  unfold rowF
  rw [if_pos hi]
theorem piece_rd {gr : Nat} {b : List Int} {i : Nat} (hn : b.length ≤ 4000) (hb : By b) (h : Bk w gr (cats b (cnt b.length))) (hi : i < cnt b.length) : Rd w (some ⟨gr, i * 256, none⟩) (8 + min 248 (b.length - i * 248)) (8 + min 248 (b.length - i * 248)) (chunk b i) := by
  have h1 := cats_len hn i hi
  have h2 := chunk_len b i
  have h3 : (cats b (i + 1)).length ≤ (cats b (cnt b.length)).length := cats_mono b hi
  rw [cats_succ, List.length_append, h1, h2] at h3
  have h4 := h.rd (i * 256) (8 + min 248 (b.length - i * 248)) (8 + min 248 (b.length - i * 248)) h3 (Nat.le_refl _) (cats_by hb _)
  have h5 := cats_part (b := b) (cnt b.length) i hi
  rw [h1, h2] at h5
  rw [h5] at h4
  exact h4
end
end Go.Proofs.YtmphabgpabbbjabDoor.Fg
