import Derived.Test.YtmphabgpabbbjabDoorU1
namespace Go.Proofs.YtmphabgpabbbjabDoor.Fg
open Go.RowKit Mb
set_option linter.unusedVariables false
set_option maxRecDepth 100000
set_option linter.unusedSimpArgs false
section
variable {w w' W : World} {B : Nat}
structure Rs (w : World) (base : Nat) (v : Value) (vals : List Value) (cs : List (List Int)) : Prop where
  row : w.ownsRow base 32 1 v cs.length vals
  el : ∀ i, i < cs.length → ∃ a m c, vals[i]? = some (.slice a m c) ∧ Own w base (.slice a m c) (cs.getD i [])
def blks (v : Value) (vals : List Value) (k : Nat) : Prop := v.ownBlock = some k ∨ ∃ u ∈ vals, u.ownBlock = some k
theorem Rs.len {base : Nat} {v : Value} {vals : List Value} {cs : List (List Int)} (h : Rs w base v vals cs) : vals.length = cs.length := rs_vals h.row
theorem Rs.shape {base : Nat} {v : Value} {vals : List Value} {cs : List (List Int)} (h : Rs w base v vals cs) : ∃ a c, v = .slice a cs.length c ∧ cs.length ≤ c := by
  rcases h.row.2 with ⟨e, h3⟩ | ⟨g, cap, cur, hv, _, _, hc, _⟩
  · exact ⟨none, 0, by rw [e, h3], by omega⟩
  · exact ⟨_, _, hv, hc⟩
theorem Rs.mem {base : Nat} {v : Value} {vals : List Value} {cs : List (List Int)} (h : Rs w base v vals cs) {u : Value} (hu : u ∈ vals) : ∃ i, i < cs.length ∧ vals[i]? = some u ∧ Own w base u (cs.getD i []) := by
  obtain ⟨i, hi, rfl⟩ := List.mem_iff_getElem.1 hu
  have hl := h.len
  obtain ⟨a, m, c, h1, h2⟩ := h.el i (by omega)
  have h3 : vals[i]? = some vals[i] := List.getElem?_eq_getElem hi
  have h4 : vals[i] = .slice a m c := by rw [h3] at h1; exact Option.some.inj h1
  exact ⟨i, by omega, h3, by rw [h4]; exact h2⟩
theorem Rs.keep {base : Nat} {v : Value} {vals : List Value} {cs : List (List Int)} {P : Nat → Prop} (h : Rs w base v vals cs) (k : Kept w w' P) (hp : ∀ j, blks v vals j → ¬ P j) : Rs w' base v vals cs :=
  ⟨k.owns h.row fun g hg => hp g (.inl hg), fun i hi => by
    obtain ⟨a, m, c, h1, h2⟩ := h.el i hi
    exact ⟨a, m, c, h1, h2.keep k fun g hg => hp g (.inr ⟨_, List.mem_of_getElem? h1, hg⟩)⟩⟩
theorem Rs.still {base : Nat} {v : Value} {vals : List Value} {cs : List (List Int)} (h : Rs w base v vals cs) (hb : Below w.heap.size w w') : Rs w' base v vals cs := h.keep (Kept.ofBelow hb (fun _ => False)) fun _ _ => id
theorem Rs.lt {base : Nat} {v : Value} {vals : List Value} {cs : List (List Int)} (h : Rs w base v vals cs) {k : Nat} (hk : blks v vals k) : base ≤ k ∧ k < w.heap.size := by
  rcases hk with hk | ⟨u, hu, hk⟩
  · exact World.ownsRow.lt h.row k hk
  · obtain ⟨i, _, _, ho⟩ := h.mem hu
    exact World.ownsRow.lt ho k hk
theorem Rs.ne {base : Nat} {v : Value} {vals : List Value} {cs : List (List Int)} (h : Rs w base v vals cs) {g : Nat} (hg : v.ownBlock = some g) {u : Value} (hu : u ∈ vals) : u.ownBlock ≠ some g := by
  intro he
  obtain ⟨i, _, _, ho⟩ := h.mem hu
  obtain ⟨C, hC⟩ := own_ty ho he
  obtain ⟨C', hC'⟩ := own_ty h.row hg
  rw [hC] at hC'
  simp at hC'
theorem rs_zero (w : World) (base : Nat) : Rs w base (.slice none 0 0) [] [] := ⟨⟨rfl, .inl ⟨rfl, rfl⟩⟩, fun i hi => by simp at hi⟩
theorem wl_pushQ {ops : Array Oper} {rest : List Oper} {o : Oper} {a : Act} {Q : Exit → Act → World → Prop} (hgd : o.guard = none) (s x : Operand)
    (ho : o.op = .call { callee := .builtin .append, args := #[s, x], argTypes := #[41, 41] })
    (w0 : World) (base : Nat) (v : Value) (vals : List Value) (cs : List (List Int)) (y : Value) (bs : List Int) (hs : a.eval s = v) (hown : Rs w0 base v vals cs) (hy : Own w0 base y bs) (hw : w = w0.alloc (.cells #[y] 32)) (hx : a.eval x = .slice (some ⟨w0.heap.size, 0, none⟩) 1 1)
    (hbytes : cs.length + 1 ≤ 1000000) (hbase : base ≤ w0.heap.size)
    (h : ∀ v' w', Rs w' base v' (vals ++ [y]) (cs ++ [bs]) → Kept w0 w' (fun k => v.ownBlock = some k) → (∀ k, v'.ownBlock = some k → v.ownBlock = some k ∨ w0.heap.size ≤ k) → wpList Tryd.prog ops Q rest (a.put o.dst v') w') : wpList Tryd.prog ops Q (o :: rest) a w := by
  obtain ⟨i0, hi, hz0, hz1, hz2⟩ := rows_info
  have hvl := hown.len
  subst hw
  obtain ⟨ya, yc, hye, _⟩ := hy.shape
  refine wpList_append_lies _ hgd s x 41 ho base 32 i0 (.slice none 0 0) 1 24 Tryd.underlying41 hi hz0 hz1 hz2 rfl (by decide) v cs.length vals hs (World.ownsRow.alloc hown.row _) ⟨w0.heap.size, 0, none⟩ 1 1 [y] hx rfl (cell_one_new _ _ _) (by intro u hu; simp at hu; subst hu; rw [hye]; rfl) (by omega) (by unfold maxLen; omega) (by omega) (by simp; omega) _ rfl fun g cap w' h2 h3 h4 h5 => h _ w' ⟨by simpa using h2, fun i hi => ?_⟩ ?_ ?_
  · have keep : ∀ (z : Value) (zs : List Int), Own w0 base z zs → Own w' base z zs := fun z zs hz => by
      have hz' : Own (w0.alloc (.cells #[y] 32)) base z zs := World.ownsRow.alloc hz _
      refine hz'.keep (Kept.ofGrown h3) fun g hg he => ?_
      obtain ⟨C, hC⟩ := own_ty hz' hg
      obtain ⟨C', hC'⟩ := own_ty (World.ownsRow.alloc hown.row (.cells #[y] 32)) he.symm
      rw [hC] at hC'
      simp at hC'
    simp only [List.length_append, List.length_cons, List.length_nil, Nat.zero_add] at hi
    by_cases e : i < cs.length
    · obtain ⟨a', m', c', h4, h5⟩ := hown.el i e
      refine ⟨a', m', c', by rw [List.getElem?_append_left (by omega), h4], ?_⟩
      have : (cs ++ [bs]).getD i [] = cs.getD i [] := by simp [List.getD, List.getElem?_append, e]
      rw [this]
      exact keep _ _ h5
    · obtain rfl : i = cs.length := by omega
      refine ⟨ya, bs.length, yc, by rw [List.getElem?_append_right (by omega), hvl]; simp [hye], ?_⟩
      have : (cs ++ [bs]).getD cs.length [] = bs := by simp [List.getD]
      rw [this, ← hye]
      exact keep _ _ hy
  · exact (Kept.ofBelow ((Below.refl _ w0).alloc (Nat.le_refl _) (.cells #[y] 32)) _).step (Kept.ofGrown h3) (fun j hj => .inl hj.symm)
  · intro k hk
    simp [Value.ownBlock] at hk
    subst hk
    rcases h4 with h4 | h4
    · exact .inl h4
    · right
      rw [h4]
      simp
theorem Rs.cell {base : Nat} {a : Option Addr} {n c : Nat} {vals : List Value} {cs : List (List Int)} (h : Rs w base (.slice a n c) vals cs) {i : Nat} (hi : i < cs.length) (hb : ∀ x ∈ cs, By x) : ∃ g ai mi ci, a = some ⟨g, 0, none⟩ ∧ w.cell? ⟨g, i, none⟩ = some (.slice ai mi ci) ∧ Rd w ai mi ci (cs.getD i []) ∧ mi = (cs.getD i []).length := by
  rcases h.row.2 with ⟨e, h3⟩ | ⟨g, cap, cur, hv, _⟩
  · omega
  · have hv2 := hv
    simp at hv
    obtain ⟨rfl, rfl, rfl⟩ := hv
    obtain ⟨ai, mi, ci, h4, h5⟩ := h.el i hi
    have hby : By (cs.getD i []) := hb _ (by simp [List.getD, hi])
    refine ⟨g, ai, mi, ci, rfl, by rw [World.ownsRow.cellAt h.row i (by omega), h4], h5.rd hby, ?_⟩
    exact (h5.rd hby).len.symm
theorem cat_take_succ (cs : List (List Int)) (k : Nat) (h : k < cs.length) : cat (cs.take (k + 1)) = cat (cs.take k) ++ (cs.getD k []).drop 8 := by
  have e : (cs.getD k []) = cs[k] := by simp [List.getD, h]
  rw [e, List.take_succ_eq_append_getElem h]
  unfold cat
  rw [List.map_append, List.flatten_append]
  congr 1
  simp
theorem cat_len_le (cs : List (List Int)) (h : ∀ x ∈ cs, x.length ≤ 256) : (cat cs).length ≤ cs.length * 248 := by
  induction cs with
  | nil => simp [cat]
  | cons x cs ih =>
    have h1 := ih fun y hy => h y (by simp [hy])
    have h2 := h x (by simp)
    have e : cat (x :: cs) = x.drop 8 ++ cat cs := by simp [cat]
    rw [e, List.length_append, List.length_drop]
    simp only [List.length_cons]
    omega
theorem cat_by {cs : List (List Int)} (h : ∀ x ∈ cs, By x) : By (cat cs) := By.of fun x hx => by
  unfold cat at hx
  obtain ⟨l, hl, hx⟩ := List.mem_flatten.1 hx
  obtain ⟨c, hc, rfl⟩ := List.mem_map.1 hl
  exact ((h c hc).drop 8).mem x hx
set_option maxHeartbeats 1000000 in
theorem rblob_any {v : Value} {vals : List Value} {cs : List (List Int)} (h : Rs w B v vals cs) (hb : ∀ x ∈ cs, By x ∧ 8 ≤ x.length ∧ x.length ≤ 256) (hn : cs.length ≤ 1000) : Calls Tryd.prog 25 #[v] w fun e w' => ∃ r, e = .returned r ∧ Own w' w.heap.size r (cat cs) ∧ Below w.heap.size w w' := by
  obtain ⟨a, c, hv, _⟩ := h.shape
  subst hv
  have HR : Hid (Rs w B (.slice a cs.length c) vals cs) := h
  have Hb : Hid (∀ x ∈ cs, By x ∧ 8 ≤ x.length ∧ x.length ≤ 256) := hb
  have Hl : Hid (∀ k, (cat (cs.take k)).length ≤ k * 248) := fun k => by
    have h1 := cat_len_le (cs.take k) fun x hx => (hb x (List.mem_of_mem_take hx)).2.2
    have h2 : (cs.take k).length ≤ k := List.length_take_le _ _
    have := Nat.mul_le_mul_right 248 h2
    omega
  clear h hb
  generalize hN : cs.length = N at *
  go_enter Tryd.func25, Tryd.ntmps25
  go_wp2
  go_loopw [3, 4] (fun r i wr => ∃ k : Nat, k ≤ N ∧ i = .int .i64 (k : Int) ∧ Hid (Own wr w.heap.size r (cat (cs.take k))) ∧ Hid (Below w.heap.size w wr)) (fun _ i _ => N - (intOf i).toNat)
  case atStart => exact ⟨0, Nat.zero_le _, rfl, own_zero _ _, Below.refl _ _⟩
  case round =>
    obtain ⟨k, hk, rfl, ho, hbel⟩ := hrel
    by_cases hlt : k < N
    · obtain ⟨g, ai, mi, ci, hag, hc0, hrd, hml⟩ := HR.out.cell (i := k) (by omega) (fun x hx => (Hb.out x hx).1)
      have hmem : cs.getD k [] ∈ cs := by simp [List.getD, show k < cs.length by omega]
      obtain ⟨hb1, hb2, hb3⟩ := Hb.out _ hmem
      have hc1 := below_at hbel.out hc0
      have hrd1 := hrd.still hbel.out
      have hcap := hrd1.cap
      obtain ⟨bb, off, hao, _⟩ : ∃ b off, ai = some ⟨b, off, none⟩ ∧ True := by
        rcases hrd.at_ with h0 | ⟨b, off, h1, _⟩
        · omega
        · exact ⟨b, off, h1, trivial⟩
      subst hao
      obtain ⟨A2, hA2⟩ : ∃ A2, (if ci = 8 then some (⟨bb, off, none⟩ : Addr) else some ⟨bb, off + 8, none⟩) = A2 := ⟨_, rfl⟩
      have Hrd2 : Hid (Rd wr A2 (mi - 8) (ci - 8) ((cs.getD k []).drop 8)) := (show Rd wr A2 (mi - 8) (ci - 8) ((cs.getD k []).drop 8) from Rd.from hrd1 (by rw [← hA2]; split <;> rfl) (by omega))
      have Hnx : Hid (cat (cs.take (k + 1)) = cat (cs.take k) ++ (cs.getD k []).drop 8) := cat_take_succ cs k (by omega)
      have q8 : (8 : Int) ≤ (mi : Int) := by omega
      have i1 : (0 : Int) ≤ (k : Int) := Int.natCast_nonneg _
      have i2 : (k : Int) < (N : Int) := by omega
      have hlk := Hl.out k
      subst hag
      clear hc0 hrd hrd1
      have hmi : mi ≤ 256 := by omega
      have Hmi : Hid (mi = (cs.getD k []).length) := hml
      clear hml hmem
      generalize cs.getD k [] = ck at *
      go_wp2_with (first
        | (at_builtin; refine wpList_append_rd rfl _ _ rfl w.heap.size _ (cat (cs.take k)) (ck.drop 8) rfl ho.out _ _ _ rfl Hrd2.out (by omega) hbel.out.size ?_)
        | fail)
      intro v2 w2 ho2 hg2
      have HB : Hid (Below w.heap.size w w2) := hbel.out.grown hg2 hbel.out.size (fun q hq => (ho.out.lt q hq).1)
      have HO : Hid (Own w2 w.heap.size v2 (cat (cs.take (k + 1)))) := (show Own w2 w.heap.size v2 (cat (cs.take (k + 1))) from by rw [Hnx.out]; exact ho2)
      clear ho2 hg2 ho hbel
      go_wp2
      go_roundw
      case rel => exact ⟨k + 1, by omega, by go_num, HO, HB⟩
      case measure => simp [intOf]; omega
    · obtain rfl : k = N := by omega
      have HO : Hid (Own wr w.heap.size u3 (cat cs)) := (show Own wr w.heap.size u3 (cat cs) from by have := ho.out; rw [List.take_of_length_le (by omega)] at this; exact this)
      clear ho
      go_wp2
      go_ret
      exact ⟨_, rfl, HO.out, hbel.out⟩
end
end Go.Proofs.YtmphabgpabbbjabDoor.Fg
