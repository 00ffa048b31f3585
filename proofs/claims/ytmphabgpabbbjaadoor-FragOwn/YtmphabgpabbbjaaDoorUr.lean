import Derived.Test.YtmphabgpabbbjaaDoorUq
import Derived.Test.YtmphabgpabbbjaaDoorUp
namespace Go.Proofs.YtmphabgpabbbjaaDoor.Fg
open Go.RowKit Mb
set_option linter.unusedVariables false
set_option maxRecDepth 100000
set_option linter.unusedSimpArgs false
section
variable {w w' W : World} {B : Nat}
structure RS (w : World) (base : Nat) (v : Value) (cs : List (List Int)) : Prop where
  out : ∃ vals, w.ownsRow base 28 1 v cs.length vals ∧ ∀ i, i < cs.length → ∃ a m c, vals[i]? = some (.slice a m c) ∧ Own w base (.slice a m c) (cs.getD i [])
theorem rs_nil (w : World) (base : Nat) : RS w base (.slice none 0 0) [] := ⟨[], ⟨rfl, .inl ⟨rfl, rfl⟩⟩, fun i hi => by simp at hi⟩
theorem own_ty {base e s n g : Nat} {v : Value} {l : List Value} (h : w.ownsRow base e s v n l) (hg : v.ownBlock = some g) : ∃ C, w.heap[g]? = some (.cells C e (0, 0)) := by
  rcases h.2 with ⟨h1, _⟩ | ⟨g', cap, cur, hv, _, hh, _⟩
  · rw [h1] at hg; cases hg
  · rw [hv] at hg
    simp [Value.ownBlock] at hg
    subst hg
    exact ⟨cur, hh⟩
theorem rs_vals {base : Nat} {v : Value} {cs : List (List Int)} {vals : List Value} (h : w.ownsRow base 28 1 v cs.length vals) : vals.length = cs.length := by rw [h.1]; omega
theorem wl_pushR {ops : Array Oper} {rest : List Oper} {o : Oper} {a : Act} {Q : Exit → Act → World → Prop} (hgd : o.guard = none) (s x : Operand)
    (ho : o.op = .call { callee := .builtin .append, args := #[s, x], argTypes := #[39, 39] })
    (w0 wb : World) (base : Nat) (v : Value) (cs : List (List Int)) (y : Value) (bs : List Int) (hs : a.eval s = v) (hown : RS w0 base v cs) (hy : Own w0 base y bs) (hw : w = w0.alloc (.cells #[y] 28)) (hx : a.eval x = .slice (some ⟨w0.heap.size, 0, none⟩) 1 1)
    (hbytes : cs.length + 1 ≤ 1000000) (hbase : base ≤ w0.heap.size) (hbel : Below base wb w0)
    (h : ∀ v' w', RS w' base v' (cs ++ [bs]) → Below base wb w' → wpList Tryd.prog ops Q rest (a.put o.dst v') w') : wpList Tryd.prog ops Q (o :: rest) a w := by
  obtain ⟨i0, hi, hz0, hz1, hz2⟩ := rows_info
  obtain ⟨vals, hv1, hv2⟩ := hown
  have hvl := rs_vals hv1
  subst hw
  obtain ⟨ya, yc, hye, _⟩ := hy.shape
  refine wpList_append_own _ hgd s x 39 ho base 28 i0 (.slice none 0 0) 1 24 Tryd.underlying39 hi hz0 hz1 hz2 rfl (by decide) v cs.length vals hs (World.ownsRow.alloc hv1 _) ⟨w0.heap.size, 0, none⟩ 1 1 [y] hx rfl (cell_one_new _ _ _) (by intro u hu; simp at hu; subst hu; rw [hye]; rfl) (by unfold maxLen; omega) (by omega) (by simp; omega) fun v' w' h2 h3 _ => h v' w' ⟨vals ++ [y], by simpa using h2, fun i hi => ?_⟩ ((hbel.alloc hbase _).grown h3 (by simp; omega) (fun k hk => (World.ownsRow.lt hv1 k hk).1))
  have keep : ∀ (z : Value) (zs : List Int), Own w0 base z zs → Own w' base z zs := fun z zs hz => by
    have hz' : Own (w0.alloc (.cells #[y] 28)) base z zs := World.ownsRow.alloc hz _
    refine hz'.keep (Kept.ofGrown h3) fun g hg he => ?_
    obtain ⟨C, hC⟩ := own_ty hz' hg
    obtain ⟨C', hC'⟩ := own_ty (World.ownsRow.alloc hv1 (.cells #[y] 28)) he.symm
    rw [hC] at hC'
    simp at hC'
  simp only [List.length_append, List.length_cons, List.length_nil, Nat.zero_add] at hi
  by_cases e : i < cs.length
  · obtain ⟨a', m', c', h4, h5⟩ := hv2 i e
    refine ⟨a', m', c', by rw [List.getElem?_append_left (by omega), h4], ?_⟩
    have : (cs ++ [bs]).getD i [] = cs.getD i [] := by simp [List.getD, List.getElem?_append, e]
    rw [this]
    exact keep _ _ h5
  · obtain rfl : i = cs.length := by omega
    refine ⟨ya, bs.length, yc, by rw [List.getElem?_append_right (by omega), hvl]; simp [hye], ?_⟩
    have : (cs ++ [bs]).getD cs.length [] = bs := by simp [List.getD]
    rw [this, ← hye]
    exact keep _ _ hy
theorem RS.below {base : Nat} {v : Value} {cs : List (List Int)} (h : RS w base v cs) (hb : Below w.heap.size w w') : RS w' base v cs := by
  obtain ⟨vals, h1, h2⟩ := h
  exact ⟨vals, own_still h1 hb, fun i hi => by obtain ⟨a, m, c, h3, h4⟩ := h2 i hi; exact ⟨a, m, c, h3, h4.still hb⟩⟩
theorem own_lower' {B' base : Nat} {v : Value} {bs : List Int} (h : Own w base v bs) (hB : B' ≤ base) : Own w B' v bs := own_lower h hB
set_option maxHeartbeats 2000000 in
theorem rsplit_any {ao : Option Addr} {n c : Nat} {b : List Int} (hr : Rd w ao n c b) (hn : n ≤ 4000) : Calls Tryd.prog 21 #[.slice ao n c] w fun e w' => ∃ r, e = .returned (.tuple #[r, .int .i64 0]) ∧ RS w' w.heap.size r (split b) ∧ Below w.heap.size w w' := by
  have hl := hr.len
  have HC : Hid (Calls Tryd.prog 30 #[.int .i64 (n : Int)] w fun e w' => e = .returned (.int .i64 ((cnt n : Nat) : Int)) ∧ w = w') := (show Calls _ _ _ _ _ from by have := qcount_any (w := w) (n : Int); rw [cntI_nat] at this; exact this)
  have Hr : Hid (Rd w ao n c b) := hr
  have hc2 := cnt_le n
  have Hsp : Hid (split b = (List.range (cnt n)).map (chunk b)) := (show _ = _ from by unfold split; rw [hl])
  clear hr
  generalize hN : cnt n = N at *
  go_enter Tryd.func21, Tryd.ntmps21
  go_wp2_with (first | (go_at_call 30; refine HC.out.mono ?_; rintro e w2 ⟨rfl, rfl⟩) | fail)
  go_loopw [4, 6] (fun v i wr => ∃ k : Nat, k ≤ N ∧ i = .int .i64 (k : Int) ∧ Hid (RS wr w.heap.size v ((List.range k).map (chunk b))) ∧ Hid (Below w.heap.size w wr)) (fun _ i _ => N - (intOf i).toNat)
  case atStart => exact ⟨0, Nat.zero_le _, rfl, rs_nil _ _, Below.refl _ _⟩
  case round =>
    obtain ⟨k, hk, rfl, hrs, hbel⟩ := hrel
    by_cases hlt : k < N
    · have HK : Hid (Calls Tryd.prog 31 #[.slice ao n c, .int .i64 ((k : Int) * 248)] wr fun e w' => ∃ r, e = .returned r ∧ Own w' wr.heap.size r (chunk b k) ∧ Below wr.heap.size wr w') := (show Calls _ _ _ _ _ from by
        have h := rchunk_any (k := k) (Hr.out.still hbel.out) hn (by omega)
        rw [show ((k * 248 : Nat) : Int) = (k : Int) * 248 from by push_cast; rfl] at h
        exact h)
      have hbs := hbel.out.size
      go_wp2_with (first | (go_at_call 31; refine HK.out.mono ?_; rintro e w3 ⟨r3, rfl, ho3, hb3⟩; obtain ⟨a3, c3, rfl, _⟩ := ho3.shape) | (at_builtin; refine wl_pushR rfl _ _ rfl w3 w w.heap.size _ ((List.range k).map (chunk b)) (.slice a3 (chunk b k).length c3) (chunk b k) rfl (hrs.out.below hb3) (own_lower' ho3 hbs) rfl rfl (by rw [List.length_map, List.length_range]; omega) (by have := hb3.size; omega) (bstep hbel.out hb3) ?_) | fail)
      intro v4 w4 h4 hb4
      have HR : Hid (RS w4 w.heap.size v4 ((List.range (k + 1)).map (chunk b))) := (show RS w4 w.heap.size v4 ((List.range (k + 1)).map (chunk b)) from by rw [List.range_succ, List.map_append]; exact h4)
      have HB : Hid (Below w.heap.size w w4) := hb4
      clear h4 hb4 ho3 hb3 hrs hbel
      go_wp2
      go_roundw
      case rel => exact ⟨k + 1, by omega, by go_num, HR, HB⟩
      case measure => simp [intOf]; omega
    · obtain rfl : k = N := by omega
      go_wp2
      go_ret2
      exact ⟨_, rfl, by rw [Hsp.out]; exact hrs.out, hbel.out⟩
set_option maxHeartbeats 400000 in
theorem rsplit_big {ao : Option Addr} {n c : Nat} (hn : 4000 < n) (hn2 : n ≤ 140737488355328) : Calls Tryd.prog 21 #[.slice ao n c] w fun e w' => e = .returned (.tuple #[.slice none 0 0, .int .i64 90]) ∧ w = w' := by
  go_enter Tryd.func21, Tryd.ntmps21
  go_wp2
  go_ret2
  exact ⟨rfl, rfl⟩
structure RR (w : World) (a : Option Addr) (n : Nat) (cs : List (List Int)) : Prop where
  len : cs.length = n
  at_ : n = 0 ∨ ∃ g, a = some ⟨g, 0, none⟩ ∧ ∀ i, i < n → ∃ ai mi ci, w.cell? ⟨g, i, none⟩ = some (.slice ai mi ci) ∧ Rd w ai mi ci (cs.getD i [])
theorem RS.rr {base : Nat} {a : Option Addr} {n c : Nat} {cs : List (List Int)} (h : RS w base (.slice a n c) cs) (hb : ∀ i, By (cs.getD i [])) : RR w a n cs ∧ cs.length = n := by
  obtain ⟨vals, h1, h2⟩ := h
  have hn : cs.length = n := by
    rcases h1.2 with ⟨e, h3⟩ | ⟨g, cap, cur, hv, _⟩
    · simp at e; omega
    · simp at hv; omega
  refine ⟨⟨hn, ?_⟩, hn⟩
  rcases h1.2 with ⟨e, h3⟩ | ⟨g, cap, cur, hv, _⟩
  · exact .inl (by omega)
  · simp at hv
    obtain ⟨rfl, _⟩ := hv
    refine .inr ⟨g, rfl, fun i hi => ?_⟩
    obtain ⟨ai, mi, ci, h4, h5⟩ := h2 i (by omega)
    rw [hn] at h1
    exact ⟨ai, mi, ci, by rw [World.ownsRow.cellAt h1 i (by omega), h4], h5.rd (hb i)⟩
theorem RS.shape {base : Nat} {v : Value} {cs : List (List Int)} (h : RS w base v cs) : ∃ a c, v = .slice a cs.length c := by
  obtain ⟨vals, h1, h2⟩ := h
  rcases h1.2 with ⟨e, h3⟩ | ⟨g, cap, cur, hv, _⟩
  · exact ⟨none, 0, by rw [e, h3]⟩
  · exact ⟨_, _, hv⟩
theorem split_at (b : List Int) (i : Nat) (h : i < cnt b.length) : (split b).getD i [] = chunk b i := by simp [split, List.getD, h]
theorem split_by {b : List Int} (h : By b) (i : Nat) : By ((split b).getD i []) := by
  by_cases hi : i < cnt b.length
  · rw [split_at b i hi]; exact chunk_by h i
  · have : (split b).getD i [] = [] := by simp [split, List.getD, show cnt b.length ≤ i by omega]
    rw [this]; exact By.nil
theorem row_cell {gc gr n N i : Nat} (h : Fb w gc 28 N (rowF gr n N)) (hi : i < N) : w.cell? ⟨gc, i, none⟩ = some (.slice (some ⟨gr, i * 256, none⟩) (8 + min 248 (n - i * 248)) (8 + min 248 (n - i * 248))) := by
  rw [h.cell _ hi]
  unfold rowF
  rw [if_pos hi]
theorem piece_rd {gr : Nat} {b : List Int} {i : Nat} (hn : b.length ≤ 4000) (hb : By b) (h : Bk w gr (cats b (cnt b.length))) (hi : i < cnt b.length) : Rd w (some ⟨gr, i * 256, none⟩) (8 + min 248 (b.length - i * 248)) (8 + min 248 (b.length - i * 248)) (chunk b i) := by
  have h1 := cats_len hn i hi
  have h2 := chunk_len b i
  have h3 : (cats b (i + 1)).length ≤ (cats b (cnt b.length)).length := cats_mono b hi
  rw [cats_succ, List.length_append, h1, h2] at h3
  have h4 := h.rd (i * 256) (8 + min 248 (b.length - i * 248)) (8 + min 248 (b.length - i * 248)) h3 (Nat.le_refl _) (cats_by hb _)
  have h5 := cats_part (b := b) (cnt b.length) i hi
  rw [h1, h2] at h5
  rw [h5] at h4
  exact h4
end
end Go.Proofs.YtmphabgpabbbjaaDoor.Fg
