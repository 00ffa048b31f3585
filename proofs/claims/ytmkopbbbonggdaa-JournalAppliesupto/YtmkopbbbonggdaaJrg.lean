import Derived.Test.YtmkopbbbonggdaaJrf
namespace Go.Proofs.Ytmkopbbbonggdaa.Jn
open Go.RowKit Mb Fg
set_option linter.unusedVariables false
set_option maxRecDepth 100000
set_option linter.unusedSimpArgs false
section
variable {w w' W : World} {B : Nat}
theorem cs_mk (x : Wr) (p : Nat × Nat) (b1 b2 : List Int) : (mkW x p b1).cs = (mkW x p b2).cs := rfl
theorem flW_ys (l : List Wr) (gs : List (Nat × Nat)) (y1 y2 : Nat → List Int) : flW (Lk l gs y1) = flW (Lk l gs y2) := by
  unfold flW Lk
  rw [List.flatMap_map, List.flatMap_map]
  rfl
structure C0 (wx : World) (base P gA cA gB cB nA nB : Nat) (xA xB : List Int) : Prop where
  blk : wx.heap[P]? = some (.cells #[.slice (some ⟨gA, 0, none⟩) nA cA, .slice (some ⟨gB, 0, none⟩) nB cB] 24 (0, 0))
  pb : base ≤ P
  a : Sp wx base gA nA cA xA
  b : Sp wx base gB nB cB xB
  ab : gA ≠ gB
structure C1 (wx : World) (base : Nat) (v : Value) (gA gB : Nat) (l : List Wr) (gs : List (Nat × Nat)) (ys : Nat → List Int) : Prop where
  row : wx.ownsRow base 28 3 v gs.length (flW (Lk l gs ys))
  sp : ∀ i, i < gs.length → Sp wx base (gs.getD i (0, 0)).1 (l.getD i wr0).n (gs.getD i (0, 0)).2 (ys i)
  da : ∀ i, i < gs.length → gA < (gs.getD i (0, 0)).1 ∧ gB < (gs.getD i (0, 0)).1
  inc : ∀ i j, i < j → j < gs.length → (gs.getD i (0, 0)).1 < (gs.getD j (0, 0)).1
section
variable {base P gA cA gB cB nA nB : Nat} {xA xB : List Int} {v : Value} {l : List Wr} {gs : List (Nat × Nat)} {ys : Nat → List Int}
theorem C0.still (h : C0 w base P gA cA gB cB nA nB xA xB) (hb : Below w.heap.size w w') : C0 w' base P gA cA gB cB nA nB xA xB := ⟨(hb.block _ (lt_heap h.blk)).trans h.blk, h.pb, h.a.still hb, h.b.still hb, h.ab⟩
theorem C1.still (h : C1 w base v gA gB l gs ys) (hb : Below w.heap.size w w') : C1 w' base v gA gB l gs ys := ⟨own_still h.row hb, fun i hi => (h.sp i hi).still hb, h.da, h.inc⟩
theorem own_typeT {t s n : Nat} {v : Value} {l : List Value} {g : Nat} (h : w.ownsRow B t s v n l) (hg : v.ownBlock = some g) : ∃ cur, w.heap[g]? = some (.cells cur t (0, 0)) := by
  rcases h.2 with ⟨h1, h2⟩ | ⟨g', cap, cur, hv, hB, hh, _⟩
  · rw [h1] at hg; cases hg
  · rw [hv] at hg
    simp only [Value.ownBlock, Option.some.injEq] at hg
    exact ⟨cur, hg ▸ hh⟩
theorem own_keepT {P : Nat → Prop} {t s n : Nat} {v : Value} {l : List Value} (h : w.ownsRow B t s v n l) (k : Kept w w' P) (hp : ∀ g cur, w.heap[g]? = some (.cells cur t (0, 0)) → ¬ P g) : w'.ownsRow B t s v n l :=
  k.owns h fun g hg => by
    obtain ⟨cur, hc⟩ := own_typeT h hg
    exact hp g cur hc
theorem own_shapeT {t s n : Nat} {v : Value} {l : List Value} (h : w.ownsRow B t s v n l) : ∃ a c, v = .slice a n c := by
  rcases h.2 with ⟨h1, h2⟩ | ⟨g, cap, cur, hv, _⟩
  · exact ⟨none, 0, by rw [h1, h2]⟩
  · exact ⟨_, _, hv⟩
theorem C0.keepU {P' : Nat → Prop} (h : C0 w base P gA cA gB cB nA nB xA xB) (k : Kept w w' P') (h0 : ∀ j cur, w.heap[j]? = some (.cells cur 24 (0, 0)) → ¬ P' j) (h1 : ¬ P' gA) (h2 : ¬ P' gB) : C0 w' base P gA cA gB cB nA nB xA xB := ⟨k.obj h.blk (h0 _ _ h.blk), h.pb, h.a.keep k h1, h.b.keep k h2, h.ab⟩
theorem C1.full {i : Nat} {x : Int} (h : C1 w base v gA gB l gs ys) (hi : i < gs.length) (hs : Sp w' base (gs.getD i (0, 0)).1 (l.getD i wr0).n (gs.getD i (0, 0)).2 (List.replicate (l.getD i wr0).n x)) (k : Kept w w' (fun j => j = (gs.getD i (0, 0)).1)) : C1 w' base v gA gB l gs (fun j => if j = i then List.replicate (l.getD i wr0).n x else ys j) := by
  obtain ⟨cur, hcur⟩ := (h.sp i hi).ty
  refine ⟨?_, fun j hj => ?_, h.da, h.inc⟩
  · rw [flW_ys l gs _ ys]
    exact own_keepT h.row k (fun g c2 hg e => ty_ne hg hcur (by decide) e)
  · by_cases e : j = i
    · subst e
      simpa using hs
    · simp only [if_neg e]
      refine (h.sp j hj).keep k (fun e2 => ?_)
      have e2 : (gs.getD j (0, 0)).1 = (gs.getD i (0, 0)).1 := e2
      rcases Nat.lt_or_gt_of_ne e with h1 | h1
      · have := h.inc j i h1 hi
        omega
      · have := h.inc i j h1 hj
        omega
theorem C1.keepU {P' : Nat → Prop} (h : C1 w base v gA gB l gs ys) (k : Kept w w' P') (h0 : ∀ j cur, w.heap[j]? = some (.cells cur 28 (0, 0)) → ¬ P' j) (h1 : ∀ i, i < gs.length → ¬ P' (gs.getD i (0, 0)).1) : C1 w' base v gA gB l gs ys := ⟨own_keepT h.row k h0, fun i hi => (h.sp i hi).keep k (h1 i hi), h.da, h.inc⟩
theorem C1.push {G : World} {v2 : Value} {p : Nat × Nat} (h : C1 w base v gA gB l gs ys) (hk : Kept w G (fun j => some j = v.ownBlock)) (ho : G.ownsRow base 28 3 v2 (gs.length + 1) (flW (Lk l gs ys ++ [mkW (l.getD gs.length wr0) p (ys gs.length)]))) (hs : Sp w base p.1 (l.getD gs.length wr0).n p.2 (ys gs.length)) (hA : gA < p.1) (hB : gB < p.1) (hi : ∀ i, i < gs.length → (gs.getD i (0, 0)).1 < p.1) : C1 G base v2 gA gB l (gs ++ [p]) ys := by
  have hne : ∀ (g n c : Nat) (bs : List Int), Sp w base g n c bs → ¬ some g = v.ownBlock := fun g n c bs hsp e => by
    obtain ⟨c1, h1⟩ := own_typeT h.row e.symm
    obtain ⟨c2, h2⟩ := hsp.ty
    exact ty_ne h2 h1 (by decide) rfl
  have hat : ∀ i, i < gs.length → (gs ++ [p]).getD i (0, 0) = gs.getD i (0, 0) := fun i hi => by simp [List.getD, List.getElem?_append_left hi]
  have hlast : (gs ++ [p]).getD gs.length (0, 0) = p := by simp [List.getD]
  refine ⟨by rw [Lk_snoc, List.length_append]; exact ho, fun i hi2 => ?_, fun i hi2 => ?_, fun i j hij hj => ?_⟩
  · rw [List.length_append, List.length_singleton] at hi2
    by_cases e : i < gs.length
    · rw [hat i e]
      exact (h.sp i e).keep hk (hne _ _ _ _ (h.sp i e))
    · obtain rfl : i = gs.length := by omega
      rw [hlast]
      exact hs.keep hk (hne _ _ _ _ hs)
  · rw [List.length_append, List.length_singleton] at hi2
    by_cases e : i < gs.length
    · rw [hat i e]
      exact h.da i e
    · obtain rfl : i = gs.length := by omega
      rw [hlast]
      exact ⟨hA, hB⟩
  · rw [List.length_append, List.length_singleton] at hj
    by_cases e : j < gs.length
    · rw [hat i (by omega), hat j e]
      exact h.inc i j hij e
    · obtain rfl : j = gs.length := by omega
      rw [hat i (by omega), hlast]
      exact hi i hij
theorem C1.rdws {wo : Option Addr} {m d : Nat} (h : C1 w base (.slice wo m d) gA gB l gs ys) (hm : gs.length = m) : RdWs w wo m (Lk l gs ys) := by
  subst hm
  refine ⟨Lk_len _ _ _, ?_, fun i hi => ?_⟩
  · rcases h.row.2 with ⟨h1, h2⟩ | ⟨g, cap, cur, hv, hB, hg, hnc, hcm, hcs, htk⟩
    · exact .inl h2
    · simp only [Value.slice.injEq] at hv
      refine .inr ⟨g, 0, hv.1, fun i hi j u hj => ?_⟩
      have hj3 : j < 3 := by
        have := (List.getElem?_eq_some_iff.1 hj).1
        rw [Wr.cs_len] at this
        exact this
      rw [Nat.zero_add, blk_cell hg (i * 3 + j)]
      have e1 : (cur.toList.take (gs.length * 3))[i * 3 + j]? = (flW (Lk l gs ys))[i * 3 + j]? := by rw [htk]
      rw [List.getElem?_take_of_lt (by omega)] at e1
      rw [← Array.getElem?_toList, e1, flW_at _ i j (by rw [Lk_len]; exact hi) hj3, hj]
  · rw [Lk_at l gs ys hi]
    exact (h.sp i hi).rd
end
theorem lk_un {l : List Wr} {gs : List (Nat × Nat)} {ys : Nat → List Int} (hg : gs.length = l.length) (hy : ∀ i, i < l.length → (ys i).length = (l.getD i wr0).bs.length) : cost (Lk l gs ys) = cost l ∧ tot (Lk l gs ys) = tot l := by
  have key : ∀ k, k ≤ l.length → cost ((Lk l gs ys).take k) = cost (l.take k) ∧ tot ((Lk l gs ys).take k) = tot (l.take k) := by
    intro k
    induction k with
    | zero => intro _; simp [cost, tot]
    | succ k ih =>
      intro hk
      obtain ⟨i1, i2⟩ := ih (by omega)
      have e1 : ∀ (L : List Wr), k < L.length → L.take (k + 1) = L.take k ++ [L.getD k wr0] := fun L hL => by rw [List.take_add_one]; simp [List.getD, hL]
      rw [e1 _ (by rw [Lk_len]; omega), e1 l (by omega), cost_app, cost_app, tot_app, tot_app, i1, i2, Lk_at l gs ys (by omega)]
      have h := hy k (by omega)
      simp only [cost, tot, mkW, Wr.un, h]
      exact ⟨trivial, trivial⟩
  have := key l.length (Nat.le_refl _)
  rw [List.take_of_length_le (by rw [Lk_len]; omega), List.take_length] at this
  exact this
theorem put1_mk (x : Wr) (p : Nat × Nat) (d : List Int × List Int) (k : Nat) : put1 (mkW x p x.bs) d k = put1 x d k := rfl
theorem ap_app : ∀ (a b : List Wr) (d : List Int × List Int) (k : Nat), ∃ d2 k2, (∀ c : List Wr, ap (a ++ c) d k = ap c d2 k2)
  | [], b, d, k => ⟨d, k, fun c => rfl⟩
  | x :: r, b, d, k => ap_app r b _ _
theorem ap_congr : ∀ (a b : List Wr), a.length = b.length → (∀ i, i < a.length → ∀ d k, put1 (a.getD i wr0) d k = put1 (b.getD i wr0) d k) → ∀ d k, ap a d k = ap b d k
  | [], [], _, _, d, k => rfl
  | [], y :: s, h, _, d, k => by simp at h
  | x :: r, [], h, _, d, k => by simp at h
  | x :: r, y :: s, h, hp, d, k => by
      have h0 := hp 0 (by simp) d k
      simp only [List.getD_cons_zero] at h0
      simp only [ap, h0]
      exact ap_congr r s (by simpa using h) (fun i hi d k => by have := hp (i + 1) (by simpa using hi) d k; simpa using this) _ _
theorem ap_lk {l : List Wr} {gs : List (Nat × Nat)} (hg : gs.length = l.length) (d : List Int × List Int) (k : Nat) : ap (Lk l gs (fun i => (l.getD i wr0).bs)) d k = ap l d k :=
  ap_congr _ _ (by rw [Lk_len, hg]) (fun i hi d k => by rw [Lk_at _ _ _ (by rw [Lk_len] at hi; exact hi)]; rfl) d k
theorem ap_by : ∀ (l : List Wr) (d : List Int × List Int) (k : Nat), ByD d → (∀ i, i < l.length → By (l.getD i wr0).bs) → ByD (ap l d k)
  | [], d, k, h, _ => h
  | x :: r, d, k, h, hb => ap_by r _ _ (put1_by k h (by have := hb 0 (by simp); simpa using this)) (fun i hi => by have := hb (i + 1) (by simpa using hi); simpa using this)
def SpP (dA : List Int) (aa : Option Addr) (ac : Nat) (V : World) : Prop := Calls Try.prog 4 #[.slice aa dA.length ac] V fun e w' => ∃ g c, e = .returned (.slice (some ⟨g, 0, none⟩) dA.length c) ∧ Sp w' V.heap.size g dA.length c dA ∧ Below V.heap.size V w'
theorem spare_sp {ao : Option Addr} {c : Nat} {bs : List Int} (hr : Rd w ao bs.length c bs) (hlen : bs.length ≤ 140737488355264) : SpP bs ao c w := by
  refine (spare_any hr hlen).mono ?_
  rintro e w' ⟨g, c2, rfl, h1, h2, h3, h4⟩
  exact ⟨g, c2, rfl, ⟨h3, h1, rfl, hr.by_⟩, h4⟩
structure XY (wr : World) (bX p10 p11 : Nat) (a1 : Option Addr) (e1 : Nat) (a2 : Option Addr) (e2 : Nat) (b1 : Option Addr) (f1 : Nat) (b2 : Option Addr) (f2 : Nat) (rA rB : List Int) : Prop where
  k10 : wr.heap[p10]? = some (.cells #[.slice a1 rA.length e1, .slice a2 rB.length e2] 24 (0, 0))
  k11 : wr.heap[p11]? = some (.cells #[.slice b1 rA.length f1, .slice b2 rB.length f2] 24 (0, 0))
  xa : Own wr bX (.slice a1 rA.length e1) rA
  xb : Own wr bX (.slice a2 rB.length e2) rB
  ya : Own wr bX (.slice b1 rA.length f1) rA
  yb : Own wr bX (.slice b2 rB.length f2) rB
section
variable {bX p10 p11 e1 e2 f1 f2 : Nat} {a1 a2 b1 b2 : Option Addr} {rA rB : List Int}
theorem XY.still (h : XY w bX p10 p11 a1 e1 a2 e2 b1 f1 b2 f2 rA rB) (hb : Below w.heap.size w w') : XY w' bX p10 p11 a1 e1 a2 e2 b1 f1 b2 f2 rA rB := ⟨(hb.block _ (lt_heap h.k10)).trans h.k10, (hb.block _ (lt_heap h.k11)).trans h.k11, h.xa.still hb, h.xb.still hb, h.ya.still hb, h.yb.still hb⟩
theorem XY.full {g base n c : Nat} {bs : List Int} (h : XY w bX p10 p11 a1 e1 a2 e2 b1 f1 b2 f2 rA rB) (hs : Sp w base g n c bs) (hg : g < bX) (k : Kept w w' (fun j => j = g)) : XY w' bX p10 p11 a1 e1 a2 e2 b1 f1 b2 f2 rA rB := by
  obtain ⟨cur, hc⟩ := hs.ty
  refine ⟨k.obj h.k10 (fun e => ty_ne h.k10 hc (by decide) e), k.obj h.k11 (fun e => ty_ne h.k11 hc (by decide) e), h.xa.keep k (fun j hj e => ?_), h.xb.keep k (fun j hj e => ?_), h.ya.keep k (fun j hj e => ?_), h.yb.keep k (fun j hj e => ?_)⟩
  · have := (h.xa.lo hj).1; omega
  · have := (h.xb.lo hj).1; omega
  · have := (h.ya.lo hj).1; omega
  · have := (h.yb.lo hj).1; omega
end
def ysN (l : List Wr) (k : Nat) : Nat → List Int := fun i => if i < k then List.replicate (l.getD i wr0).n 238 else (l.getD i wr0).bs
theorem ysN_zero (l : List Wr) : ysN l 0 = fun i => (l.getD i wr0).bs := by funext i; simp [ysN]
theorem ysN_succ (l : List Wr) (k : Nat) : ysN l (k + 1) = fun j => if j = k then List.replicate (l.getD k wr0).n 238 else ysN l k j := by
  funext j
  unfold ysN
  by_cases h : j = k
  · subst h; simp
  · simp only [if_neg h]
    by_cases h2 : j < k
    · rw [if_pos h2, if_pos (by omega)]
    · rw [if_neg h2, if_neg (by omega)]
theorem C0.fullA {base P gA cA gB cB nA nB : Nat} {xA xB : List Int} {x : Int} (h : C0 w base P gA cA gB cB nA nB xA xB) (hs : Sp w' base gA nA cA (List.replicate nA x)) (k : Kept w w' (fun j => j = gA)) : C0 w' base P gA cA gB cB nA nB (List.replicate nA x) xB := by
  obtain ⟨cur, hc⟩ := h.a.ty
  exact ⟨k.obj h.blk (fun e => ty_ne h.blk hc (by decide) e), h.pb, hs, h.b.keep k (fun e => h.ab e.symm), h.ab⟩
theorem C0.fullB {base P gA cA gB cB nA nB : Nat} {xA xB : List Int} {x : Int} (h : C0 w base P gA cA gB cB nA nB xA xB) (hs : Sp w' base gB nB cB (List.replicate nB x)) (k : Kept w w' (fun j => j = gB)) : C0 w' base P gA cA gB cB nA nB xA (List.replicate nB x) := by
  obtain ⟨cur, hc⟩ := h.b.ty
  exact ⟨k.obj h.blk (fun e => ty_ne h.blk hc (by decide) e), h.pb, h.a.keep k (fun e => h.ab e), hs, h.ab⟩
structure L2S (W : World) (base P gA cA gB cB : Nat) (dA dB : List Int) (v : Value) (l : List Wr) (gs : List (Nat × Nat)) (k : Nat) (X : World → Prop) (wr : World) : Prop where
  c0 : C0 wr base P gA cA gB cB dA.length dB.length dA dB
  c1 : C1 wr base v gA gB l gs (ysN l k)
  xy : X wr
  bel : Below W.heap.size W wr
def L1S (W : World) (P gA cA gB cB : Nat) (dA dB : List Int) (l : List Wr) (k : Nat) (v : Value) (wr : World) : Prop := ∃ gs, gs.length = k ∧ C1 wr W.heap.size v gA gB l gs (fun i => (l.getD i wr0).bs) ∧ C0 wr W.heap.size P gA cA gB cB dA.length dB.length dA dB ∧ Below W.heap.size W wr
theorem run_buildw (x : Wr) (g c n : Nat) : Try.prog.built 28 [(0, .int .i64 x.f), (1, .bool x.st), (2, .slice (some ⟨g, 0, none⟩) n c)] = some #[.int .i64 x.f, .bool x.st, .slice (some ⟨g, 0, none⟩) n c] := by kernel_rfl
def C0P (W : World) (dA dB : List Int) (p : Value) (wx : World) : Prop := ∃ P gA cA gB cB, p = .pointer (some ⟨P, 0, none⟩) ∧ C0 wx W.heap.size P gA cA gB cB dA.length dB.length dA dB ∧ Below W.heap.size W wx
theorem newdk (w : World) (a : Option Addr) (n c : Nat) (b : Option Addr) (m e : Nat) : ∃ A1 V, w.alloc (.cells #[.slice none 0 0, .slice none 0 0] 24) = A1 ∧ Hid (A1.there w.heap.size 0 2) ∧ A1.setCells w.heap.size 0 [.slice a n c, .slice b m e] = V ∧ Hid (V.heap[w.heap.size]? = some (.cells #[.slice a n c, .slice b m e] 24 (0, 0))) ∧ Hid (Below w.heap.size w V) :=
  ⟨_, _, rfl, new_there w _ _ rfl, rfl, (newvar w 24 #[.slice none 0 0, .slice none 0 0] [.slice a n c, .slice b m e] rfl).2, (newvar w 24 #[.slice none 0 0, .slice none 0 0] [.slice a n c, .slice b m e] rfl).1⟩
theorem one_dk (a : Option Addr) (n c : Nat) (b : Option Addr) (m e : Nat) : ∀ u ∈ [Value.slice a n c, Value.slice b m e], u.oneCell' = true := by
  intro u hu
  simp only [List.mem_cons, List.not_mem_nil, or_false] at hu
  rcases hu with rfl | rfl <;> rfl
end
end Go.Proofs.Ytmkopbbbonggdaa.Jn
