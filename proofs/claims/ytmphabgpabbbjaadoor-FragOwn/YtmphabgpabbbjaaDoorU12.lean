import Derived.Test.YtmphabgpabbbjaaDoorU11
namespace Go.Proofs.YtmphabgpabbbjaaDoor.Fg
open Go.RowKit Mb
set_option linter.unusedVariables false
set_option maxRecDepth 100000
set_option linter.unusedSimpArgs false
section
variable {w w' W : World} {B : Nat}
structure Bq (w : World) (M : Nat) (eb eo el : Nat → Nat) (f : Nat → Nat → Int) : Prop where
  cell : ∀ i k, i < M → k < el i → w.cell? ⟨eb i, eo i + k, none⟩ = some (.int .u8 (f i k))
  fz : ∀ i k, i < M → k < el i → w.frozen? ⟨eb i, eo i + k, none⟩ = false
  ap : ∀ i j k l, i < M → j < M → k < el i → l < el j → eb i = eb j → eo i + k = eo j + l → i = j ∧ k = l
theorem Bq.set {M : Nat} {eb eo el : Nat → Nat} {f : Nat → Nat → Int} (h : Bq w M eb eo el f) {i k : Nat} (hi : i < M) (hk : k < el i) (x : Int) : Bq (w.setCell ⟨eb i, eo i + k, none⟩ (.int .u8 x)) M eb eo el (fun a b => if a = i ∧ b = k then x else f a b) := by
  refine ⟨fun a b ha hb => ?_, fun a b ha hb => ?_, h.ap⟩
  · by_cases e : a = i ∧ b = k
    · obtain ⟨rfl, rfl⟩ := e
      rw [World.cell?_setCell_same _ _ _ (h.cell a b ha hb), if_pos ⟨rfl, rfl⟩]
    · rw [if_neg e, World.cell?_setCell_other _ _ _ _ (fun e2 => ?_)]
      · exact h.cell a b ha hb
      · simp only [Addr.mk.injEq] at e2
        have := h.ap a i b k ha hi hb hk e2.1.symm e2.2.1.symm
        exact e this
  · rw [World.frozen?_setCell]
    exact h.fz a b ha hb
theorem Bq.drew {M : Nat} {eb eo el : Nat → Nat} {f : Nat → Nat → Int} (h : Bq w M eb eo el f) : Bq w.drew M eb eo el f := ⟨fun i k hi hk => below_at (Below.refl _ _).drew (h.cell i k hi hk), fun i k hi hk => by have := h.fz i k hi hk; simpa using this, h.ap⟩
theorem Bq.congr {M : Nat} {eb eo el : Nat → Nat} {f f' : Nat → Nat → Int} (h : Bq w M eb eo el f) (he : ∀ i k, i < M → k < el i → f i k = f' i k) : Bq w M eb eo el f' :=
  ⟨fun i k hi hk => by rw [← he i k hi hk]; exact h.cell i k hi hk, h.fz, h.ap⟩
theorem kset' {P : Nat → Prop} (w : World) (b i : Nat) (v : Value) (hp : P b) : Kept w (w.setCell ⟨b, i, none⟩ v) P := kset _ _ _ _ hp
def ln (n j : Nat) : Nat := 8 + min 248 (n - j * 248)
def eB (N g1 g2 : Nat) (ys : Nat → Nat) (i : Nat) : Nat := if i < N then g1 else if i < 2 * N then g2 else ys (i - 2 * N)
def eO (N i : Nat) : Nat := if i < N then i * 256 else if i < 2 * N then (i - N) * 256 else 0
def eL (N n i : Nat) : Nat := if i < N then ln n i else if i < 2 * N then ln n (i - N) else n
def eV (N n g1 g2 : Nat) (ys : Nat → Nat) (i : Nat) : Value := .slice (some ⟨eB N g1 g2 ys i, eO N i, none⟩) (eL N n i) (eL N n i)
theorem ln_le (n j : Nat) : ln n j ≤ 256 := by unfold ln; omega
theorem eL_le {N n i : Nat} (hn : n ≤ 4000) : eL N n i ≤ 4000 := by
  unfold eL
  have h1 := ln_le n i
  have h2 := ln_le n (i - N)
  split
  · omega
  · split <;> omega
theorem eB_ap {N n g1 g2 : Nat} {ys : Nat → Nat} (h12 : g1 ≠ g2) (hy1 : ∀ s, s < 3 → ys s ≠ g1 ∧ ys s ≠ g2) (hyy : ∀ s t, s < 3 → t < 3 → ys s = ys t → s = t) : ∀ i j k l, i < 2 * N + 3 → j < 2 * N + 3 → k < eL N n i → l < eL N n j → eB N g1 g2 ys i = eB N g1 g2 ys j → eO N i + k = eO N j + l → i = j ∧ k = l := by
  intro i j k l hi hj hk hl he ho
  unfold eL at hk hl
  unfold eB at he
  unfold eO at ho
  have a1 := ln_le n i
  have a2 := ln_le n j
  have a3 := ln_le n (i - N)
  have a4 := ln_le n (j - N)
  by_cases i1 : i < N
  · rw [if_pos i1] at hk he ho
    by_cases j1 : j < N
    · rw [if_pos j1] at hl he ho
      omega
    · rw [if_neg j1] at hl he ho
      by_cases j2 : j < 2 * N
      · rw [if_pos j2] at he
        exact absurd he h12
      · rw [if_neg j2] at he
        exact absurd he.symm (hy1 (j - 2 * N) (by omega)).1
  · rw [if_neg i1] at hk he ho
    by_cases i2 : i < 2 * N
    · rw [if_pos i2] at hk he ho
      by_cases j1 : j < N
      · rw [if_pos j1] at he
        exact absurd he.symm h12
      · rw [if_neg j1] at hl he ho
        by_cases j2 : j < 2 * N
        · rw [if_pos j2] at hl he ho
          omega
        · rw [if_neg j2] at he
          exact absurd he.symm (hy1 (j - 2 * N) (by omega)).2
    · rw [if_neg i2] at hk he ho
      by_cases j1 : j < N
      · rw [if_pos j1] at he
        exact absurd he (hy1 (i - 2 * N) (by omega)).1
      · rw [if_neg j1] at hl he ho
        by_cases j2 : j < 2 * N
        · rw [if_pos j2] at he
          exact absurd he (hy1 (i - 2 * N) (by omega)).2
        · rw [if_neg j2] at hl he ho
          have := hyy (i - 2 * N) (j - 2 * N) (by omega) (by omega) he
          omega
theorem rows1 {N n g1 g2 : Nat} {ys : Nat → Nat} : (List.range N).map (rowF g1 n N) = (List.range N).map (eV N n g1 g2 ys) := by
  apply List.map_congr_left
  intro i hi
  rw [List.mem_range] at hi
  unfold rowF eV eB eO eL ln
  simp only [if_pos hi]
theorem rows2 {N n g1 g2 : Nat} {ys : Nat → Nat} : (List.range N).map (eV N n g1 g2 ys) ++ (List.range N).map (rowF g2 n N) = (List.range (2 * N)).map (eV N n g1 g2 ys) := by
  rw [show 2 * N = N + N by omega, List.range_add, List.map_append, List.map_map]
  congr 1
  apply List.map_congr_left
  intro i hi
  rw [List.mem_range] at hi
  unfold rowF
  simp only [Function.comp, if_pos hi]
  unfold eV eB eO eL ln
  simp only [if_neg (show ¬ N + i < N by omega), if_pos (show N + i < 2 * N by omega), Nat.add_sub_cancel_left]
theorem rows3 {N n g1 g2 t g : Nat} {ys : Nat → Nat} : (List.range (2 * N + t)).map (eV N n g1 g2 ys) ++ [.slice (some ⟨g, 0, none⟩) n n] = (List.range (2 * N + (t + 1))).map (eV N n g1 g2 (upd ys t g)) := by
  rw [show 2 * N + (t + 1) = (2 * N + t) + 1 by omega, List.range_succ, List.map_append]
  congr 1
  · apply List.map_congr_left
    intro i hi
    rw [List.mem_range] at hi
    unfold eV eB
    by_cases i1 : i < N
    · simp only [if_pos i1]
    · by_cases i2 : i < 2 * N
      · simp only [if_neg i1, if_pos i2]
      · simp only [if_neg i1, if_neg i2]
        rw [upd_ne _ _ (by omega)]
  · simp only [List.map_cons, List.map_nil]
    unfold eV eB eO eL
    simp only [if_neg (show ¬ 2 * N + t < N by omega), if_neg (show ¬ 2 * N + t < 2 * N by omega), Nat.add_sub_cancel_left]
    rw [upd_same]
theorem wl_push1 {ops : Array Oper} {rest : List Oper} {o : Oper} {a : Act} {Q : Exit → Act → World → Prop} (hgd : o.guard = none) (s x : Operand)
    (ho : o.op = .call { callee := .builtin .append, args := #[s, x], argTypes := #[39, 39] })
    (w0 : World) (base : Nat) (v : Value) (m : Nat) (vals : List Value) (y : Value) (hs : a.eval s = v) (hown : w0.ownsRow base 28 1 v m vals) (hy : y.oneCell' = true) (hw : w = w0.alloc (.cells #[y] 28)) (hx : a.eval x = .slice (some ⟨w0.heap.size, 0, none⟩) 1 1)
    (hbytes : m + 1 ≤ 1000000) (hbase : base ≤ w0.heap.size)
    (h : ∀ v' w', w'.ownsRow base 28 1 v' (m + 1) (vals ++ [y]) → Kept w0 w' (fun q => some q = v.ownBlock) → wpList Tryd.prog ops Q rest (a.put o.dst v') w') : wpList Tryd.prog ops Q (o :: rest) a w := by
  obtain ⟨i0, hi, hz0, hz1, hz2⟩ := rows_info
  subst hw
  refine wpList_append_own _ hgd s x 39 ho base 28 i0 (.slice none 0 0) 1 24 Tryd.underlying39 hi hz0 hz1 hz2 rfl (by decide) v m vals hs (World.ownsRow.alloc hown _) ⟨w0.heap.size, 0, none⟩ 1 1 [y] hx rfl (cell_one_new _ _ _) (by intro u hu; simp at hu; subst hu; exact hy) (by unfold maxLen; omega) (by omega) (by simp; omega) fun v' w' h2 h3 _ => h v' w' h2 ?_
  exact (Kept.ofBelow (balloc (Below.refl _ w0)) _).step (Kept.ofGrown h3) (fun j hj => .inl hj)
theorem wl_rows {ops : Array Oper} {rest : List Oper} {o : Oper} {a : Act} {Q : Exit → Act → World → Prop} (hgd : o.guard = none) (s x : Operand)
    (ho : o.op = .call { callee := .builtin .append, args := #[s, x], argTypes := #[39, 39] })
    (base : Nat) (v : Value) (m : Nat) (vals : List Value) (hs : a.eval s = v) (hown : w.ownsRow base 28 1 v m vals) (g N c : Nat) (hx : a.eval x = .slice (some ⟨g, 0, none⟩) N c) (f : Nat → Value) (hf : ∀ i, i < N → w.cell? ⟨g, i, none⟩ = some (f i)) (h1 : ∀ i, i < N → (f i).oneCell' = true)
    (hbytes : m + N ≤ 1000000) (hbase : base ≤ w.heap.size)
    (h : ∀ v' w', w'.ownsRow base 28 1 v' (m + N) (vals ++ (List.range N).map f) → Kept w w' (fun q => some q = v.ownBlock) → wpList Tryd.prog ops Q rest (a.put o.dst v') w') : wpList Tryd.prog ops Q (o :: rest) a w := by
  obtain ⟨i0, hi, hz0, hz1, hz2⟩ := rows_info
  refine wpList_append_own _ hgd s x 39 ho base 28 i0 (.slice none 0 0) 1 24 Tryd.underlying39 hi hz0 hz1 hz2 rfl (by decide) v m vals hs hown ⟨g, 0, none⟩ N c ((List.range N).map f) hx (by simp) (fun j u hu => ?_) (fun u hu => ?_) (by unfold maxLen; omega) (by omega) hbase fun v' w' h2 h3 _ => h v' w' h2 (Kept.ofGrown h3)
  · by_cases e : j < N
    · simp [e] at hu
      subst hu
      have h9 := hf j e
      by_cases e0 : j = 0
      · subst e0; simpa [Addr.add] using h9
      · simpa [Addr.add, e0] using h9
    · simp [show N ≤ j by omega] at hu
  · simp at hu
    obtain ⟨i, hi, rfl⟩ := hu
    exact h1 i hi
theorem Jn.Ok.ty {J : Jn} (h : J.Ok w B) {q : Nat} (hq : J.own q) {C : Array Value} (hC : w.heap[q]? = some (.cells C 28 (0, 0))) : False := by
  rcases hq with rfl | rfl | ⟨s, hs⟩
  · have := h.jb
    rw [hC] at this
    simp at this
  · obtain ⟨C', h1, _⟩ := h.row
    rw [hC] at h1
    simp at h1
  · obtain ⟨L, h1, _⟩ := (h.yes s q hs).1.bk
    unfold Bk at h1
    rw [hC] at h1
    simp at h1
theorem Jn.Ok.nbk {J : Jn} (h : J.Ok w B) {g : Nat} {bs : List Int} (hb : Bk w g bs) : g ≠ J.b ∧ g ≠ J.bp := by
  constructor
  · rintro rfl
    have := h.jb
    unfold Bk at hb
    rw [hb] at this
    simp at this
  · rintro rfl
    obtain ⟨C', h1, _⟩ := h.row
    unfold Bk at hb
    rw [hb] at h1
    simp at h1
structure L2 (w7 wr : World) (B4 jb bp N n g1 g2 : Nat) (b : List Int) (J : Jn) (ys : Nat → Nat) (t : Nat) (v : Value) : Prop where
  row : wr.ownsRow w7.heap.size 28 1 v (2 * N + t) ((List.range (2 * N + t)).map (eV N n g1 g2 ys))
  ok : J.Ok wr B4
  ejb : J.b = jb
  jp : J.bp = bp
  jn : J.n = 2
  own : ∀ j, J.own j → j = jb ∨ j = bp ∨ w7.heap.size ≤ j
  kp : Kept w7 wr (fun q => q = jb ∨ q = bp)
  yb : ∀ s, s < t → Bk wr (ys s) b ∧ w7.heap.size ≤ ys s ∧ ¬ J.own (ys s)
  yy : ∀ s u, s < t → u < t → ys s = ys u → s = u
theorem own_ty2 {base e s n g : Nat} {v : Value} {l : List Value} (h : w.ownsRow base e s v n l) (hg : v.ownBlock = some g) : ∃ C, w.heap[g]? = some (.cells C e (0, 0)) := own_ty h hg
theorem L2.rowAt {w7 wr w1 : World} {B4 jb bp N n g1 g2 t k : Nat} {b : List Int} {J J' : Jn} {ys : Nat → Nat} {v : Value} (h : L2 w7 wr B4 jb bp N n g1 g2 b J ys t v) (hg : Gv wr w1 B4 J J' k) : w1.ownsRow w7.heap.size 28 1 v (2 * N + t) ((List.range (2 * N + t)).map (eV N n g1 g2 ys)) :=
  Kept.owns hg.kp h.row (fun q hq hh => by
    obtain ⟨C, hC⟩ := own_ty h.row hq
    exact h.ok.ty hh hC)
theorem L2.next {w7 wr w1 w2 : World} {B4 jb bp N n g1 g2 t k g' : Nat} {b : List Int} {J J' : Jn} {ys : Nat → Nat} {v v' : Value} (h : L2 w7 wr B4 jb bp N n g1 g2 b J ys t v) (hg : Gv wr w1 B4 J J' k) (hb : Bk w1 g' b) (hno : ¬ J'.own g') (hown : J.own g' ∨ wr.heap.size ≤ g') (hrow : w2.ownsRow w7.heap.size 28 1 v' (2 * N + t + 1) ((List.range (2 * N + t)).map (eV N n g1 g2 ys) ++ [.slice (some ⟨g', 0, none⟩) n n])) (hk2 : Kept w1 w2 (fun q => some q = v.ownBlock)) : L2 w7 w2 B4 jb bp N n g1 g2 b J' (upd ys t g') (t + 1) v' := by
  have hrow1 := h.rowAt hg
  have hs1 := hg.kp.size
  have hs7 := h.kp.size
  have hty : ∀ q, some q = v.ownBlock → w7.heap.size ≤ q ∧ ∃ C, w1.heap[q]? = some (.cells C 28 (0, 0)) := fun q hq => ⟨(World.ownsRow.lt hrow1 q hq.symm).1, own_ty hrow1 hq.symm⟩
  have hgb := hg.ok.nbk hb
  have hg7 : w7.heap.size ≤ g' := by
    rcases hown with h1 | h1
    · rcases h.own g' h1 with e | e | e
      · exact absurd (e.trans (hg.b.trans h.ejb).symm) hgb.1
      · exact absurd (e.trans (hg.bp.trans h.jp).symm) hgb.2
      · exact e
    · omega
  have hbk2 : ∀ q bs, Bk w1 q bs → Bk w2 q bs := fun q bs hq => hq.keep hk2 (fun e => by
    obtain ⟨_, C, hC⟩ := hty q e
    unfold Bk at hq
    rw [hq] at hC
    simp at hC)
  have hne : ∀ s, s < t → ys s ≠ g' := fun s hs e => by
    rcases hown with h1 | h1
    · exact (h.yb s hs).2.2 (e ▸ h1)
    · have := (h.yb s hs).1.lt
      omega
  refine ⟨?_, hg.ok.keep hk2 (fun j hj e => ?_), hg.b.trans h.ejb, hg.bp.trans h.jp, hg.n.trans h.jn, fun j hj => ?_, ?_, fun s hs => ?_, fun s u hs hu e => ?_⟩
  · rw [← rows3]
    exact hrow
  · obtain ⟨_, C, hC⟩ := hty j e
    exact hg.ok.ty hj hC
  · rcases hg.nw j hj with e | e
    · exact h.own j e
    · exact .inr (.inr (by omega))
  · refine (h.kp.step hg.kp (fun j hj => ?_)).step hk2 (fun j hj => .inr (hty j hj).1)
    rcases h.own j hj with e | e | e
    · exact .inl (.inl e)
    · exact .inl (.inr e)
    · exact .inr e
  · by_cases e : s = t
    · subst e
      rw [upd_same]
      exact ⟨hbk2 _ _ hb, hg7, hno⟩
    · rw [upd_ne _ _ e]
      have h3 := h.yb s (by omega)
      refine ⟨hbk2 _ _ (h3.1.keep hg.kp h3.2.2), h3.2.1, fun hh => ?_⟩
      rcases hg.nw _ hh with e2 | e2
      · exact h3.2.2 e2
      · have := h3.1.lt
        omega
  · by_cases e1 : s = t
    · by_cases e2 : u = t
      · omega
      · subst e1
        rw [upd_same, upd_ne _ _ e2] at e
        exact absurd e.symm (hne u (by omega))
    · by_cases e2 : u = t
      · subst e2
        rw [upd_same, upd_ne _ _ e1] at e
        exact absurd e (hne s (by omega))
      · rw [upd_ne _ _ e1, upd_ne _ _ e2] at e
        exact h.yy s u (by omega) (by omega) e
structure Wr (w9 wr : World) (M : Nat) (eb eo el : Nat → Nat) (i k : Nat) : Prop where
  ex : ∃ f, Bq wr M eb eo el f ∧ ∀ a c, a < M → c < el a → (a < i ∨ (a = i ∧ c < k)) → f a c = sg a c
  kp : Kept w9 wr (fun q => ∃ a, a < M ∧ q = eb a)
theorem Wr.put {w9 wr : World} {M i k : Nat} {eb eo el : Nat → Nat} (h : Wr w9 wr M eb eo el i k) (hi : i < M) (hk : k < el i) : Wr w9 (wr.setCell ⟨eb i, eo i + k, none⟩ (.int .u8 (sg i k))).drew M eb eo el i (k + 1) := by
  obtain ⟨f, h1, h2⟩ := h.ex
  refine ⟨⟨_, (h1.set hi hk (sg i k)).drew, fun a c ha hc hac => ?_⟩, ?_⟩
  · by_cases e : a = i ∧ c = k
    · obtain ⟨rfl, rfl⟩ := e
      rw [if_pos ⟨rfl, rfl⟩]
    · rw [if_neg e]
      exact h2 a c ha hc (by omega)
  · exact (h.kp.step (kset' (P := fun q => q = eb i) _ _ _ _ rfl) (fun j hj => .inl ⟨i, hi, hj⟩)).step (Kept.ofBelow (Below.refl _ _).drew (fun _ => False)) (fun _ hh => hh.elim)
theorem Wr.row {w9 wr : World} {M i k : Nat} {eb eo el : Nat → Nat} (h : Wr w9 wr M eb eo el i k) (he : el i ≤ k) : Wr w9 wr M eb eo el (i + 1) 0 := by
  obtain ⟨f, h1, h2⟩ := h.ex
  refine ⟨⟨f, h1, fun a c ha hc hac => h2 a c ha hc ?_⟩, h.kp⟩
  by_cases e : a = i
  · subst e
    exact .inr ⟨rfl, by omega⟩
  · exact .inl (by omega)
theorem Wr.all {w9 wr : World} {M : Nat} {eb eo el : Nat → Nat} (h : Wr w9 wr M eb eo el M 0) {a c : Nat} (ha : a < M) (hc : c < el a) : wr.cell? ⟨eb a, eo a + c, none⟩ = some (.int .u8 (sg a c)) := by
  obtain ⟨f, h1, h2⟩ := h.ex
  rw [← h2 a c ha hc (.inl ha)]
  exact h1.cell a c ha hc
theorem L2.wr {w7 w9 : World} {B4 jb bp N n g1 g2 : Nat} {b : List Int} {J : Jn} {ys : Nat → Nat} {v : Value} (h : L2 w7 w9 B4 jb bp N n g1 g2 b J ys 3 v) (hn : n ≤ 4000) (hl : b.length = n) (hN : cnt n = N) (hby : By b) (hb1 : Bk w9 g1 (cats b N)) (hb2 : Bk w9 g2 (cats b N)) (h12 : g1 ≠ g2) (hl1 : g1 < w7.heap.size) (hl2 : g2 < w7.heap.size) : Wr w9 w9 (2 * N + 3) (eB N g1 g2 ys) (eO N) (eL N n) 0 0 := by
  subst hl hN
  refine ⟨⟨fun a c => if a < cnt b.length then (chunk b a).getD c 0 else if a < 2 * cnt b.length then (chunk b (a - cnt b.length)).getD c 0 else b.getD c 0, ⟨fun a c ha hc => ?_, fun a c ha hc => ?_, eB_ap h12 (fun s hs => ?_) h.yy⟩, fun a c _ _ hac => by omega⟩, Kept.refl _ _⟩
  · unfold eL at hc
    unfold eB eO
    by_cases a1 : a < cnt b.length
    · simp only [if_pos a1] at hc ⊢
      rcases (piece_rd hn hby hb1 a1).at_ with h0 | ⟨q, off, e, hcc⟩
      · omega
      · simp at e
        obtain ⟨rfl, rfl⟩ := e
        exact hcc c hc
    · by_cases a2 : a < 2 * cnt b.length
      · simp only [if_neg a1, if_pos a2] at hc ⊢
        rcases (piece_rd hn hby hb2 (i := a - cnt b.length) (by omega)).at_ with h0 | ⟨q, off, e, hcc⟩
        · omega
        · simp at e
          obtain ⟨rfl, rfl⟩ := e
          exact hcc c hc
      · simp only [if_neg a1, if_neg a2] at hc ⊢
        rw [Nat.zero_add]
        exact (h.yb (a - 2 * cnt b.length) (by omega)).1.cell hc
  · unfold eB eO
    by_cases a1 : a < cnt b.length
    · simp only [if_pos a1]; exact hb1.fz _
    · by_cases a2 : a < 2 * cnt b.length
      · simp only [if_neg a1, if_pos a2]; exact hb2.fz _
      · simp only [if_neg a1, if_neg a2]; exact (h.yb (a - 2 * cnt b.length) (by omega)).1.fz _
  · have := (h.yb s hs).2.1
    omega
theorem L2.ebty {w7 w9 : World} {B4 jb bp N n g1 g2 : Nat} {b : List Int} {J : Jn} {ys : Nat → Nat} {v : Value} (h : L2 w7 w9 B4 jb bp N n g1 g2 b J ys 3 v) (hb1 : Bk w9 g1 (cats b N)) (hb2 : Bk w9 g2 (cats b N)) {a : Nat} (ha : a < 2 * N + 3) : ∃ bs, Bk w9 (eB N g1 g2 ys a) bs := by
  unfold eB
  by_cases a1 : a < N
  · rw [if_pos a1]; exact ⟨_, hb1⟩
  · rw [if_neg a1]
    by_cases a2 : a < 2 * N
    · rw [if_pos a2]; exact ⟨_, hb2⟩
    · rw [if_neg a2]; exact ⟨_, (h.yb (a - 2 * N) (by omega)).1⟩
theorem L2.ebown {w7 w9 : World} {B4 jb bp N n g1 g2 : Nat} {b : List Int} {J : Jn} {ys : Nat → Nat} {v : Value} (h : L2 w7 w9 B4 jb bp N n g1 g2 b J ys 3 v) (h1 : g1 < B4) (h2 : g2 < B4) {a : Nat} (ha : a < 2 * N + 3) : ¬ J.own (eB N g1 g2 ys a) ∧ (eB N g1 g2 ys a = g1 ∨ eB N g1 g2 ys a = g2 ∨ w7.heap.size ≤ eB N g1 g2 ys a) := by
  unfold eB
  by_cases a1 : a < N
  · rw [if_pos a1]; exact ⟨fun hh => by have := h.ok.own_lo _ hh; omega, .inl rfl⟩
  · rw [if_neg a1]
    by_cases a2 : a < 2 * N
    · rw [if_pos a2]; exact ⟨fun hh => by have := h.ok.own_lo _ hh; omega, .inr (.inl rfl)⟩
    · rw [if_neg a2]
      have := h.yb (a - 2 * N) (by omega)
      exact ⟨this.2.2, .inr (.inr this.2.1)⟩
end
end Go.Proofs.YtmphabgpabbbjaaDoor.Fg
