import Derived.Test.YtghihdenbdnnjaaLkr
namespace Go.Proofs.Ytghihdenbdnnjaa.Ln
open Go.RowKit Mb
set_option linter.unusedVariables false
set_option maxRecDepth 100000
set_option linter.unusedSimpArgs false
structure Wr where
  b : Nat
  m : Nat → Mx
  e : Nat → En
  win : Nat
  space : Nat
  v : Nat → Value
  p : Nat → List Bn
  o : Nat → List Bn
  f : Nat → List (Nat × Bn)
  a : Nat → List Nat
def mp (M : Mx) : Value := .pointer (some ⟨M.b, 0, none⟩)
def Wr.cs (X : Wr) : Array Value := #[mp (X.m 0), mp (X.m 1), .int .i64 (X.win : Int), .int .i64 (X.space : Int), X.v 4, X.v 5, X.v 6, X.v 7, X.v 8, X.v 9, X.v 10, X.v 11]
def frc (x : Nat × Bn) : List Value := frv tg9 x.1 x.2.v
def akc (a : Nat) : List Value := [.int .i64 3, .int .i64 2, .int .i64 4, .int .i64 9, .int .i64 (a : Int)]
def pid (s : Nat) : Nat := 2 + 3 * s
def rowT (i : Nat) : Nat := if i < 8 then 25 else if i < 10 then 54 else 57
def rowS (i : Nat) : Nat := if i < 8 then 1 else if i < 10 then 6 else 5
def Wr.rowN (X : Wr) (i : Nat) : Nat := if i < 6 then (X.p (i - 4)).length else if i < 8 then (X.o (i - 6)).length else if i < 10 then (X.f (i - 8)).length else (X.a (i - 10)).length
def Wr.rowC (X : Wr) (i : Nat) : List Value := if i < 6 then (X.p (i - 4)).map Bn.v else if i < 8 then (X.o (i - 6)).map Bn.v else if i < 10 then (X.f (i - 8)).flatMap frc else (X.a (i - 10)).flatMap akc
def Wr.ents (X : Wr) (y : Bn) : Prop := ∃ s, s < 2 ∧ (y ∈ X.p s ∨ y ∈ X.o s ∨ ∃ n, (n, y) ∈ X.f s)
def Wr.own (X : Wr) (j : Nat) : Prop := j = X.b ∨ (∃ i, 4 ≤ i ∧ i < 12 ∧ (X.v i).ownBlock = some j) ∨ (X.m 0).own j ∨ (X.m 1).own j ∨ ∃ y, X.ents y ∧ j = y.k
section
variable {w w' W : World} {B : Nat} {X X' : Wr}
structure Wr.Ok (X : Wr) (w : World) (B : Nat) : Prop where
  blk : w.heap[X.b]? = some (.cells X.cs 42 (0, 0))
  lo : B ≤ X.b
  mo : ∀ s, s < 2 → (X.m s).Ok w B
  me : ∀ s, s < 2 → (X.m s).es (pid (1 - s)) = some (X.e s)
  mt : ∀ s, s < 2 → (X.m s).tag = tg9 ∧ (X.m s).win = X.win ∧ (X.m s).room = X.space
  ap : ∀ j, (X.m 0).own j → (X.m 1).own j → False
  row : ∀ i, 4 ≤ i → i < 12 → w.ownsRow B (rowT i) (rowS i) (X.v i) (X.rowN i) (X.rowC i)
  rr : ∀ i j, 4 ≤ i → i < 12 → 4 ≤ j → j < 12 → i ≠ j → ∀ k, (X.v i).ownBlock = some k → (X.v j).ownBlock = some k → False
  en : ∀ y, X.ents y → y.Ok w B ∧ ¬ (X.m 0).own y.k ∧ ¬ (X.m 1).own y.k
  w1 : 1 ≤ X.win ∧ X.win ≤ 5 ∧ X.win ≤ X.space ∧ X.space ≤ 13
  sf : ∀ s, s < 2 → (X.m s).self = pid s
theorem Mx.Ok.ne_t {M : Mx} (h : M.Ok w B) {k t : Nat} {cs : Array Value} (hE : w.heap[k]? = some (.cells cs t (0, 0))) (h1 : t ≠ 91) (h2 : t ≠ 5) (h3 : t ≠ 82) (h4 : t ≠ 77) (h5 : t ≠ 71) : ¬ M.own k := by
  rintro (rfl | rfl | ⟨q, e, he, hj⟩)
  · exact blk_ne h.blk hE (fun e => h4 e.symm) rfl
  · obtain ⟨C, hC, _⟩ := h.row
    exact blk_ne hC hE (fun e => h5 e.symm) rfl
  · exact (h.el q e he).ne_t hE h1 h2 h3 hj
theorem rowT_ne (i : Nat) : rowT i ≠ 91 ∧ rowT i ≠ 5 ∧ rowT i ≠ 82 ∧ rowT i ≠ 77 ∧ rowT i ≠ 71 ∧ rowT i ≠ 42 := by
  unfold rowT
  split
  · decide
  · split <;> decide
theorem Wr.Ok.rowB (h : X.Ok w B) {i k : Nat} (h4 : 4 ≤ i) (h12 : i < 12) (hk : (X.v i).ownBlock = some k) : ∃ C, w.heap[k]? = some (.cells C (rowT i) (0, 0)) := own_ty (h.row i h4 h12) hk
theorem Wr.Ok.row_b (h : X.Ok w B) {i k : Nat} (h4 : 4 ≤ i) (h12 : i < 12) (hk : (X.v i).ownBlock = some k) : k ≠ X.b := by
  obtain ⟨C, hC⟩ := h.rowB h4 h12 hk
  exact blk_ne hC h.blk (rowT_ne i).2.2.2.2.2
theorem Wr.Ok.row_m (h : X.Ok w B) {i k s : Nat} (h4 : 4 ≤ i) (h12 : i < 12) (hs : s < 2) (hk : (X.v i).ownBlock = some k) : ¬ (X.m s).own k := by
  obtain ⟨C, hC⟩ := h.rowB h4 h12 hk
  obtain ⟨n1, n2, n3, n4, n5, n6⟩ := rowT_ne i
  exact (h.mo s hs).ne_t hC n1 n2 n3 n4 n5
theorem Wr.Ok.row_e (h : X.Ok w B) {i k : Nat} (h4 : 4 ≤ i) (h12 : i < 12) (hk : (X.v i).ownBlock = some k) {y : Bn} (hy : X.ents y) : k ≠ y.k := by
  obtain ⟨C, hC⟩ := h.rowB h4 h12 hk
  obtain ⟨C', hC', _⟩ := (h.en y hy).1.blk
  exact blk_ne hC hC' (rowT_ne i).2.1
theorem Wr.Ok.b_m (h : X.Ok w B) {s : Nat} (hs : s < 2) : ¬ (X.m s).own X.b := (h.mo s hs).ne_t h.blk (by decide) (by decide) (by decide) (by decide) (by decide)
theorem Wr.Ok.b_e (h : X.Ok w B) {y : Bn} (hy : X.ents y) : X.b ≠ y.k := by
  obtain ⟨C', hC', _⟩ := (h.en y hy).1.blk
  exact blk_ne h.blk hC' (by decide)
theorem Wr.Ok.lt (h : X.Ok w B) {j : Nat} (hj : X.own j) : j < w.heap.size := by
  rcases hj with rfl | ⟨i, h4, h12, hk⟩ | hj | hj | ⟨y, hy, rfl⟩
  · exact lt_heap h.blk
  · obtain ⟨C, hC⟩ := h.rowB h4 h12 hk; exact lt_heap hC
  · exact (h.mo 0 (by omega)).lt hj
  · exact (h.mo 1 (by omega)).lt hj
  · exact (h.en y hy).1.lt
theorem Wr.Ok.loj (h : X.Ok w B) {j : Nat} (hj : X.own j) : B ≤ j := by
  rcases hj with rfl | ⟨i, h4, h12, hk⟩ | hj | hj | ⟨y, hy, rfl⟩
  · exact h.lo
  · exact (World.ownsRow.lt (h.row i h4 h12) j hk).1
  · exact (h.mo 0 (by omega)).loj hj
  · exact (h.mo 1 (by omega)).loj hj
  · exact (h.en y hy).1.lo
theorem own_m {s : Nat} (hs : s < 2) {j : Nat} (hj : (X.m s).own j) : X.own j := by
  have : s = 0 ∨ s = 1 := by omega
  rcases this with rfl | rfl
  · exact .inr (.inr (.inl hj))
  · exact .inr (.inr (.inr (.inl hj)))
theorem own_r {i : Nat} (h4 : 4 ≤ i) (h12 : i < 12) {k : Nat} (hk : (X.v i).ownBlock = some k) : X.own k := .inr (.inl ⟨i, h4, h12, hk⟩)
theorem Wr.Ok.keep {P : Nat → Prop} (h : X.Ok w B) (k : Kept w w' P) (hp : ∀ j, X.own j → ¬ P j) : X.Ok w' B :=
  { h with blk := k.obj h.blk (hp _ (.inl rfl)), mo := fun s hs => (h.mo s hs).keep k fun j hj => hp j (own_m hs hj), row := fun i h4 h12 => k.owns (h.row i h4 h12) fun g hg => hp g (own_r h4 h12 hg), en := fun y hy => ⟨(h.en y hy).1.keep k (hp _ (.inr (.inr (.inr (.inr ⟨y, hy, rfl⟩))))), (h.en y hy).2⟩ }
theorem Wr.Ok.still (h : X.Ok w B) (hb : Below w.heap.size w w') : X.Ok w' B := h.keep (Kept.ofBelow hb (fun _ => False)) fun _ _ => id
structure Xstep (w w' : World) (X X' : Wr) (B : Nat) : Prop where
  ok : X'.Ok w' B
  kept : Kept w w' X.own
  own : ∀ j, X'.own j → X.own j ∨ w.heap.size ≤ j
  b : X'.b = X.b
theorem Xstep.refl (h : X.Ok w B) : Xstep w w X X B := ⟨h, Kept.refl _ _, fun _ h => .inl h, rfl⟩
theorem Xstep.below (h : X.Ok w B) (hb : Below w.heap.size w w') : Xstep w w' X X B := ⟨h.still hb, Kept.ofBelow hb _, fun _ h => .inl h, rfl⟩
theorem Xstep.trans {w2 : World} {X2 : Wr} (s : Xstep w w' X X' B) (t : Xstep w' w2 X' X2 B) : Xstep w w2 X X2 B :=
  ⟨t.ok, s.kept.step t.kept s.own, fun j hj => (t.own j hj).elim (s.own j) (fun hh => .inr (Nat.le_trans s.kept.size hh)), t.b.trans s.b⟩
theorem Xstep.post {w2 : World} (s : Xstep w w' X X' B) (hb : Below w'.heap.size w' w2) : Xstep w w2 X X' B := s.trans (Xstep.below s.ok hb)
theorem Wr.Ok.c (h : X.Ok w B) (i : Nat) {v : Value} (e : X.cs[i]? = some v) : w.cell? ⟨X.b, i, none⟩ = some v := (blk_cell h.blk i).trans e
theorem Wr.Ok.cm (h : X.Ok w B) {s : Nat} (hs : s < 2) : w.cell? ⟨X.b, s, none⟩ = some (.pointer (some ⟨(X.m s).b, 0, none⟩)) := by
  have : s = 0 ∨ s = 1 := by omega
  rcases this with rfl | rfl
  · exact h.c 0 rfl
  · exact h.c 1 rfl
theorem Wr.Ok.cr (h : X.Ok w B) {i : Nat} (h4 : 4 ≤ i) (h12 : i < 12) : w.cell? ⟨X.b, i, none⟩ = some (X.v i) := by
  have : i = 4 ∨ i = 5 ∨ i = 6 ∨ i = 7 ∨ i = 8 ∨ i = 9 ∨ i = 10 ∨ i = 11 := by omega
  rcases this with rfl | rfl | rfl | rfl | rfl | rfl | rfl | rfl
  all_goals exact h.c _ rfl
def Wr.setE (X : Wr) (s : Nat) (e' : En) : Wr := { X with m := upd X.m s ((X.m s).put (pid (1 - s)) e'), e := upd X.e s e' }
theorem Wr.Ok.mux (h : X.Ok w B) {s : Nat} (hs : s < 2) {e' : En} (st : Estep w w' B (X.m s).win (X.m s).room (X.e s) e') : Xstep w w' X (X.setE s e') B := by
  have ms := st.to (h.mo s hs) (h.me s hs)
  have hk : ∀ j, X.own j → ¬ (X.m s).own j → w'.heap[j]? = w.heap[j]? := fun j hj hn => ms.kept.block j (h.lt hj) hn
  have ho : ∀ t, t < 2 → t ≠ s → ∀ j, (X.m t).own j → (X.m s).own j → False := fun t ht hts j h1 h2 => by
    have : (t = 0 ∧ s = 1) ∨ (t = 1 ∧ s = 0) := by omega
    rcases this with ⟨rfl, rfl⟩ | ⟨rfl, rfl⟩
    · exact h.ap j h1 h2
    · exact h.ap j h2 h1
  have hm : ∀ t, t < 2 → ∀ j, ((X.setE s e').m t).own j → (X.m t).own j ∨ w.heap.size ≤ j := fun t ht j hj => by
    by_cases e : t = s
    · subst e; simp only [Wr.setE, upd_same] at hj; exact ms.own j hj
    · simp only [Wr.setE, upd_ne _ _ e] at hj; exact .inl hj
  have hen : ∀ y, X.ents y → ∀ t, t < 2 → ¬ ((X.setE s e').m t).own y.k := fun y hy t ht hj => by
    rcases hm t ht _ hj with h1 | h1
    · have : t = 0 ∨ t = 1 := by omega
      rcases this with rfl | rfl
      · exact (h.en y hy).2.1 h1
      · exact (h.en y hy).2.2 h1
    · have := (h.en y hy).1.lt; omega
  have hes : ∀ y, X.ents y → ¬ (X.m s).own y.k := fun y hy => by
    have : s = 0 ∨ s = 1 := by omega
    rcases this with rfl | rfl
    · exact (h.en y hy).2.1
    · exact (h.en y hy).2.2
  have hcs : (X.setE s e').cs = X.cs := by
    have : s = 0 ∨ s = 1 := by omega
    rcases this with rfl | rfl <;> simp [Wr.cs, Wr.setE, upd, mp, Mx.put]
  refine ⟨⟨?_, h.lo, fun t ht => ?_, fun t ht => ?_, fun t ht => ?_, fun j h1 h2 => ?_, fun i h4 h12 => ?_, h.rr, fun y hy => ?_, h.w1, fun t ht => by
    by_cases e : t = s
    · subst e; simp only [Wr.setE, upd_same]; exact h.sf t ht
    · simp only [Wr.setE, upd_ne _ _ e]; exact h.sf t ht⟩, ?_, ?_, rfl⟩
  · rw [hcs]; exact ms.kept.obj h.blk (h.b_m hs)
  · by_cases e : t = s
    · subst e; simp only [Wr.setE, upd_same]; exact ms.ok
    · simp only [Wr.setE, upd_ne _ _ e]; exact (h.mo t ht).keep ms.kept fun j hj hj2 => ho t ht e j hj hj2
  · by_cases e : t = s
    · subst e; simp only [Wr.setE, upd_same, Mx.put, upd_same]
    · simp only [Wr.setE, upd_ne _ _ e]; exact h.me t ht
  · by_cases e : t = s
    · subst e; simp only [Wr.setE, upd_same]; exact h.mt t ht
    · simp only [Wr.setE, upd_ne _ _ e]; exact h.mt t ht
  · have a1 := hm 0 (by omega) j h1
    have a2 := hm 1 (by omega) j h2
    rcases a1 with a1 | a1
    · rcases a2 with a2 | a2
      · exact h.ap j a1 a2
      · have := (h.mo 0 (by omega)).lt a1; omega
    · rcases a2 with a2 | a2
      · have := (h.mo 1 (by omega)).lt a2; omega
      · have : s = 0 ∨ s = 1 := by omega
        rcases this with rfl | rfl
        · simp only [Wr.setE, upd_ne _ _ (show (1:Nat) ≠ 0 by omega)] at h2
          have := (h.mo 1 (by omega)).lt h2; omega
        · simp only [Wr.setE, upd_ne _ _ (show (0:Nat) ≠ 1 by omega)] at h1
          have := (h.mo 0 (by omega)).lt h1; omega
  · exact ms.kept.owns (h.row i h4 h12) fun g hg => h.row_m h4 h12 hs hg
  · exact ⟨(h.en y hy).1.keep ms.kept (hes y hy), hen y hy 0 (by omega), hen y hy 1 (by omega)⟩
  · exact ms.kept.mono fun j _ hj => own_m hs hj
  · rintro j (rfl | ⟨i, h4, h12, hk⟩ | hj | hj | ⟨y, hy, rfl⟩)
    · exact .inl (.inl rfl)
    · exact .inl (own_r h4 h12 hk)
    · exact (hm 0 (by omega) j hj).imp (fun h1 => own_m (by omega) h1) id
    · exact (hm 1 (by omega) j hj).imp (fun h1 => own_m (by omega) h1) id
    · exact .inl (.inr (.inr (.inr (.inr ⟨y, hy, rfl⟩))))
theorem Wr.Ok.grow {w1 : World} (h : X.Ok w B) {i : Nat} (h4 : 4 ≤ i) (h12 : i < 12) {v' : Value} (hv : X'.v = upd X.v i v') (hb : X'.b = X.b) (hm : X'.m = X.m) (he : X'.e = X.e) (hw : X'.win = X.win) (hsp : X'.space = X.space)
    (hrow : w1.ownsRow B (rowT i) (rowS i) v' (X'.rowN i) (X'.rowC i)) (hN : ∀ j, 4 ≤ j → j < 12 → j ≠ i → X'.rowN j = X.rowN j ∧ X'.rowC j = X.rowC j) (k : Kept w w1 (fun q => (X.v i).ownBlock = some q)) (hnew : ∀ q, v'.ownBlock = some q → (X.v i).ownBlock = some q ∨ w.heap.size ≤ q)
    (hen : ∀ y, X'.ents y → X.ents y ∨ (y.Ok w1 B ∧ w.heap.size ≤ y.k ∨ y.Ok w1 B ∧ X.own y.k) ∧ ¬ (X.m 0).own y.k ∧ ¬ (X.m 1).own y.k) : Xstep w (w1.setCell ⟨X.b, i, none⟩ v') X X' B := by
  have k2 : Kept w1 (w1.setCell ⟨X.b, i, none⟩ v') (fun j => j = X.b) := kset _ _ _ _ rfl
  have hbk : w1.heap[X.b]? = some (.cells X.cs 42 (0, 0)) := k.obj h.blk (fun e => h.row_b h4 h12 e rfl)
  have hbk1 : ∀ q, v'.ownBlock = some q → q ≠ X.b := fun q hq e => by
    rcases hnew q hq with h1 | h1
    · exact h.row_b h4 h12 h1 e
    · have := lt_heap h.blk; omega
  have hcs : X.cs.setIfInBounds i v' = X'.cs := by
    have : i = 4 ∨ i = 5 ∨ i = 6 ∨ i = 7 ∨ i = 8 ∨ i = 9 ∨ i = 10 ∨ i = 11 := by omega
    unfold Wr.cs
    rw [hv, hm, hw, hsp]
    rcases this with rfl | rfl | rfl | rfl | rfl | rfl | rfl | rfl <;> simp [upd]
  refine ⟨⟨?_, ?_, fun s hs => ?_, ?_, ?_, ?_, fun j j4 j12 => ?_, fun a b a4 a12 b4 b12 hab q hqa hqb => ?_, fun y hy => ?_, ?_, by rw [hm]; exact h.sf⟩, ?_, ?_, hb⟩
  · rw [hb]; exact blk_set hbk hcs
  · rw [hb]; exact h.lo
  · rw [hm]
    refine ((h.mo s hs).keep k fun j hj e => h.row_m h4 h12 hs e hj).keep k2 fun j hj e => h.b_m hs (by rw [← e]; exact hj)
  · rw [hm, he]; exact h.me
  · rw [hm, hw, hsp]; exact h.mt
  · rw [hm]; exact h.ap
  · by_cases e : j = i
    · subst e
      rw [hv, upd_same]
      exact k2.owns hrow fun g hg e => hbk1 g hg e
    · rw [hv, upd_ne _ _ e, (hN j j4 j12 e).1, (hN j j4 j12 e).2]
      exact k2.owns (k.owns (h.row j j4 j12) fun g hg e2 => h.rr i j h4 h12 j4 j12 (fun e3 => e e3.symm) g e2 hg) fun g hg e2 => h.row_b j4 j12 hg e2
  · rw [hv] at hqa hqb
    by_cases e1 : a = i
    · have e2 : b ≠ i := fun e2 => hab (by rw [e1, e2])
      rw [e1, upd_same] at hqa
      rw [upd_ne _ _ e2] at hqb
      rcases hnew q hqa with h1 | h1
      · exact h.rr i b h4 h12 b4 b12 (fun e3 => e2 e3.symm) q h1 hqb
      · have := h.lt (own_r b4 b12 hqb); omega
    · rw [upd_ne _ _ e1] at hqa
      by_cases e2 : b = i
      · rw [e2, upd_same] at hqb
        rcases hnew q hqb with h1 | h1
        · exact h.rr a i a4 a12 h4 h12 e1 q hqa h1
        · have := h.lt (own_r a4 a12 hqa); omega
      · rw [upd_ne _ _ e2] at hqb
        exact h.rr a b a4 a12 b4 b12 hab q hqa hqb
  · rw [hm]
    rcases hen y hy with h1 | ⟨h1, h2, h3⟩
    · exact ⟨((h.en y h1).1.keep k fun e => h.row_e h4 h12 e h1 rfl).keep k2 fun e => h.b_e h1 e.symm, (h.en y h1).2⟩
    · have hy1 : y.Ok w1 B := h1.elim And.left And.left
      have : y.k ≠ X.b := fun e => by
        obtain ⟨C, hC, _⟩ := hy1.blk
        exact blk_ne hbk hC (by decide) e.symm
      exact ⟨hy1.keep k2 this, h2, h3⟩
  · rw [hw, hsp]; exact h.w1
  · exact (k.mono fun j _ hj => own_r h4 h12 hj).trans (k2.mono fun j _ hj => .inl hj)
  · rintro j (hj | ⟨r, r4, r12, hk⟩ | hj | hj | ⟨y, hy, rfl⟩)
    · exact .inl (.inl (hj.trans hb))
    · rw [hv] at hk
      by_cases e : r = i
      · rw [e, upd_same] at hk
        exact (hnew j hk).imp (fun h1 => own_r h4 h12 h1) id
      · rw [upd_ne _ _ e] at hk
        exact .inl (own_r r4 r12 hk)
    · rw [hm] at hj; exact .inl (own_m (s := 0) (by omega) hj)
    · rw [hm] at hj; exact .inl (own_m (s := 1) (by omega) hj)
    · rcases hen y hy with h1 | ⟨h1, _⟩
      · exact .inl (.inr (.inr (.inr (.inr ⟨y, h1, rfl⟩))))
      · rcases h1 with ⟨_, h1⟩ | ⟨_, h1⟩
        · exact .inr h1
        · exact .inl h1
end
end Go.Proofs.Ytghihdenbdnnjaa.Ln
