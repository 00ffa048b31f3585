import Derived.Test.YtnhhjelplmdloaaV38
import Derived.Test.YtnhhjelplmdloaaV34
namespace Go.Proofs.Ytnhhjelplmdloaa.Et
open Go.RowKit Go.Maps
set_option linter.unusedVariables false
set_option linter.unusedSimpArgs false
set_option maxRecDepth 100000
section
variable {w w' w0 w1 w2 w3 : World} {B T s : Nat} {S S' S1 : St} {sb : Nat} {fb fo : Nat → Nat → Value} {P Q : Nat → Prop}
theorem oneTU : (Try.prog.info? 5).map (·.size) = some 1 := by kernel_rfl
theorem step_stU8 {ops : Array Oper} {o : Oper} {a : Act} {K : Act → World → Prop} {Q : Exit → Act → World → Prop} {EE : Prop} (hgd : o.guard = none) (ty : TypeId) (x y : Operand) (ho : o.op = .store ty x y) {g p t : Nat} {C : Array Value} {z : Int} (hx : a.eval x = .pointer (some ⟨g, p, none⟩)) (hy : a.eval y = .int .u8 z) (hg : w.heap[g]? = some (.cells C t (0, 0))) (hp : p < C.size) (hz : (Try.prog.info? ty).map (·.size) = some 1) (hd : o.dst = none)
    (h : K a (w.setCell ⟨g, p, none⟩ (.int .u8 z))) : if Region.wanted o (yielded ops a.tmps) = true then Oper.wp Try.prog o a w K Q else EE := by
    rw [if_pos (show Region.wanted o (yielded ops a.tmps) = true by simp [Region.wanted, hgd])]
    have q : w.cell? ⟨g, p, none⟩ = some C[p] := by rw [blk_cell hg p]; exact Array.getElem?_eq_getElem hp
    have zz : w.frozen? ⟨g, p, none⟩ = false := frozen_of_row w _ _ _ _ hg
    have hs := size_of (w := w) hz
    unfold Oper.wp execOp
    simp only [ho, hx, hy]
    go_simp
    have hk := h
    rw [hd] at *
    exact hk
structure PsB (B sb : Nat) (w : World) (P : Nat → Prop) (S : St) (fb fo : Nat → Nat → Value) (nb no : Nat) (Z : World) : Prop where
  out : ∃ b o, Ps B sb w P Z (S.bo b o) fb fo ∧ b.n = nb ∧ o.n = no
structure PsF (B sb : Nat) (w : World) (P : Nat → Prop) (S : St) (fo : Nat → Nat → Value) (q k : Nat) (Z : World) : Prop where
  out : ∃ f, Ps B sb w P Z S f fo ∧ dnn (fun i => (S.vb i).n) S.N 1 q k f Gb
structure PsO (B sb : Nat) (w : World) (P : Nat → Prop) (S : St) (q k : Nat) (Z : World) : Prop where
  out : ∃ f, Ps B sb w P Z S Gb f ∧ dnn (fun i => (S.vo i).n) S.M 5 q k f Gf
structure PsM (B sb : Nat) (w : World) (P : Nat → Prop) (S : St) (q : Nat) (Z : World) : Prop where
  out : ∃ m vm, Ps B sb w P Z (S.mm m vm) Gb Gf ∧ m.n = q
structure PsL (B sb : Nat) (w : World) (P : Nat → Prop) (S : St) (q : Nat) (Z : World) : Prop where
  out : ∃ l vl, Ps B sb w P Z (S.ll l vl) Gb Gf ∧ l.n = q
structure PgM (B sb : Nat) (w : World) (P : Nat → Prop) (S : St) (m : Sl) (vm : Nat → Sl) (k : Nat) (x : Sl) (Z : World) : Prop where
  p : Ps B sb w P Z (S.mm m vm) Gb Gf
  g : Gw B 5 1 Z S.N S.vb m.n vm Gb k x
  x : ∀ j, x.v.ownBlock = some j → P j ∨ w.heap.size ≤ j
structure PgL (B sb : Nat) (w : World) (P : Nat → Prop) (S : St) (l : Sl) (vl : Nat → Sl) (k : Nat) (x : Sl) (Z : World) : Prop where
  p : Ps B sb w P Z (S.ll l vl) Gb Gf
  g : Gw B 43 5 Z S.M S.vo l.n vl Gf k x
  x : ∀ j, x.v.ownBlock = some j → P j ∨ w.heap.size ≤ j
theorem dnn_step {n : Nat → Nat} {N q k : Nat} {f : Nat → Nat → Value} (h : dnn n N 1 q k f Gb) : dnn n N 1 q (k + 1) (updR f q k (.int .u8 (sgv q k))) Gb := fun i hi j hj hd => by
  by_cases e : i = q ∧ j = k
  · obtain ⟨rfl, rfl⟩ := e
    rw [updR_at]; rfl
  · rw [updR_ne _ _ (by omega)]
    exact h i hi j hj (by omega)
theorem dnn_step5 {n : Nat → Nat} {N q k : Nat} {f f' : Nat → Nat → Value} (h : dnn n N 5 q k f Gf) (h' : ∀ i' p, (i' = q ∧ k * 5 ≤ p ∧ p < k * 5 + 5 → f' i' p = Gf i' p) ∧ (¬ (i' = q ∧ k * 5 ≤ p ∧ p < k * 5 + 5) → f' i' p = f i' p)) : dnn n N 5 q (k + 1) f' Gf := fun i hi j hj hd => by
  by_cases e : i = q ∧ k * 5 ≤ j ∧ j < k * 5 + 5
  · exact (h' i j).1 e
  · rw [(h' i j).2 e]
    exact h i hi j hj (by omega)
theorem dnn_next {n : Nat → Nat} {N s q : Nat} {f G : Nat → Nat → Value} (h : dnn n N s q (n q) f G) : dnn n N s (q + 1) 0 f G := fun i hi j hj hd => h i hi j hj (by
  rcases hd with hd | hd
  · by_cases e : i = q
    · subst e; exact .inr ⟨rfl, hj⟩
    · exact .inl (by omega)
  · omega)
theorem PsF.all (h : PsF B sb w P S fo S.N 0 w') : Ps B sb w P w' S Gb fo := by
  obtain ⟨f, h1, h2⟩ := h.out
  exact h1.fam (fun i hi j hj => (h2 i hi j hj (.inl hi)).symm) (fun _ _ _ _ => rfl)
theorem PsO.all (h : PsO B sb w P S S.M 0 w') : Ps B sb w P w' S Gb Gf := by
  obtain ⟨f, h1, h2⟩ := h.out
  exact h1.fam (fun _ _ _ _ => rfl) (fun i hi j hj => (h2 i hi j hj (.inl hi)).symm)
theorem blk_up {g : Nat} {C : Array Value} {t : Nat} (hb : Below w.heap.size w w') (h : w.heap[g]? = some (.cells C t (0, 0))) : w'.heap[g]? = some (.cells C t (0, 0)) := (Kept.ofBelow hb (fun _ => False)).obj h id
theorem one5 (x y : Int) : ∀ u ∈ ([.int .i64 x, .int .i64 y, .int .i64 0, .int .i64 0, .slice none 0 0] : List Value), u.oneCell' = true := by
  intro u hu
  simp only [List.mem_cons, List.not_mem_nil, or_false] at hu
  rcases hu with rfl | rfl | rfl | rfl | rfl <;> rfl
theorem rvB (n i : Nat) : rv ((n + 1) * 1) (Gb i) = rv (n * 1) (Gb i) ++ [.int .u8 (sgv i n)] := by rw [Nat.mul_one, Nat.mul_one, rv_app]; rfl
theorem rvF (n i : Nat) : rv ((n + 1) * 5) (Gf i) = rv (n * 5) (Gf i) ++ [.int .i64 (-1 - (i : Int)), .int .i64 (n : Int), .int .i64 0, .int .i64 0, .slice none 0 0] := by
  rw [Nat.add_mul, Nat.one_mul]
  refine rv_appL (n * 5) 5 (Gf i) _ rfl fun q hq => ?_
  have hd : (n * 5 + q) / 5 = n := by omega
  have hm : (n * 5 + q) % 5 = q := by omega
  unfold Gf
  rw [hd, hm]
  have : q = 0 ∨ q = 1 ∨ q = 2 ∨ q = 3 ∨ q = 4 := by omega
  rcases this with rfl | rfl | rfl | rfl | rfl <;> rfl
theorem pgm_grow {m : Sl} {vm : Nat → Sl} {k yn yc c1 : Nat} {ya a1 : Option Addr} {V Y : World} (h : PgM B sb w P S m vm k ⟨ya, yn, yc⟩ w1) (bv : Below w1.heap.size w1 V) (hq : m.n < S.N)
    (ho : Y.ownsRow B 5 1 (.slice a1 (yn + 1) c1) (yn + 1) (rv (yn * 1) (Gb m.n) ++ [.int .u8 (sgv m.n yn)])) (hk : Kept V Y (fun j => (Value.slice ya yn yc).ownBlock = some j)) (he : ApAt (.slice ya yn yc) (.slice a1 (yn + 1) c1) yn V.heap.size) (hold : Y.ownsRow B 5 1 (.slice ya yn yc) yn (rv (yn * 1) (Gb m.n))) : PgM B sb w P S m vm (k + 1) ⟨a1, yn + 1, c1⟩ Y := by
  have hpV := h.p.still bv
  have hgV : Gw B 5 1 V S.N S.vb m.n vm Gb k ⟨ya, yn, yc⟩ := ⟨h.g.n, own_still h.g.o bv, h.g.d, h.g.u, h.g.e⟩
  obtain ⟨g2, ok2⟩ := hpV.ok.growB (x := ⟨ya, yn, yc⟩) (a' := a1) (c' := c1) hgV hq (by rw [rvB]; exact ho) hk he hold
  refine ⟨hpV.grow (x := ⟨ya, yn, yc⟩) ok2 hk h.x, g2, fun j hj => ?_⟩
  rcases he.out with ⟨g, cap, e1, e2⟩ | e1
  · have e3 : (Sl.v ⟨a1, yn + 1, c1⟩).ownBlock = (Sl.v ⟨ya, yn, yc⟩).ownBlock := by
      show (Value.slice a1 (yn + 1) c1).ownBlock = (Value.slice ya yn yc).ownBlock
      rw [e1, e2]; rfl
    exact h.x j (e3 ▸ hj)
  · have e3 : some V.heap.size = some j := e1 ▸ hj
    simp at e3
    have := hpV.k.size
    exact .inr (by omega)
theorem pgl_grow {m : Sl} {vm : Nat → Sl} {k yn yc c1 : Nat} {ya a1 : Option Addr} {V Y : World} (h : PgL B sb w P S m vm k ⟨ya, yn, yc⟩ w1) (bv : Below w1.heap.size w1 V) (hq : m.n < S.M)
    (ho : Y.ownsRow B 43 5 (.slice a1 (yn + 1) c1) (yn + 1) (rv (yn * 5) (Gf m.n) ++ [.int .i64 (-1 - (m.n : Int)), .int .i64 (yn : Int), .int .i64 0, .int .i64 0, .slice none 0 0])) (hk : Kept V Y (fun j => (Value.slice ya yn yc).ownBlock = some j)) (he : ApAt (.slice ya yn yc) (.slice a1 (yn + 1) c1) yn V.heap.size) (hold : Y.ownsRow B 43 5 (.slice ya yn yc) yn (rv (yn * 5) (Gf m.n))) : PgL B sb w P S m vm (k + 1) ⟨a1, yn + 1, c1⟩ Y := by
  have hpV := h.p.still bv
  have hgV : Gw B 43 5 V S.M S.vo m.n vm Gf k ⟨ya, yn, yc⟩ := ⟨h.g.n, own_still h.g.o bv, h.g.d, h.g.u, h.g.e⟩
  obtain ⟨g2, ok2⟩ := hpV.ok.growF (x := ⟨ya, yn, yc⟩) (a' := a1) (c' := c1) hgV hq (by rw [rvF]; exact ho) hk he hold
  refine ⟨hpV.grow (x := ⟨ya, yn, yc⟩) ok2 hk h.x, g2, fun j hj => ?_⟩
  rcases he.out with ⟨g, cap, e1, e2⟩ | e1
  · have e3 : (Sl.v ⟨a1, yn + 1, c1⟩).ownBlock = (Sl.v ⟨ya, yn, yc⟩).ownBlock := by
      show (Value.slice a1 (yn + 1) c1).ownBlock = (Value.slice ya yn yc).ownBlock
      rw [e1, e2]; rfl
    exact h.x j (e3 ▸ hj)
  · have e3 : some V.heap.size = some j := e1 ▸ hj
    simp at e3
    have := hpV.k.size
    exact .inr (by omega)
theorem pgm_done {m x : Sl} {vm : Nat → Sl} {c1 : Nat} {a1 : Option Addr} {V Y : World} (h : PgM B sb w P S m vm 64 x w1) (bv : Below w1.heap.size w1 V)
    (ho : Y.ownsRow B 35 1 (.slice a1 (m.n + 1) c1) (m.n + 1) (rv m.n (fun i => (vm i).v) ++ [x.v])) (hk : Kept V Y (fun j => m.v.ownBlock = some j)) (he : (Value.slice a1 (m.n + 1) c1).ownBlock = m.v.ownBlock ∨ (Value.slice a1 (m.n + 1) c1).ownBlock = some V.heap.size) : PsM B sb w P S (m.n + 1) (Y.setCell ⟨sb, 1, none⟩ (.slice a1 (m.n + 1) c1)) := by
  have hpV := h.p.still bv
  have hgV : Gw B 5 1 V S.N S.vb m.n vm Gb 64 x := ⟨h.g.n, own_still h.g.o bv, h.g.d, h.g.u, h.g.e⟩
  exact ⟨⟨a1, m.n + 1, c1⟩, updS vm m.n x, hpV.app (x := x) (hpV.ok.appM (S := S.mm m vm) hgV ho hk he) h.x, rfl⟩
theorem pgl_done {m x : Sl} {vm : Nat → Sl} {c1 : Nat} {a1 : Option Addr} {V Y : World} (h : PgL B sb w P S m vm 64 x w1) (bv : Below w1.heap.size w1 V)
    (ho : Y.ownsRow B 39 1 (.slice a1 (m.n + 1) c1) (m.n + 1) (rv m.n (fun i => (vm i).v) ++ [x.v])) (hk : Kept V Y (fun j => m.v.ownBlock = some j)) (he : (Value.slice a1 (m.n + 1) c1).ownBlock = m.v.ownBlock ∨ (Value.slice a1 (m.n + 1) c1).ownBlock = some V.heap.size) : PsL B sb w P S (m.n + 1) (Y.setCell ⟨sb, 3, none⟩ (.slice a1 (m.n + 1) c1)) := by
  have hpV := h.p.still bv
  have hgV : Gw B 43 5 V S.M S.vo m.n vm Gf 64 x := ⟨h.g.n, own_still h.g.o bv, h.g.d, h.g.u, h.g.e⟩
  exact ⟨⟨a1, m.n + 1, c1⟩, updS vm m.n x, hpV.app (x := x) (hpV.ok.appL (S := S.ll m vm) hgV ho hk he) h.x, rfl⟩
end
end Go.Proofs.Ytnhhjelplmdloaa.Et
namespace Go.Proofs.Ytnhhjelplmdloaa.Et
open Go.RowKit Go.Maps
set_option linter.unusedVariables false
set_option linter.unusedSimpArgs false
set_option maxRecDepth 100000
section
variable {w w' w0 w1 w2 w3 : World} {B B1 B2 T s : Nat} {S S' : St} {sb : Nat} {fb fo : Nat → Nat → Value} {P Q X : Nat → Prop}
def cmb {α : Type} (N : Nat) (f g : Nat → α) : Nat → α := fun i => if i < N then f i else g (i - N)
theorem cmb_lo {α : Type} {N i : Nat} (f g : Nat → α) (h : i < N) : cmb N f g i = f i := by simp [cmb, h]
theorem cmb_hi {α : Type} (N i : Nat) (f g : Nat → α) : cmb N f g (N + i) = g i := by
  unfold cmb
  rw [if_neg (by omega), Nat.add_sub_cancel_left]
theorem rv_eq {n : Nat} {f : Nat → Value} {l : List Value} (hl : l.length = n) (h : ∀ i, i < n → l[i]? = some (f i)) : rv n f = l := by
  apply List.ext_getElem?
  intro i
  by_cases hi : i < n
  · rw [rv_get f hi, h i hi]
  · rw [List.getElem?_eq_none (by rw [rv_len]; omega), List.getElem?_eq_none (by omega)]
theorem Fm.join {N K : Nat} {v u : Nat → Sl} {f e : Nat → Nat → Value} (h : Fm B T s w N v f) (g : Fm B T s w K u e) (hx : ∀ i j, i < N → j < K → ∀ b, (v i).v.ownBlock = some b → (u j).v.ownBlock ≠ some b) : Fm B T s w (N + K) (cmb N v u) (cmb N f e) := by
  have sp : ∀ i, i < N + K → (i < N ∧ cmb N v u i = v i ∧ cmb N f e i = f i) ∨ ∃ q, q < K ∧ i = N + q ∧ cmb N v u i = u q ∧ cmb N f e i = e q := fun i hi => by
    by_cases h1 : i < N
    · exact .inl ⟨h1, cmb_lo _ _ h1, cmb_lo _ _ h1⟩
    · obtain ⟨q, rfl⟩ : ∃ q, i = N + q := ⟨i - N, by omega⟩
      exact .inr ⟨q, by omega, rfl, cmb_hi _ _ _ _, cmb_hi _ _ _ _⟩
  refine ⟨fun i hi => ?_, fun i j hi hj hne b hb => ?_⟩
  · rcases sp i hi with ⟨h1, h2, h3⟩ | ⟨q, h1, rfl, h2, h3⟩
    · rw [h2, h3]; exact h.o i h1
    · rw [h2, h3]; exact g.o q h1
  · rcases sp i hi with ⟨h1, h2, h3⟩ | ⟨q, h1, rfl, h2, h3⟩ <;> rcases sp j hj with ⟨k1, k2, k3⟩ | ⟨r, k1, rfl, k2, k3⟩
    · rw [h2] at hb; rw [k2]; exact h.d i j h1 k1 hne b hb
    · rw [h2] at hb; rw [k2]; exact hx i r h1 k1 b hb
    · rw [h2] at hb; rw [k2]; exact fun e2 => hx j q k1 h1 b e2 hb
    · rw [h2] at hb; rw [k2]; exact g.d q r h1 k1 (by omega) b hb
theorem Gr.join {N K K2 : Nat} {v v2 u : Nat → Sl} {G : Nat → Nat → Value} (h : Gr B T s w N v K u G) (hK : K ≤ N) (hx : ∀ i j, i < K → j < K2 → ∀ b, (u i).v.ownBlock = some b → (v2 j).v.ownBlock ≠ some b) : Gr B T s w (N + K2) (cmb N v v2) K u G := by
  refine ⟨fun i hi => by rw [cmb_lo v v2 (show i < N by omega)]; exact h.n i hi, h.o, fun i j hi hj hne b hb => ?_⟩
  by_cases h1 : j < N
  · rw [cmb_lo v v2 h1]; exact h.d i j hi h1 hne b hb
  · obtain ⟨q, rfl⟩ : ∃ q, j = N + q := ⟨j - N, by omega⟩
    rw [cmb_hi]; exact hx i q hi (by omega) b hb
def low (s : Sl) (L : List Fx) (j : Nat) : Prop := s.v.ownBlock = some j ∨ ∃ f ∈ L, f.v.ownBlock = some j
structure Ht (w : World) (B : Nat) (X : Nat → Prop) (s : Sl) (L : List Fx) : Prop where
  g : RdG w B s.a s.n s.c L
  off : ∀ j, low s L j → ¬ X j
  few : s.n ≤ 1000
  sz : ∀ f ∈ L, f.n ≤ 40000
theorem getD_mem {L : List Fx} {f : Fx} (h : f ∈ L) : ∃ i, i < L.length ∧ L.getD i f0 = f := by
  obtain ⟨i, hi, rfl⟩ := List.getElem_of_mem h
  exact ⟨i, hi, by simp [List.getD, List.getElem?_eq_getElem hi]⟩
theorem RdG.bytM {a : Option Addr} {n c : Nat} {L : List Fx} (h : RdG w B a n c L) {f : Fx} (hf : f ∈ L) : f.byt w B := by
  obtain ⟨i, hi, rfl⟩ := getD_mem hf
  exact h.byt i (by rw [← h.len]; exact hi)
theorem RdG.pw {a : Option Addr} {n c : Nat} {L : List Fx} (h : RdG w B a n c L) : L.Pairwise Fx.apart := by
  rw [List.pairwise_iff_getElem]
  intro i j hi hj hij
  have := h.ap i j (by rw [← h.len]; exact hi) (by rw [← h.len]; exact hj) (by omega)
  simpa [List.getD, List.getElem?_eq_getElem hi, List.getElem?_eq_getElem hj] using this
theorem apart_symm {f g : Fx} (h : f.apart g) : g.apart f := fun k hk e => h k e hk
theorem pw_mem {L : List Fx} (h : L.Pairwise Fx.apart) {i j : Nat} (hi : i < L.length) (hj : j < L.length) (hne : i ≠ j) : (L.getD i f0).apart (L.getD j f0) := by
  rw [List.pairwise_iff_getElem] at h
  have e1 : L.getD i f0 = L[i] := by simp [List.getD, List.getElem?_eq_getElem hi]
  have e2 : L.getD j f0 = L[j] := by simp [List.getD, List.getElem?_eq_getElem hj]
  rw [e1, e2]
  rcases Nat.lt_or_gt_of_ne hne with h1 | h1
  · exact h i j hi hj h1
  · exact apart_symm (h j i hj hi h1)
theorem RdG.lt {a : Option Addr} {n c : Nat} {L : List Fx} (h : RdG w B a n c L) {j : Nat} (hj : low ⟨a, n, c⟩ L j) : B ≤ j ∧ j < w.heap.size := by
  rcases hj with hj | ⟨f, hf, hj⟩
  · exact World.ownsRow.lt h.row j hj
  · exact World.ownsRow.lt (h.bytM hf).1 j hj
theorem Ht.lt {s : Sl} {L : List Fx} (h : Ht w B X s L) {j : Nat} (hj : low s L j) : B ≤ j ∧ j < w.heap.size := h.g.lt hj
theorem RdG.lower {a : Option Addr} {n c : Nat} {L : List Fx} (h : RdG w B a n c L) (hB : B1 ≤ B) : RdG w B1 a n c L :=
  ⟨h.len, own_lower h.row hB, fun i hi => ⟨own_lower (h.byt i hi).1 hB, (h.byt i hi).2⟩, h.ap⟩
theorem Ht.still {s : Sl} {L : List Fx} (h : Ht w B X s L) (hb : Below w.heap.size w w') : Ht w' B X s L := ⟨h.g.still hb, h.off, h.few, h.sz⟩
structure H3 (w : World) (B : Nat) (X : Nat → Prop) (s0 s1 s2 : Sl) (L0 L1 L2 : List Fx) : Prop where
  h0 : Ht w B X s0 L0
  h1 : Ht w B X s1 L1
  h2 : Ht w B X s2 L2
  a01 : ∀ j, low s0 L0 j → ¬ low s1 L1 j
  a02 : ∀ j, low s0 L0 j → ¬ low s2 L2 j
  a12 : ∀ j, low s1 L1 j → ¬ low s2 L2 j
theorem H3.still {s0 s1 s2 : Sl} {L0 L1 L2 : List Fx} (h : H3 w B X s0 s1 s2 L0 L1 L2) (hb : Below w.heap.size w w') : H3 w' B X s0 s1 s2 L0 L1 L2 := ⟨h.h0.still hb, h.h1.still hb, h.h2.still hb, h.a01, h.a02, h.a12⟩
def bslx (f : Fx) : Sl := ⟨f.a, f.n, f.c⟩
def bE (LL : List Fx) (i j : Nat) : Value := .int .u8 ((LL.getD i f0).bs.getD j 0)
def s3 (s0 s1 s2 : Sl) (i : Nat) : Sl := if i = 0 then s0 else if i = 1 then s1 else s2
def l3 (L0 L1 L2 : List Fx) (i : Nat) : List Fx := if i = 0 then L0 else if i = 1 then L1 else L2
def fE (L0 L1 L2 : List Fx) (i j : Nat) : Value := (flCells (l3 L0 L1 L2 i)).getD j undef
section
variable {s0 s1 s2 : Sl} {L0 L1 L2 : List Fx}
def St.ext (S : St) (s0 s1 s2 : Sl) (LL : List Fx) : St := { S with N := S.N + LL.length, M := S.M + 3, vb := cmb S.N S.vb (fun i => bslx (LL.getD i f0)), vo := cmb S.M S.vo (s3 s0 s1 s2) }
theorem H3.at (h : H3 w B X s0 s1 s2 L0 L1 L2) (i : Nat) : Ht w B X (s3 s0 s1 s2 i) (l3 L0 L1 L2 i) := by
  unfold s3 l3
  split
  · exact h.h0
  · split
    · exact h.h1
    · exact h.h2
theorem H3.pw (h : H3 w B X s0 s1 s2 L0 L1 L2) : (L0 ++ L1 ++ L2).Pairwise Fx.apart := by
  refine List.pairwise_append.2 ⟨List.pairwise_append.2 ⟨h.h0.g.pw, h.h1.g.pw, fun f hf g hg k hk e => h.a01 k (.inr ⟨f, hf, hk⟩) (.inr ⟨g, hg, e⟩)⟩, h.h2.g.pw, fun f hf g hg k hk e => ?_⟩
  rcases List.mem_append.1 hf with hf | hf
  · exact h.a02 k (.inr ⟨f, hf, hk⟩) (.inr ⟨g, hg, e⟩)
  · exact h.a12 k (.inr ⟨f, hf, hk⟩) (.inr ⟨g, hg, e⟩)
theorem H3.mem (h : H3 w B X s0 s1 s2 L0 L1 L2) {f : Fx} (hf : f ∈ L0 ++ L1 ++ L2) : f.byt w B ∧ f.n ≤ 40000 ∧ (∀ j, f.v.ownBlock = some j → ¬ X j) := by
  rcases List.mem_append.1 hf with hf | hf
  · rcases List.mem_append.1 hf with hf | hf
    · exact ⟨h.h0.g.bytM hf, h.h0.sz f hf, fun j hj => h.h0.off j (.inr ⟨f, hf, hj⟩)⟩
    · exact ⟨h.h1.g.bytM hf, h.h1.sz f hf, fun j hj => h.h1.off j (.inr ⟨f, hf, hj⟩)⟩
  · exact ⟨h.h2.g.bytM hf, h.h2.sz f hf, fun j hj => h.h2.off j (.inr ⟨f, hf, hj⟩)⟩
theorem H3.fmB (h : H3 w B X s0 s1 s2 L0 L1 L2) : Fm B 5 1 w (L0 ++ L1 ++ L2).length (fun i => bslx ((L0 ++ L1 ++ L2).getD i f0)) (bE (L0 ++ L1 ++ L2)) := by
  have hp := h.pw
  have hm : ∀ f ∈ L0 ++ L1 ++ L2, f.byt w B := fun f hf => (h.mem hf).1
  generalize L0 ++ L1 ++ L2 = LL at hp hm ⊢
  refine ⟨fun i hi => ?_, fun i j hi hj hne b hb => pw_mem hp hi hj hne b hb⟩
  have h1 := (hm _ (mem_getD hi)).1
  have h2 : rv ((bslx (LL.getD i f0)).n * 1) (bE LL i) = (LL.getD i f0).bs.map (Value.int .u8) := by
    have hl := h1.1
    rw [List.length_map] at hl
    refine rv_eq (by rw [List.length_map]; exact hl) fun q hq => ?_
    have hq' : q < (LL.getD i f0).bs.length := by rw [hl]; exact hq
    unfold bE
    rw [List.getElem?_map, List.getElem?_eq_getElem hq']
    have e1 : (LL.getD i f0).bs.getD q 0 = (LL.getD i f0).bs[q] := by
      generalize (LL.getD i f0).bs = bs at hq' ⊢
      simp [List.getD, List.getElem?_eq_getElem hq']
    rw [e1]
    rfl
  show w.ownsRow B _ 1 (bslx (LL.getD i f0)).v (bslx (LL.getD i f0)).n (rv ((bslx (LL.getD i f0)).n * 1) (bE LL i))
  rw [h2]
  exact h1
theorem H3.fmO (h : H3 w B X s0 s1 s2 L0 L1 L2) : Fm B 43 5 w 3 (s3 s0 s1 s2) (fE L0 L1 L2) := by
  refine ⟨fun i hi => ?_, fun i j hi hj hne b hb e => ?_⟩
  · have h1 := (h.at i).g.row
    have h2 : rv ((s3 s0 s1 s2 i).n * 5) (fE L0 L1 L2 i) = flCells (l3 L0 L1 L2 i) := by
      have hl := h1.1
      refine rv_eq hl fun q hq => ?_
      have hq' : q < (flCells (l3 L0 L1 L2 i)).length := by rw [hl]; exact hq
      unfold fE
      simp [List.getD, List.getElem?_eq_getElem hq']
    rw [h2]
    exact h1
  · have hi' : i = 0 ∨ i = 1 ∨ i = 2 := by omega
    have hj' : j = 0 ∨ j = 1 ∨ j = 2 := by omega
    rcases hi' with rfl | rfl | rfl <;> rcases hj' with rfl | rfl | rfl <;> first
      | exact absurd rfl hne
      | exact h.a01 b (.inl hb) (.inl e)
      | exact h.a02 b (.inl hb) (.inl e)
      | exact h.a12 b (.inl hb) (.inl e)
      | exact h.a01 b (.inl e) (.inl hb)
      | exact h.a02 b (.inl e) (.inl hb)
      | exact h.a12 b (.inl e) (.inl hb)
theorem St.Ok.ext (h : S.Ok w B sb Gb Gf) (g : H3 w B (S.own sb) s0 s1 s2 L0 L1 L2) (hm : S.m.n = S.N) (hl : S.l.n = S.M) (hbn : S.b.n = S.N) (hon : S.o.n = S.M) : (S.ext s0 s1 s2 (L0 ++ L1 ++ L2)).Ok w B sb (cmb S.N Gb (bE (L0 ++ L1 ++ L2))) (cmb S.M Gf (fE L0 L1 L2)) := by
  have ho : ∀ i, i < 3 → ∀ b, (s3 s0 s1 s2 i).v.ownBlock = some b → ¬ S.own sb b := fun i hi b hb => (g.at i).off b (.inl hb)
  have hb : ∀ i, i < (L0 ++ L1 ++ L2).length → ∀ b, (bslx ((L0 ++ L1 ++ L2).getD i f0)).v.ownBlock = some b → ¬ S.own sb b := fun i hi b hb => (g.mem (mem_getD hi)).2.2 b hb
  refine ⟨h.blk, h.ge, ?_, h.rm, ?_, h.rl, h.bm, h.ol, h.fb.join g.fmB (fun i j hi hj b h1 h2 => hb j hj b h2 (.inr (.inr (.inr (.inr (.inr (.inl ⟨i, hi, h1⟩))))))), h.fo.join g.fmO (fun i j hi hj b h1 h2 => ho j hj b h2 (.inr (.inr (.inr (.inr (.inr (.inr (.inl ⟨i, hi, h1⟩)))))))),
    h.gm.join (by omega) (fun i j hi hj b h1 h2 => hb j hj b h2 (.inr (.inr (.inr (.inr (.inr (.inr (.inr (.inl ⟨i, hi, h1⟩))))))))), h.gl.join (by omega) (fun i j hi hj b h1 h2 => ho j hj b h2 (.inr (.inr (.inr (.inr (.inr (.inr (.inr (.inr ⟨i, hi, h1⟩)))))))))⟩
  · show w.ownsRow B _ 1 S.b.v S.b.n (rv S.b.n fun i => (cmb S.N S.vb _ i).v)
    rw [rv_congr (fun i hi => by rw [cmb_lo _ _ (by omega)])]
    exact h.rb
  · show w.ownsRow B _ 1 S.o.v S.o.n (rv S.o.n fun i => (cmb S.M S.vo _ i).v)
    rw [rv_congr (fun i hi => by rw [cmb_lo _ _ (by omega)])]
    exact h.ro
theorem St.ext_own {LL : List Fx} {j : Nat} (h : (S.ext s0 s1 s2 (L0 ++ L1 ++ L2)).own sb j) (hm : S.m.n = S.N) (hl : S.l.n = S.M) : S.own sb j ∨ low s0 L0 j ∨ low s1 L1 j ∨ low s2 L2 j := by
  rcases h with h | h | h | h | h | ⟨i, hi, h⟩ | ⟨i, hi, h⟩ | h | h
  · exact .inl (.inl h)
  · exact .inl (.inr (.inl h))
  · exact .inl (.inr (.inr (.inl h)))
  · exact .inl (.inr (.inr (.inr (.inl h))))
  · exact .inl (.inr (.inr (.inr (.inr (.inl h)))))
  · by_cases h1 : i < S.N
    · have e : (cmb S.N S.vb (fun i => bslx ((L0 ++ L1 ++ L2).getD i f0)) i).v.ownBlock = some j := h
      rw [cmb_lo _ _ h1] at e
      exact .inl (.inr (.inr (.inr (.inr (.inr (.inl ⟨i, h1, e⟩))))))
    · obtain ⟨q, rfl⟩ : ∃ q, i = S.N + q := ⟨i - S.N, by omega⟩
      have e : (cmb S.N S.vb (fun i => bslx ((L0 ++ L1 ++ L2).getD i f0)) (S.N + q)).v.ownBlock = some j := h
      rw [cmb_hi] at e
      have hq : q < (L0 ++ L1 ++ L2).length := by
        have : S.N + q < S.N + (L0 ++ L1 ++ L2).length := hi
        omega
      have hm := mem_getD hq
      generalize (L0 ++ L1 ++ L2).getD q f0 = f at e hm
      rcases List.mem_append.1 hm with hm | hm
      · rcases List.mem_append.1 hm with hm | hm
        · exact .inr (.inl (.inr ⟨f, hm, e⟩))
        · exact .inr (.inr (.inl (.inr ⟨f, hm, e⟩)))
      · exact .inr (.inr (.inr (.inr ⟨f, hm, e⟩)))
  · by_cases h1 : i < S.M
    · have e : (cmb S.M S.vo (s3 s0 s1 s2) i).v.ownBlock = some j := h
      rw [cmb_lo _ _ h1] at e
      exact .inl (.inr (.inr (.inr (.inr (.inr (.inr (.inl ⟨i, h1, e⟩)))))))
    · obtain ⟨q, rfl⟩ : ∃ q, i = S.M + q := ⟨i - S.M, by omega⟩
      have e : (cmb S.M S.vo (s3 s0 s1 s2) (S.M + q)).v.ownBlock = some j := h
      rw [cmb_hi] at e
      unfold s3 at e
      split at e
      · exact .inr (.inl (.inl e))
      · split at e
        · exact .inr (.inr (.inl (.inl e)))
        · exact .inr (.inr (.inr (.inl e)))
  · exact .inl (.inr (.inr (.inr (.inr (.inr (.inr (.inr (.inl h))))))))
  · exact .inl (.inr (.inr (.inr (.inr (.inr (.inr (.inr (.inr h))))))))
theorem flc_at {L : List Fx} {k j : Nat} (hk : k < L.length) (hj : j < 5) : (flCells L).getD (k * 5 + j) undef = (L.getD k f0).cs.toList.getD j undef := by
  induction L generalizing k with
  | nil => simp at hk
  | cons f L ih =>
    have e : flCells (f :: L) = f.cs.toList ++ flCells L := rfl
    have hl : f.cs.toList.length = 5 := rfl
    cases k with
    | zero =>
      rw [e, Nat.zero_mul, Nat.zero_add]
      show (f.cs.toList ++ flCells L).getD j undef = f.cs.toList.getD j undef
      simp only [List.getD]
      rw [List.getElem?_append_left (by omega)]
    | succ k =>
      have h2 := ih (k := k) (by simpa using hk)
      rw [e]
      simp only [List.getD] at h2 ⊢
      rw [List.getElem?_append_right (by omega), hl, show (k + 1) * 5 + j - 5 = k * 5 + j by omega, h2]
      simp
theorem St.Ok.lk3 (h : S.Ok w B sb Gb Gf) (g : H3 w B (S.own sb) s0 s1 s2 L0 L1 L2) (hm : S.m.n = S.N) (hl : S.l.n = S.M) (hbn : S.b.n = S.N) (hon : S.o.n = S.M) (bN : S.N + (L0 ++ L1 ++ L2).length ≤ 100000) (bM : S.M + 3 ≤ 1000) (lb : ∀ i, i < S.N → (S.vb i).n ≤ 40000) (lo : ∀ i, i < S.M → (S.vo i).n ≤ 1000) :
    Lk3 (S.ext s0 s1 s2 (L0 ++ L1 ++ L2)) S.N S.M (cmb S.N Gb (bE (L0 ++ L1 ++ L2))) (cmb S.M Gf (fE L0 L1 L2)) (fun i => if i = 0 then 0 else if i = 1 then L0.length else if i = 2 then L0.length + L1.length else (L0 ++ L1 ++ L2).length) := by
  have hs : ∀ i, ((S.ext s0 s1 s2 (L0 ++ L1 ++ L2)).vo (S.M + i)) = s3 s0 s1 s2 i := fun i => cmb_hi _ _ _ _
  have hs0 := g.h0.g.len
  have hs1 := g.h1.g.len
  have hs2 := g.h2.g.len
  refine ⟨hbn, hm, hon, hl, rfl, rfl, rfl, fun i hi => ?_, fun i hi k hk => ?_, bN, bM, fun i hi => ?_, fun i hi => ?_, fun i hi j hj => by rw [cmb_lo _ _ hi], fun i hi j hj => by rw [cmb_lo _ _ hi]⟩
  · rw [hs]
    have hi' : i = 0 ∨ i = 1 ∨ i = 2 := by omega
    rcases hi' with rfl | rfl | rfl
    · simp [s3, hs0]
    · simp [s3, hs1]
    · simp [s3, hs2, Nat.add_assoc]
  · rw [hs] at hk
    rw [cmb_hi]
    show fE L0 L1 L2 i (k * 5 + 4) = (cmb S.N S.vb (fun i => bslx ((L0 ++ L1 ++ L2).getD i f0)) _).v
    rw [cmb_hi]
    unfold fE
    have hi' : i = 0 ∨ i = 1 ∨ i = 2 := by omega
    rcases hi' with rfl | rfl | rfl
    · have hk' : k < L0.length := by rw [hs0]; exact hk
      show (flCells L0).getD (k * 5 + 4) undef = (bslx ((L0 ++ L1 ++ L2).getD (0 + k) f0)).v
      rw [flc_at hk' (by omega), Nat.zero_add]
      have e : (L0 ++ L1 ++ L2).getD k f0 = L0.getD k f0 := by
        simp only [List.getD]
        rw [List.append_assoc, List.getElem?_append_left hk']
      rw [e]
      rfl
    · have hk' : k < L1.length := by rw [hs1]; exact hk
      show (flCells L1).getD (k * 5 + 4) undef = (bslx ((L0 ++ L1 ++ L2).getD (L0.length + k) f0)).v
      rw [flc_at hk' (by omega)]
      have e : (L0 ++ L1 ++ L2).getD (L0.length + k) f0 = L1.getD k f0 := by
        simp only [List.getD]
        rw [List.append_assoc, List.getElem?_append_right (by omega), Nat.add_sub_cancel_left, List.getElem?_append_left hk']
      rw [e]
      rfl
    · have hk' : k < L2.length := by rw [hs2]; exact hk
      show (flCells L2).getD (k * 5 + 4) undef = (bslx ((L0 ++ L1 ++ L2).getD (L0.length + L1.length + k) f0)).v
      rw [flc_at hk' (by omega)]
      have e : (L0 ++ L1 ++ L2).getD (L0.length + L1.length + k) f0 = L2.getD k f0 := by
        simp only [List.getD]
        rw [List.getElem?_append_right (by simp), List.length_append, Nat.add_sub_cancel_left]
      rw [e]
      rfl
  · by_cases h1 : i < S.N
    · show (cmb S.N S.vb _ i).n ≤ _
      rw [cmb_lo _ _ h1]
      exact lb i h1
    · obtain ⟨q, rfl⟩ : ∃ q, i = S.N + q := ⟨i - S.N, by omega⟩
      have hq : q < (L0 ++ L1 ++ L2).length := by
        have : S.N + q < S.N + (L0 ++ L1 ++ L2).length := hi
        omega
      show (cmb S.N S.vb (fun i => bslx ((L0 ++ L1 ++ L2).getD i f0)) (S.N + q)).n ≤ _
      rw [cmb_hi]
      exact (g.mem (mem_getD hq)).2.1
  · by_cases h1 : i < S.M
    · show (cmb S.M S.vo _ i).n ≤ _
      rw [cmb_lo _ _ h1]
      exact lo i h1
    · obtain ⟨q, rfl⟩ : ∃ q, i = S.M + q := ⟨i - S.M, by omega⟩
      rw [hs]
      exact (g.at q).few
end
end
end Go.Proofs.Ytnhhjelplmdloaa.Et
