import Derived.Test.YtnhhjelplmdloaaV36
import Derived.Maps.AppendAt
import Derived.Laws.OwnMore
namespace Go.Proofs.Ytnhhjelplmdloaa.Et
open Go.RowKit Go.Maps
set_option linter.unusedVariables false
set_option linter.unusedSimpArgs false
set_option maxRecDepth 100000
structure Sl where
  a : Option Addr
  n : Nat
  c : Nat
def Sl.v (s : Sl) : Value := .slice s.a s.n s.c
def sgv (n k : Nat) : Int := if k % 3 = 0 then bits .xor .u8 ((n : Int) % 256) 0 else if k % 3 = 1 then bits .xor .u8 ((n : Int) / 256 % 256) 53 else bits .xor .u8 ((n : Int) / 65536) 106
def Gb (i j : Nat) : Value := .int .u8 (sgv i j)
def mkF (i k : Nat) : Fx := ⟨-1 - (i : Int), k, 0, 0, none, 0, 0, []⟩
def Gf (i j : Nat) : Value := (mkF i (j / 5)).cs.toList.getD (j % 5) undef
section
variable {w w' w1 w2 w3 : World} {B T s : Nat}
theorem rv_app (n : Nat) (f : Nat → Value) : rv (n + 1) f = rv n f ++ [f n] := by simp [rv, List.range_succ]
theorem rv_appL (n m : Nat) (f : Nat → Value) (L : List Value) (hl : L.length = m) (h : ∀ i, i < m → L[i]? = some (f (n + i))) : rv (n + m) f = rv n f ++ L := by
  apply List.ext_getElem?
  intro i
  by_cases h1 : i < n
  · rw [List.getElem?_append_left (by rw [rv_len]; exact h1), rv_get f h1, rv_get f (by omega)]
  · rw [List.getElem?_append_right (by rw [rv_len]; omega), rv_len]
    by_cases h2 : i < n + m
    · rw [rv_get f h2, h (i - n) (by omega), show n + (i - n) = i by omega]
    · rw [List.getElem?_eq_none (by rw [rv_len]; omega), List.getElem?_eq_none (by omega)]
theorem rv_take (n m : Nat) (f : Nat → Value) (h : n ≤ m) : (rv m f).take n = rv n f := by
  apply List.ext_getElem?
  intro i
  rw [List.getElem?_take]
  by_cases h1 : i < n
  · rw [if_pos h1, rv_get f h1, rv_get f (by omega)]
  · rw [if_neg h1, List.getElem?_eq_none (by rw [rv_len]; omega)]
def TyP (w : World) (P : Nat → Prop) (Q : Nat → Prop) : Prop := ∀ j, P j → ∃ cur t, Q t ∧ w.heap[j]? = some (.cells cur t (0, 0))
theorem TyP.off {P Q : Nat → Prop} (h : TyP w P Q) {t n : Nat} {v : Value} {l : List Value} (ho : w.ownsRow B t s v n l) (hq : ¬ Q t) : ∀ g, v.ownBlock = some g → ¬ P g := fun g hg hp => by
  obtain ⟨cur, h1⟩ := row_ty ho hg
  obtain ⟨c2, t2, h2, h3⟩ := h g hp
  rw [h1] at h3
  simp at h3
  exact hq (h3.2 ▸ h2)
theorem TyP.own {t n : Nat} {v : Value} {l : List Value} (ho : w.ownsRow B t s v n l) : TyP w (fun j => v.ownBlock = some j) (fun x => x = t) := fun j hj => by
  obtain ⟨cur, h1⟩ := row_ty ho hj
  exact ⟨cur, t, rfl, h1⟩
theorem TyP.keep {P Q : Nat → Prop} (h : TyP w P Q) {t n : Nat} {v : Value} {l : List Value} (ho : w.ownsRow B t s v n l) (hq : ¬ Q t) (k : Kept w w' P) : w'.ownsRow B t s v n l := k.owns ho (h.off ho hq)
structure Fm (B T s : Nat) (w : World) (N : Nat) (v : Nat → Sl) (f : Nat → Nat → Value) : Prop where
  o : ∀ i, i < N → w.ownsRow B T s (v i).v (v i).n (rv ((v i).n * s) (f i))
  d : ∀ i j, i < N → j < N → i ≠ j → ∀ g, (v i).v.ownBlock = some g → (v j).v.ownBlock ≠ some g
structure Gr (B T s : Nat) (w : World) (N : Nat) (v : Nat → Sl) (K : Nat) (u : Nat → Sl) (G : Nat → Nat → Value) : Prop where
  n : ∀ i, i < K → (u i).n = (v i).n + 64
  o : ∀ i, i < K → w.ownsRow B T s (u i).v (u i).n (rv ((u i).n * s) (G i))
  d : ∀ i j, i < K → j < N → i ≠ j → ∀ g, (u i).v.ownBlock = some g → (v j).v.ownBlock ≠ some g
section
variable {N K : Nat} {v u : Nat → Sl} {f G : Nat → Nat → Value} {P Q : Nat → Prop}
theorem Fm.kept (h : Fm B T s w N v f) (k : Kept w w' P) (hp : ∀ i, i < N → ∀ g, (v i).v.ownBlock = some g → ¬ P g) : Fm B T s w' N v f := ⟨fun i hi => k.owns (h.o i hi) (hp i hi), h.d⟩
theorem Gr.kept (h : Gr B T s w N v K u G) (k : Kept w w' P) (hp : ∀ i, i < K → ∀ g, (u i).v.ownBlock = some g → ¬ P g) : Gr B T s w' N v K u G := ⟨h.n, fun i hi => k.owns (h.o i hi) (hp i hi), h.d⟩
theorem Fm.keptT (h : Fm B T s w N v f) (k : Kept w w' P) (ht : TyP w P Q) (hq : ¬ Q T) : Fm B T s w' N v f := h.kept k fun i hi => ht.off (h.o i hi) hq
theorem Gr.keptT (h : Gr B T s w N v K u G) (k : Kept w w' P) (ht : TyP w P Q) (hq : ¬ Q T) : Gr B T s w' N v K u G := h.kept k fun i hi => ht.off (h.o i hi) hq
theorem Fm.still (h : Fm B T s w N v f) (hb : Below w.heap.size w w') : Fm B T s w' N v f := h.kept (Kept.ofBelow hb (fun _ => False)) (fun _ _ _ _ => id)
theorem Gr.still (h : Gr B T s w N v K u G) (hb : Below w.heap.size w w') : Gr B T s w' N v K u G := h.kept (Kept.ofBelow hb (fun _ => False)) (fun _ _ _ _ => id)
theorem Fm.congr {f' : Nat → Nat → Value} (h : Fm B T s w N v f) (e : ∀ i, i < N → ∀ j, j < (v i).n * s → f' i j = f i j) : Fm B T s w N v f' := ⟨fun i hi => by rw [rv_congr (e i hi)]; exact h.o i hi, h.d⟩
theorem Fm.lt (h : Fm B T s w N v f) {i : Nat} (hi : i < N) {g : Nat} (hg : (v i).v.ownBlock = some g) : g < w.heap.size ∧ B ≤ g := by
  obtain ⟨hb, cur, hc⟩ := rowc (h.o i hi) hg
  exact ⟨(Array.getElem?_eq_some_iff.1 hc).1, hb⟩
theorem Gr.lt (h : Gr B T s w N v K u G) {i : Nat} (hi : i < K) {g : Nat} (hg : (u i).v.ownBlock = some g) : g < w.heap.size ∧ B ≤ g := by
  obtain ⟨hb, cur, hc⟩ := rowc (h.o i hi) hg
  exact ⟨(Array.getElem?_eq_some_iff.1 hc).1, hb⟩
end
structure St where
  b : Sl
  m : Sl
  o : Sl
  l : Sl
  N : Nat
  M : Nat
  vb : Nat → Sl
  vm : Nat → Sl
  vo : Nat → Sl
  vl : Nat → Sl
structure St.Ok (S : St) (w : World) (B sb : Nat) (fb fo : Nat → Nat → Value) : Prop where
  blk : w.heap[sb]? = some (.cells #[S.b.v, S.m.v, S.o.v, S.l.v] 64 (0, 0))
  ge : B ≤ sb
  rb : w.ownsRow B 35 1 S.b.v S.b.n (rv S.b.n fun i => (S.vb i).v)
  rm : w.ownsRow B 35 1 S.m.v S.m.n (rv S.m.n fun i => (S.vm i).v)
  ro : w.ownsRow B 39 1 S.o.v S.o.n (rv S.o.n fun i => (S.vo i).v)
  rl : w.ownsRow B 39 1 S.l.v S.l.n (rv S.l.n fun i => (S.vl i).v)
  bm : ∀ j, S.b.v.ownBlock = some j → S.m.v.ownBlock ≠ some j
  ol : ∀ j, S.o.v.ownBlock = some j → S.l.v.ownBlock ≠ some j
  fb : Fm B 5 1 w S.N S.vb fb
  fo : Fm B 43 5 w S.M S.vo fo
  gm : Gr B 5 1 w S.N S.vb S.m.n S.vm Gb
  gl : Gr B 43 5 w S.M S.vo S.l.n S.vl Gf
def St.own (S : St) (sb j : Nat) : Prop := j = sb ∨ S.b.v.ownBlock = some j ∨ S.m.v.ownBlock = some j ∨ S.o.v.ownBlock = some j ∨ S.l.v.ownBlock = some j ∨ (∃ i, i < S.N ∧ (S.vb i).v.ownBlock = some j) ∨ (∃ i, i < S.M ∧ (S.vo i).v.ownBlock = some j) ∨ (∃ i, i < S.m.n ∧ (S.vm i).v.ownBlock = some j) ∨ (∃ i, i < S.l.n ∧ (S.vl i).v.ownBlock = some j)
section
variable {S S' : St} {sb : Nat} {fb fo : Nat → Nat → Value} {P Q : Nat → Prop}
theorem St.Ok.lt (h : S.Ok w B sb fb fo) {j : Nat} (hj : S.own sb j) : j < w.heap.size ∧ B ≤ j := by
  have aux : ∀ {t s n : Nat} {v : Value} {l : List Value}, w.ownsRow B t s v n l → v.ownBlock = some j → j < w.heap.size ∧ B ≤ j := fun ho hg => by
    obtain ⟨h1, c, h2⟩ := rowc ho hg; exact ⟨lt_heap h2, h1⟩
  rcases hj with rfl | hj | hj | hj | hj | ⟨i, hi, hj⟩ | ⟨i, hi, hj⟩ | ⟨i, hi, hj⟩ | ⟨i, hi, hj⟩
  · exact ⟨lt_heap h.blk, h.ge⟩
  · exact aux h.rb hj
  · exact aux h.rm hj
  · exact aux h.ro hj
  · exact aux h.rl hj
  · exact aux (h.fb.o i hi) hj
  · exact aux (h.fo.o i hi) hj
  · exact aux (h.gm.o i hi) hj
  · exact aux (h.gl.o i hi) hj
theorem St.Ok.keep (h : S.Ok w B sb fb fo) (k : Kept w w' P) (hp : ∀ j, S.own sb j → ¬ P j) : S.Ok w' B sb fb fo :=
  ⟨k.obj h.blk (hp _ (.inl rfl)), h.ge, k.owns h.rb (fun j hj => hp j (.inr (.inl hj))), k.owns h.rm (fun j hj => hp j (.inr (.inr (.inl hj)))), k.owns h.ro (fun j hj => hp j (.inr (.inr (.inr (.inl hj))))), k.owns h.rl (fun j hj => hp j (.inr (.inr (.inr (.inr (.inl hj)))))), h.bm, h.ol,
   h.fb.kept k (fun i hi g hg => hp g (.inr (.inr (.inr (.inr (.inr (.inl ⟨i, hi, hg⟩))))))), h.fo.kept k (fun i hi g hg => hp g (.inr (.inr (.inr (.inr (.inr (.inr (.inl ⟨i, hi, hg⟩)))))))), h.gm.kept k (fun i hi g hg => hp g (.inr (.inr (.inr (.inr (.inr (.inr (.inr (.inl ⟨i, hi, hg⟩))))))))), h.gl.kept k (fun i hi g hg => hp g (.inr (.inr (.inr (.inr (.inr (.inr (.inr (.inr ⟨i, hi, hg⟩)))))))))⟩
theorem St.Ok.still (h : S.Ok w B sb fb fo) (hb : Below w.heap.size w w') : S.Ok w' B sb fb fo := h.keep (Kept.ofBelow hb (fun _ => False)) (fun _ _ => id)
theorem own_sb {t n : Nat} {v : Value} {l : List Value} (h : w.ownsRow B t s v n l) {C : Array Value} (hb : w.heap[sb]? = some (.cells C 64 (0, 0))) (ht : t ≠ 64) : v.ownBlock ≠ some sb := fun e => by
  obtain ⟨cur, h2⟩ := row_ty h e
  rw [hb] at h2
  simp at h2
  exact ht h2.2.symm
structure Tp (B sb : Nat) (w w' : World) (S S' : St) (fb fo : Nat → Nat → Value) : Prop where
  ok : S'.Ok w' B sb fb fo
  k : Kept w w' (S.own sb)
  p : ∀ j, S'.own sb j → S.own sb j ∨ w.heap.size ≤ j
theorem Tp.refl (h : S.Ok w B sb fb fo) : Tp B sb w w S S fb fo := ⟨h, Kept.refl _ _, fun _ => .inl⟩
theorem Tp.trans {S'' : St} {f1 f2 f3 f4 : Nat → Nat → Value} (h : Tp B sb w w1 S S' f1 f2) (g : Tp B sb w1 w2 S' S'' f3 f4) : Tp B sb w w2 S S'' f3 f4 :=
  ⟨g.ok, h.k.step g.k h.p, fun j hj => (g.p j hj).elim (fun hh => h.p j hh) (fun hh => .inr (Nat.le_trans h.k.size hh))⟩
theorem Tp.still (h : Tp B sb w w1 S S' fb fo) (hb : Below w1.heap.size w1 w2) : Tp B sb w w2 S S' fb fo := h.trans ⟨h.ok.still hb, Kept.ofBelow hb _, fun _ => .inl⟩
theorem tyA {t n : Nat} {v : Value} {l : List Value} (ho : w.ownsRow B t s v n l) {C : Array Value} (hb : w.heap[sb]? = some (.cells C 64 (0, 0))) : TyP w (fun j => v.ownBlock = some j ∨ j = sb) (fun x => x = t ∨ x = 64) := fun j hj => by
  rcases hj with hj | rfl
  · obtain ⟨cur, h1⟩ := row_ty ho hj
    exact ⟨cur, t, .inl rfl, h1⟩
  · exact ⟨C, _, .inr rfl, hb⟩
theorem kA {v x : Value} {i : Nat} (hk : Kept w w1 (fun j => v.ownBlock = some j)) : Kept w (w1.setCell ⟨sb, i, none⟩ x) (fun j => v.ownBlock = some j ∨ j = sb) :=
  (hk.mono fun _ _ h => .inl h).trans (kset w1 sb i x (.inr rfl))
theorem St.Ok.appB {a' : Option Addr} {c' : Nat} (h : S.Ok w B sb fb fo) (ho : w1.ownsRow B 35 1 (.slice a' (S.b.n + 1) c') (S.b.n + 1) (rv S.b.n (fun i => (S.vb i).v) ++ [(S.vb S.b.n).v])) (hk : Kept w w1 (fun j => S.b.v.ownBlock = some j)) (he : (Value.slice a' (S.b.n + 1) c').ownBlock = S.b.v.ownBlock ∨ (Value.slice a' (S.b.n + 1) c').ownBlock = some w.heap.size) : Tp B sb w (w1.setCell ⟨sb, 0, none⟩ (.slice a' (S.b.n + 1) c')) S { S with b := ⟨a', S.b.n + 1, c'⟩ } fb fo := by
  have hb1 : w1.heap[sb]? = some (.cells #[S.b.v, S.m.v, S.o.v, S.l.v] 64 (0, 0)) := hk.obj h.blk (own_sb h.rb h.blk (by decide))
  have k2 : Kept w (w1.setCell ⟨sb, 0, none⟩ (.slice a' (S.b.n + 1) c')) _ := kA hk
  have ty := tyA h.rb h.blk
  refine ⟨⟨blk_set hb1 rfl, h.ge, by show World.ownsRow _ _ _ _ _ _ (rv (S.b.n + 1) _); rw [rv_app]; exact own_set ho (own_sb ho hb1 (by decide)), k2.owns h.rm (fun g hg hp => ?_), ty.keep h.ro (by decide) k2, ty.keep h.rl (by decide) k2, fun j hj e => ?_, h.ol, h.fb.keptT k2 ty (by decide), h.fo.keptT k2 ty (by decide), h.gm.keptT k2 ty (by decide), h.gl.keptT k2 ty (by decide)⟩, k2.mono fun j _ hj => hj.elim (fun e => .inr (.inl e)) (fun e => .inl e), fun j hj => ?_⟩
  · rcases hp with hp | rfl
    · exact h.bm g hp hg
    · exact own_sb h.rm h.blk (by decide) hg
  · rcases he with h1 | h1
    · exact h.bm j (h1 ▸ hj) e
    · have e1 : some w.heap.size = some j := h1 ▸ hj
      have := (h.lt (.inr (.inr (.inl e)))).1
      simp at e1
      omega
  · rcases hj with hj | hj | hj | hj | hj | hj | hj | hj | hj
    · exact .inl (.inl hj)
    · rcases he with h1 | h1
      · exact .inl (.inr (.inl (h1 ▸ hj)))
      · have e1 : some w.heap.size = some j := h1 ▸ hj
        simp at e1
        exact .inr (by omega)
    · exact .inl (.inr (.inr (.inl hj)))
    · exact .inl (.inr (.inr (.inr (.inl hj))))
    · exact .inl (.inr (.inr (.inr (.inr (.inl hj)))))
    · exact .inl (.inr (.inr (.inr (.inr (.inr (.inl hj))))))
    · exact .inl (.inr (.inr (.inr (.inr (.inr (.inr (.inl hj)))))))
    · exact .inl (.inr (.inr (.inr (.inr (.inr (.inr (.inr (.inl hj))))))))
    · exact .inl (.inr (.inr (.inr (.inr (.inr (.inr (.inr (.inr hj))))))))
theorem St.Ok.appO {a' : Option Addr} {c' : Nat} (h : S.Ok w B sb fb fo) (ho : w1.ownsRow B 39 1 (.slice a' (S.o.n + 1) c') (S.o.n + 1) (rv S.o.n (fun i => (S.vo i).v) ++ [(S.vo S.o.n).v])) (hk : Kept w w1 (fun j => S.o.v.ownBlock = some j)) (he : (Value.slice a' (S.o.n + 1) c').ownBlock = S.o.v.ownBlock ∨ (Value.slice a' (S.o.n + 1) c').ownBlock = some w.heap.size) : Tp B sb w (w1.setCell ⟨sb, 2, none⟩ (.slice a' (S.o.n + 1) c')) S { S with o := ⟨a', S.o.n + 1, c'⟩ } fb fo := by
  have hb1 : w1.heap[sb]? = some (.cells #[S.b.v, S.m.v, S.o.v, S.l.v] 64 (0, 0)) := hk.obj h.blk (own_sb h.ro h.blk (by decide))
  have k2 : Kept w (w1.setCell ⟨sb, 2, none⟩ (.slice a' (S.o.n + 1) c')) _ := kA hk
  have ty := tyA h.ro h.blk
  refine ⟨⟨blk_set hb1 rfl, h.ge, ty.keep h.rb (by decide) k2, ty.keep h.rm (by decide) k2, by show World.ownsRow _ _ _ _ _ _ (rv (S.o.n + 1) _); rw [rv_app]; exact own_set ho (own_sb ho hb1 (by decide)), k2.owns h.rl (fun g hg hp => ?_), h.bm, fun j hj e => ?_, h.fb.keptT k2 ty (by decide), h.fo.keptT k2 ty (by decide), h.gm.keptT k2 ty (by decide), h.gl.keptT k2 ty (by decide)⟩, k2.mono fun j _ hj => hj.elim (fun e => .inr (.inr (.inr (.inl e)))) (fun e => .inl e), fun j hj => ?_⟩
  · rcases hp with hp | rfl
    · exact h.ol g hp hg
    · exact own_sb h.rl h.blk (by decide) hg
  · rcases he with h1 | h1
    · exact h.ol j (h1 ▸ hj) e
    · have e1 : some w.heap.size = some j := h1 ▸ hj
      have := (h.lt (.inr (.inr (.inr (.inr (.inl e)))))).1
      simp at e1
      omega
  · rcases hj with hj | hj | hj | hj | hj | hj | hj | hj | hj
    · exact .inl (.inl hj)
    · exact .inl (.inr (.inl hj))
    · exact .inl (.inr (.inr (.inl hj)))
    · rcases he with h1 | h1
      · exact .inl (.inr (.inr (.inr (.inl (h1 ▸ hj)))))
      · have e1 : some w.heap.size = some j := h1 ▸ hj
        simp at e1
        exact .inr (by omega)
    · exact .inl (.inr (.inr (.inr (.inr (.inl hj)))))
    · exact .inl (.inr (.inr (.inr (.inr (.inr (.inl hj))))))
    · exact .inl (.inr (.inr (.inr (.inr (.inr (.inr (.inl hj)))))))
    · exact .inl (.inr (.inr (.inr (.inr (.inr (.inr (.inr (.inl hj))))))))
    · exact .inl (.inr (.inr (.inr (.inr (.inr (.inr (.inr (.inr hj))))))))
def updS (f : Nat → Sl) (i : Nat) (x : Sl) : Nat → Sl := fun j => if j = i then x else f j
theorem updS_same (f : Nat → Sl) (i : Nat) (x : Sl) : updS f i x i = x := by simp [updS]
theorem updS_ne (f : Nat → Sl) {i j : Nat} (x : Sl) (h : j ≠ i) : updS f i x j = f j := by simp [updS, h]
theorem rv_upd (n : Nat) (f : Nat → Sl) (x : Sl) : rv (n + 1) (fun i => (updS f n x i).v) = rv n (fun i => (f i).v) ++ [x.v] := by
  rw [rv_app, updS_same]
  congr 1
  exact rv_congr fun i hi => by rw [updS_ne f x (by omega)]
theorem Gr.snoc {N K : Nat} {v u : Nat → Sl} {G : Nat → Nat → Value} (h : Gr B T s w N v K u G) {x : Sl} (hn : x.n = (v K).n + 64) (ho : w.ownsRow B T s x.v x.n (rv (x.n * s) (G K))) (hd : ∀ j, j < N → K ≠ j → ∀ g, x.v.ownBlock = some g → (v j).v.ownBlock ≠ some g) : Gr B T s w N v (K + 1) (updS u K x) G := by
  refine ⟨fun i hi => ?_, fun i hi => ?_, fun i j hi hj hne g hg => ?_⟩ <;> by_cases e : i = K
  · subst e; rw [updS_same]; exact hn
  · rw [updS_ne u x e]; exact h.n i (by omega)
  · subst e; rw [updS_same]; exact ho
  · rw [updS_ne u x e]; exact h.o i (by omega)
  · subst e; rw [updS_same] at hg; exact hd j hj hne g hg
  · rw [updS_ne u x e] at hg; exact h.d i j (by omega) hj hne g hg
structure Gw (B T s : Nat) (w : World) (N : Nat) (v : Nat → Sl) (K : Nat) (u : Nat → Sl) (G : Nat → Nat → Value) (k : Nat) (x : Sl) : Prop where
  n : x.n = (v K).n + k
  o : w.ownsRow B T s x.v x.n (rv (x.n * s) (G K))
  d : ∀ j, j < N → K ≠ j → ∀ g, x.v.ownBlock = some g → (v j).v.ownBlock ≠ some g
  u : ∀ j, j < K → ∀ g, x.v.ownBlock = some g → (u j).v.ownBlock ≠ some g
  e : (∃ g c, v K = ⟨some ⟨g, 0, none⟩, (v K).n, c⟩ ∧ x = ⟨some ⟨g, 0, none⟩, (v K).n + k, c⟩) ∨ ∀ g, x.v.ownBlock = some g → (v K).v.ownBlock ≠ some g
theorem row_cut {t n m c g : Nat} {xs ys : List Value} (h : w.ownsRow B t s (.slice (some ⟨g, 0, none⟩) (n + m) c) (n + m) (xs ++ ys)) (hx : xs.length = n * s) : w.ownsRow B t s (.slice (some ⟨g, 0, none⟩) n c) n xs := by
  rcases h.2 with ⟨h1, h2⟩ | ⟨g', cap, cur, hv, hB, hg, hnc, hcm, hcs, htk⟩
  · cases h1
  · simp only [Value.slice.injEq, Option.some.injEq, Addr.mk.injEq] at hv
    obtain ⟨⟨rfl, -⟩, -, rfl⟩ := hv
    refine ⟨hx, .inr ⟨g, c, cur, rfl, hB, hg, by omega, hcm, hcs, ?_⟩⟩
    have h3 := congrArg (List.take (n * s)) htk
    rw [List.take_take, show min (n * s) ((n + m) * s) = n * s by rw [Nat.add_mul]; omega, ← hx, List.take_left] at h3
    rw [← hx]
    exact h3
theorem rv_cut (n m : Nat) (f : Nat → Value) : ∃ ys, rv (n + m) f = rv n f ++ ys := ⟨(rv (n + m) f).drop n, by
  rw [← rv_take n (n + m) f (Nat.le_add_right _ _)]; exact (List.take_append_drop _ _).symm⟩
structure ApAt (v v' : Value) (n sz : Nat) : Prop where
  out : (∃ g cap, v = .slice (some ⟨g, 0, none⟩) n cap ∧ v' = .slice (some ⟨g, 0, none⟩) (n + 1) cap) ∨ v'.ownBlock = some sz
theorem Gw.start {N K : Nat} {v u : Nat → Sl} {G : Nat → Nat → Value} (hf : Fm B T s w N v G) (hg : Gr B T s w N v K u G) (hK : K < N) : Gw B T s w N v K u G 0 (v K) := by
  have ho := hf.o K hK
  refine ⟨rfl, ho, fun j hj hne g hg => hf.d K j hK hj hne g hg, fun j hj g h1 h2 => hg.d j K hj hK (by omega) g h2 h1, ?_⟩
  rcases ho.2 with ⟨h1, h2⟩ | ⟨g, cap, cur, hv, _⟩
  · refine .inr fun g hg => ?_
    rw [h1] at hg
    cases hg
  · refine .inl ⟨g, cap, ?_, ?_⟩
    · generalize v K = x at *
      cases x
      simp only [Sl.v, Value.slice.injEq] at hv
      obtain ⟨rfl, -, rfl⟩ := hv
      rfl
    · generalize v K = x at *
      cases x
      simp only [Sl.v, Value.slice.injEq] at hv
      obtain ⟨rfl, -, rfl⟩ := hv
      rfl
theorem Gw.grow {N K k : Nat} {v u : Nat → Sl} {G : Nat → Nat → Value} {x : Sl} {a' : Option Addr} {c' : Nat} (h : Gw B T s w N v K u G k x) (hf : Fm B T s w N v G) (hg : Gr B T s w N v K u G) (hK : K < N)
    (ho : w'.ownsRow B T s (.slice a' (x.n + 1) c') (x.n + 1) (rv ((x.n + 1) * s) (G K))) (hk : Kept w w' (fun j => x.v.ownBlock = some j)) (he : ApAt x.v (.slice a' (x.n + 1) c') x.n w.heap.size) (hold : w'.ownsRow B T s x.v x.n (rv (x.n * s) (G K))) :
    Gw B T s w' N v K u G (k + 1) ⟨a', x.n + 1, c'⟩ ∧ Fm B T s w' N v G ∧ Gr B T s w' N v K u G := by
  have hn := h.n
  have hob : (Value.slice a' (x.n + 1) c').ownBlock = x.v.ownBlock ∨ (Value.slice a' (x.n + 1) c').ownBlock = some w.heap.size := by
    rcases he.out with ⟨g, cap, h1, h2⟩ | h1
    · left; rw [h1, h2]; rfl
    · exact .inr h1
  refine ⟨⟨by show x.n + 1 = _; omega, ho, fun j hj hne g hgb e => ?_, fun j hj g hgb e => ?_, ?_⟩, ⟨fun j hj => ?_, hf.d⟩, hg.kept hk fun j hj g h1 h2 => h.u j hj g h2 h1⟩
  · rcases hob with h1 | h1
    · exact h.d j hj hne g (h1 ▸ hgb) e
    · have e1 : some w.heap.size = some g := h1 ▸ hgb
      have := (hf.lt hj e).1
      simp at e1
      omega
  · rcases hob with h1 | h1
    · exact h.u j hj g (h1 ▸ hgb) e
    · have e1 : some w.heap.size = some g := h1 ▸ hgb
      have := (hg.lt hj e).1
      simp at e1
      omega
  · rcases he.out with ⟨g, cap, h1, h2⟩ | h1
    · rcases h.e with ⟨g', c2, e1, e2⟩ | e1
      · refine .inl ⟨g', c2, e1, ?_⟩
        rw [e2] at h1
        simp only [Sl.v, Value.slice.injEq, Option.some.injEq, Addr.mk.injEq] at h1
        obtain ⟨⟨rfl, -⟩, -, rfl⟩ := h1
        simp only [Value.slice.injEq] at h2
        obtain ⟨rfl, -, rfl⟩ := h2
        rw [hn]
        rfl
      · refine .inr fun q hq e => e1 q ?_ e
        rw [h1]
        rw [show (Sl.v ⟨a', x.n + 1, c'⟩) = Value.slice (some ⟨g, 0, none⟩) (x.n + 1) cap from h2] at hq
        exact hq
    · refine .inr fun q hq e => ?_
      have e1 : some w.heap.size = some q := h1 ▸ hq
      have := (hf.lt hK e).1
      simp at e1
      omega
  · by_cases hjk : K = j
    · subst hjk
      rcases h.e with ⟨g', c2, e1, e2⟩ | e1
      · have h5 := hold
        rw [e2] at h5
        obtain ⟨ys, hys⟩ := rv_cut ((v K).n * s) (k * s) (G K)
        have e3 : rv (((v K).n + k) * s) (G K) = rv ((v K).n * s) (G K) ++ ys := by rw [Nat.add_mul, hys]
        have h6 : w'.ownsRow B T s (.slice (some ⟨g', 0, none⟩) ((v K).n + k) c2) ((v K).n + k) (rv ((v K).n * s) (G K) ++ ys) := by rw [← e3]; exact h5
        have h7 := row_cut h6 (rv_len _ _)
        have e4 : (v K).v = .slice (some ⟨g', 0, none⟩) (v K).n c2 := by rw [e1]; rfl
        rw [e4]
        exact h7
      · exact hk.owns (hf.o K hK) fun g h1 h2 => e1 g h2 h1
    · exact hk.owns (hf.o j hj) fun g h1 h2 => h.d j hj hjk g h2 h1
end
end
end Go.Proofs.Ytnhhjelplmdloaa.Et
namespace Go.Proofs.Ytnhhjelplmdloaa.Et
open Go.RowKit Go.Maps
set_option linter.unusedVariables false
set_option linter.unusedSimpArgs false
set_option maxRecDepth 100000
section
variable {w w' w0 w1 w2 w3 : World} {B T s : Nat} {S S' : St} {sb : Nat} {fb fo : Nat → Nat → Value} {P Q : Nat → Prop}
def updR (f : Nat → Nat → Value) (i p : Nat) (x : Value) : Nat → Nat → Value := fun i' => if i' = i then upv (f i) p x else f i'
theorem updR_at (f : Nat → Nat → Value) (i p : Nat) (x : Value) : updR f i p x i p = x := by simp [updR, upv]
theorem updR_ne (f : Nat → Nat → Value) {i p i' p' : Nat} (x : Value) (h : i' ≠ i ∨ p' ≠ p) : updR f i p x i' p' = f i' p' := by
  unfold updR upv
  by_cases e : i' = i
  · subst e
    rw [if_pos rfl, if_neg (by omega)]
  · rw [if_neg e]
theorem own_stored {t n c g p : Nat} {m : Nat} {f : Nat → Value} (h : w.ownsRow B t s (.slice (some ⟨g, 0, none⟩) n c) n (rv m f)) (x : Value) : (w.setCell ⟨g, p, none⟩ x).ownsRow B t s (.slice (some ⟨g, 0, none⟩) n c) n (rv m (upv f p x)) := by
  rw [← rv_set]
  exact (World.ownsRow.stored h p x).1
theorem Sl.at {x : Sl} {g : Nat} (h : x.a = some ⟨g, 0, none⟩) : x.v = .slice (some ⟨g, 0, none⟩) x.n x.c := by unfold Sl.v; rw [h]
theorem Sl.blk {x : Sl} {g : Nat} (h : x.a = some ⟨g, 0, none⟩) : x.v.ownBlock = some g := by rw [Sl.at h]; rfl
theorem Fm.set {N : Nat} {v : Nat → Sl} {f : Nat → Nat → Value} {i g : Nat} (h : Fm B T s w N v f) (hi : i < N) (hv : (v i).a = some ⟨g, 0, none⟩) (p : Nat) (x : Value) : Fm B T s (w.setCell ⟨g, p, none⟩ x) N v (updR f i p x) := by
  refine ⟨fun j hj => ?_, h.d⟩
  by_cases e : j = i
  · subst e
    have h1 := h.o j hi
    rw [Sl.at hv] at h1 ⊢
    unfold updR
    rw [if_pos rfl]
    exact own_stored h1 x
  · unfold updR
    rw [if_neg e]
    exact own_set (h.o j hj) (fun e2 => h.d i j hi hj (fun e3 => e e3.symm) g (Sl.blk hv) e2)
theorem Gr.off {N K : Nat} {v u : Nat → Sl} {G : Nat → Nat → Value} {i g p : Nat} {x : Value} (h : Gr B T s w N v K u G) (hi : i < N) (hK : K ≤ i) (hv : (v i).a = some ⟨g, 0, none⟩) : Gr B T s (w.setCell ⟨g, p, none⟩ x) N v K u G :=
  h.kept (kset (P := fun j => j = g) w g p x rfl) fun j hj q hq e => h.d j i hj hi (by omega) q hq (by rw [e]; exact Sl.blk hv)
theorem tyS {N : Nat} {v : Nat → Sl} {f : Nat → Nat → Value} {i g : Nat} (h : Fm B T s w N v f) (hi : i < N) (hv : (v i).a = some ⟨g, 0, none⟩) : TyP w (fun j => j = g) (fun x => x = T) := fun j e => by
  subst e
  obtain ⟨cur, h1⟩ := row_ty (h.o i hi) (Sl.blk hv)
  exact ⟨cur, T, rfl, h1⟩
theorem blk_ty {g : Nat} {C : Array Value} {t : Nat} (ht : TyP w (fun j => j = g) (fun x => x = t)) (hb : w.heap[sb]? = some (.cells C 64 (0, 0))) (hn : t ≠ 64) : sb ≠ g := fun e => by
  obtain ⟨cur, t2, e2, h2⟩ := ht sb e
  subst e2
  rw [hb] at h2
  simp at h2
  exact hn h2.2.symm
theorem St.Ok.setB (h : S.Ok w B sb fb fo) {i g : Nat} (hi : i < S.N) (hm : S.m.n ≤ i) (hv : (S.vb i).a = some ⟨g, 0, none⟩) (p : Nat) (x : Value) : Tp B sb w (w.setCell ⟨g, p, none⟩ x) S S (updR fb i p x) fo := by
  have k : Kept w (w.setCell ⟨g, p, none⟩ x) (fun j => j = g) := kset (P := fun j => j = g) w g p x rfl
  have ty := tyS h.fb hi hv
  exact ⟨⟨k.obj h.blk (blk_ty ty h.blk (by decide)), h.ge, ty.keep h.rb (by decide) k, ty.keep h.rm (by decide) k, ty.keep h.ro (by decide) k, ty.keep h.rl (by decide) k, h.bm, h.ol, h.fb.set hi hv p x, h.fo.keptT k ty (by decide), h.gm.off hi hm hv, h.gl.keptT k ty (by decide)⟩, k.mono fun j _ e => by rw [e]; exact .inr (.inr (.inr (.inr (.inr (.inl ⟨i, hi, Sl.blk hv⟩))))), fun j => .inl⟩
theorem St.Ok.setF (h : S.Ok w B sb fb fo) {i g : Nat} (hi : i < S.M) (hm : S.l.n ≤ i) (hv : (S.vo i).a = some ⟨g, 0, none⟩) (p : Nat) (x : Value) : Tp B sb w (w.setCell ⟨g, p, none⟩ x) S S fb (updR fo i p x) := by
  have k : Kept w (w.setCell ⟨g, p, none⟩ x) (fun j => j = g) := kset (P := fun j => j = g) w g p x rfl
  have ty := tyS h.fo hi hv
  exact ⟨⟨k.obj h.blk (blk_ty ty h.blk (by decide)), h.ge, ty.keep h.rb (by decide) k, ty.keep h.rm (by decide) k, ty.keep h.ro (by decide) k, ty.keep h.rl (by decide) k, h.bm, h.ol, h.fb.keptT k ty (by decide), h.fo.set hi hv p x, h.gm.keptT k ty (by decide), h.gl.off hi hm hv⟩, k.mono fun j _ e => by rw [e]; exact .inr (.inr (.inr (.inr (.inr (.inr (.inl ⟨i, hi, Sl.blk hv⟩)))))), fun j => .inl⟩
theorem St.Ok.setF5 (h : S.Ok w B sb fb fo) {i g k : Nat} (hi : i < S.M) (hm : S.l.n ≤ i) (hv : (S.vo i).a = some ⟨g, 0, none⟩) : ∃ fo', Tp B sb w (put5at w g (k * 5) (.int .i64 (-1 - (i : Int))) (.int .i64 (k : Int)) (.int .i64 0) (.int .i64 0) (.slice none 0 0)) S S fb fo' ∧ ∀ i' p, (i' = i ∧ k * 5 ≤ p ∧ p < k * 5 + 5 → fo' i' p = Gf i' p) ∧ (¬ (i' = i ∧ k * 5 ≤ p ∧ p < k * 5 + 5) → fo' i' p = fo i' p) := by
  have t0 := h.setF hi hm hv (k * 5) (.int .i64 (-1 - (i : Int)))
  have t1 := t0.trans (t0.ok.setF hi hm hv (k * 5 + 1) (.int .i64 (k : Int)))
  have t2 := t1.trans (t1.ok.setF hi hm hv (k * 5 + 2) (.int .i64 0))
  have t3 := t2.trans (t2.ok.setF hi hm hv (k * 5 + 3) (.int .i64 0))
  have t4 := t3.trans (t3.ok.setF hi hm hv (k * 5 + 4) (.slice none 0 0))
  refine ⟨_, t4, fun i' p => ⟨fun ⟨e, h1, h2⟩ => ?_, fun hn => ?_⟩⟩
  · subst e
    obtain ⟨q, rfl⟩ : ∃ q, p = k * 5 + q := ⟨p - k * 5, by omega⟩
    have hd : (k * 5 + q) / 5 = k := by omega
    have hq : (k * 5 + q) % 5 = q := by omega
    have hG : Gf i' (k * 5 + q) = (mkF i' k).cs.toList.getD q undef := by unfold Gf; rw [hd, hq]
    rw [hG]
    have hq5 : q < 5 := by omega
    have : q = 0 ∨ q = 1 ∨ q = 2 ∨ q = 3 ∨ q = 4 := by omega
    rcases this with rfl | rfl | rfl | rfl | rfl
    · rw [updR_ne _ _ (.inr (by omega)), updR_ne _ _ (.inr (by omega)), updR_ne _ _ (.inr (by omega)), updR_ne _ _ (.inr (by omega)), Nat.add_zero, updR_at]; rfl
    · rw [updR_ne _ _ (.inr (by omega)), updR_ne _ _ (.inr (by omega)), updR_ne _ _ (.inr (by omega)), updR_at]; rfl
    · rw [updR_ne _ _ (.inr (by omega)), updR_ne _ _ (.inr (by omega)), updR_at]; rfl
    · rw [updR_ne _ _ (.inr (by omega)), updR_at]; rfl
    · rw [updR_at]; rfl
  · rw [updR_ne _ _ (by omega), updR_ne _ _ (by omega), updR_ne _ _ (by omega), updR_ne _ _ (by omega), updR_ne _ _ (by omega)]
theorem St.Ok.growB {k : Nat} {x : Sl} {a' : Option Addr} {c' : Nat} (h : S.Ok w B sb Gb fo) (hg : Gw B 5 1 w S.N S.vb S.m.n S.vm Gb k x) (hK : S.m.n < S.N)
    (ho : w'.ownsRow B 5 1 (.slice a' (x.n + 1) c') (x.n + 1) (rv ((x.n + 1) * 1) (Gb S.m.n))) (hk : Kept w w' (fun j => x.v.ownBlock = some j)) (he : ApAt x.v (.slice a' (x.n + 1) c') x.n w.heap.size) (hold : w'.ownsRow B 5 1 x.v x.n (rv (x.n * 1) (Gb S.m.n))) :
    Gw B 5 1 w' S.N S.vb S.m.n S.vm Gb (k + 1) ⟨a', x.n + 1, c'⟩ ∧ S.Ok w' B sb Gb fo := by
  obtain ⟨h1, h2, h3⟩ := hg.grow h.fb h.gm hK ho hk he hold
  have ty := TyP.own hg.o
  exact ⟨h1, ⟨hk.obj h.blk (own_sb hg.o h.blk (by decide)), h.ge, ty.keep h.rb (by decide) hk, ty.keep h.rm (by decide) hk, ty.keep h.ro (by decide) hk, ty.keep h.rl (by decide) hk, h.bm, h.ol, h2, h.fo.keptT hk ty (by decide), h3, h.gl.keptT hk ty (by decide)⟩⟩
theorem St.Ok.growF {k : Nat} {x : Sl} {a' : Option Addr} {c' : Nat} (h : S.Ok w B sb fb Gf) (hg : Gw B 43 5 w S.M S.vo S.l.n S.vl Gf k x) (hK : S.l.n < S.M)
    (ho : w'.ownsRow B 43 5 (.slice a' (x.n + 1) c') (x.n + 1) (rv ((x.n + 1) * 5) (Gf S.l.n))) (hk : Kept w w' (fun j => x.v.ownBlock = some j)) (he : ApAt x.v (.slice a' (x.n + 1) c') x.n w.heap.size) (hold : w'.ownsRow B 43 5 x.v x.n (rv (x.n * 5) (Gf S.l.n))) :
    Gw B 43 5 w' S.M S.vo S.l.n S.vl Gf (k + 1) ⟨a', x.n + 1, c'⟩ ∧ S.Ok w' B sb fb Gf := by
  obtain ⟨h1, h2, h3⟩ := hg.grow h.fo h.gl hK ho hk he hold
  have ty := TyP.own hg.o
  exact ⟨h1, ⟨hk.obj h.blk (own_sb hg.o h.blk (by decide)), h.ge, ty.keep h.rb (by decide) hk, ty.keep h.rm (by decide) hk, ty.keep h.ro (by decide) hk, ty.keep h.rl (by decide) hk, h.bm, h.ol, h.fb.keptT hk ty (by decide), h2, h.gm.keptT hk ty (by decide), h3⟩⟩
theorem St.Ok.appM {a' : Option Addr} {c' : Nat} {x : Sl} (h : S.Ok w B sb Gb fo) (hg : Gw B 5 1 w S.N S.vb S.m.n S.vm Gb 64 x) (ho : w1.ownsRow B 35 1 (.slice a' (S.m.n + 1) c') (S.m.n + 1) (rv S.m.n (fun i => (S.vm i).v) ++ [x.v])) (hk : Kept w w1 (fun j => S.m.v.ownBlock = some j)) (he : (Value.slice a' (S.m.n + 1) c').ownBlock = S.m.v.ownBlock ∨ (Value.slice a' (S.m.n + 1) c').ownBlock = some w.heap.size) :
    St.Ok { S with m := ⟨a', S.m.n + 1, c'⟩, vm := updS S.vm S.m.n x } (w1.setCell ⟨sb, 1, none⟩ (.slice a' (S.m.n + 1) c')) B sb Gb fo ∧ Kept w (w1.setCell ⟨sb, 1, none⟩ (.slice a' (S.m.n + 1) c')) (S.own sb) ∧ ∀ j, St.own { S with m := ⟨a', S.m.n + 1, c'⟩, vm := updS S.vm S.m.n x } sb j → S.own sb j ∨ w.heap.size ≤ j ∨ x.v.ownBlock = some j := by
  have hb1 : w1.heap[sb]? = some (.cells #[S.b.v, S.m.v, S.o.v, S.l.v] 64 (0, 0)) := hk.obj h.blk (own_sb h.rm h.blk (by decide))
  have k2 : Kept w (w1.setCell ⟨sb, 1, none⟩ (.slice a' (S.m.n + 1) c')) _ := kA hk
  have ty := tyA h.rm h.blk
  refine ⟨⟨blk_set hb1 rfl, h.ge, k2.owns h.rb (fun g hg hp => ?_), by show World.ownsRow _ _ _ _ _ _ (rv (S.m.n + 1) _); rw [rv_upd]; exact own_set ho (own_sb ho hb1 (by decide)), ty.keep h.ro (by decide) k2, ty.keep h.rl (by decide) k2, fun j hj e => ?_, h.ol, h.fb.keptT k2 ty (by decide), h.fo.keptT k2 ty (by decide), (h.gm.keptT k2 ty (by decide)).snoc hg.n (ty.keep hg.o (by decide) k2) hg.d, h.gl.keptT k2 ty (by decide)⟩, k2.mono fun j _ hj => hj.elim (fun e => .inr (.inr (.inl e))) (fun e => .inl e), fun j hj => ?_⟩
  · rcases hp with hp | rfl
    · exact h.bm g hg hp
    · exact own_sb h.rb h.blk (by decide) hg
  · rcases he with h1 | h1
    · exact h.bm j hj (h1 ▸ e)
    · have e1 : some w.heap.size = some j := h1 ▸ e
      have := (h.lt (.inr (.inl hj))).1
      simp at e1
      omega
  · rcases hj with hj | hj | hj | hj | hj | hj | hj | ⟨i, hi, hj⟩ | hj
    · exact .inl (.inl hj)
    · exact .inl (.inr (.inl hj))
    · rcases he with h1 | h1
      · exact .inl (.inr (.inr (.inl (h1 ▸ hj))))
      · have e1 : some w.heap.size = some j := h1 ▸ hj
        simp at e1
        exact .inr (.inl (by omega))
    · exact .inl (.inr (.inr (.inr (.inl hj))))
    · exact .inl (.inr (.inr (.inr (.inr (.inl hj)))))
    · exact .inl (.inr (.inr (.inr (.inr (.inr (.inl hj))))))
    · exact .inl (.inr (.inr (.inr (.inr (.inr (.inr (.inl hj)))))))
    · by_cases e : i = S.m.n
      · subst e
        simp only [updS_same] at hj
        exact .inr (.inr hj)
      · simp only [updS_ne S.vm x e] at hj
        exact .inl (.inr (.inr (.inr (.inr (.inr (.inr (.inr (.inl ⟨i, by simp only at hi; omega, hj⟩))))))))
    · exact .inl (.inr (.inr (.inr (.inr (.inr (.inr (.inr (.inr hj))))))))
theorem St.Ok.appL {a' : Option Addr} {c' : Nat} {x : Sl} (h : S.Ok w B sb fb Gf) (hg : Gw B 43 5 w S.M S.vo S.l.n S.vl Gf 64 x) (ho : w1.ownsRow B 39 1 (.slice a' (S.l.n + 1) c') (S.l.n + 1) (rv S.l.n (fun i => (S.vl i).v) ++ [x.v])) (hk : Kept w w1 (fun j => S.l.v.ownBlock = some j)) (he : (Value.slice a' (S.l.n + 1) c').ownBlock = S.l.v.ownBlock ∨ (Value.slice a' (S.l.n + 1) c').ownBlock = some w.heap.size) :
    St.Ok { S with l := ⟨a', S.l.n + 1, c'⟩, vl := updS S.vl S.l.n x } (w1.setCell ⟨sb, 3, none⟩ (.slice a' (S.l.n + 1) c')) B sb fb Gf ∧ Kept w (w1.setCell ⟨sb, 3, none⟩ (.slice a' (S.l.n + 1) c')) (S.own sb) ∧ ∀ j, St.own { S with l := ⟨a', S.l.n + 1, c'⟩, vl := updS S.vl S.l.n x } sb j → S.own sb j ∨ w.heap.size ≤ j ∨ x.v.ownBlock = some j := by
  have hb1 : w1.heap[sb]? = some (.cells #[S.b.v, S.m.v, S.o.v, S.l.v] 64 (0, 0)) := hk.obj h.blk (own_sb h.rl h.blk (by decide))
  have k2 : Kept w (w1.setCell ⟨sb, 3, none⟩ (.slice a' (S.l.n + 1) c')) _ := kA hk
  have ty := tyA h.rl h.blk
  refine ⟨⟨blk_set hb1 rfl, h.ge, ty.keep h.rb (by decide) k2, ty.keep h.rm (by decide) k2, k2.owns h.ro (fun g hg hp => ?_), by show World.ownsRow _ _ _ _ _ _ (rv (S.l.n + 1) _); rw [rv_upd]; exact own_set ho (own_sb ho hb1 (by decide)), h.bm, fun j hj e => ?_, h.fb.keptT k2 ty (by decide), h.fo.keptT k2 ty (by decide), h.gm.keptT k2 ty (by decide), (h.gl.keptT k2 ty (by decide)).snoc hg.n (ty.keep hg.o (by decide) k2) hg.d⟩, k2.mono fun j _ hj => hj.elim (fun e => .inr (.inr (.inr (.inr (.inl e))))) (fun e => .inl e), fun j hj => ?_⟩
  · rcases hp with hp | rfl
    · exact h.ol g hg hp
    · exact own_sb h.ro h.blk (by decide) hg
  · rcases he with h1 | h1
    · exact h.ol j hj (h1 ▸ e)
    · have e1 : some w.heap.size = some j := h1 ▸ e
      have := (h.lt (.inr (.inr (.inr (.inl hj))))).1
      simp at e1
      omega
  · rcases hj with hj | hj | hj | hj | hj | hj | hj | hj | ⟨i, hi, hj⟩
    · exact .inl (.inl hj)
    · exact .inl (.inr (.inl hj))
    · exact .inl (.inr (.inr (.inl hj)))
    · exact .inl (.inr (.inr (.inr (.inl hj))))
    · rcases he with h1 | h1
      · exact .inl (.inr (.inr (.inr (.inr (.inl (h1 ▸ hj))))))
      · have e1 : some w.heap.size = some j := h1 ▸ hj
        simp at e1
        exact .inr (.inl (by omega))
    · exact .inl (.inr (.inr (.inr (.inr (.inr (.inl hj))))))
    · exact .inl (.inr (.inr (.inr (.inr (.inr (.inr (.inl hj)))))))
    · exact .inl (.inr (.inr (.inr (.inr (.inr (.inr (.inr (.inl hj))))))))
    · by_cases e : i = S.l.n
      · subst e
        simp only [updS_same] at hj
        exact .inr (.inr hj)
      · simp only [updS_ne S.vl x e] at hj
        exact .inl (.inr (.inr (.inr (.inr (.inr (.inr (.inr (.inr ⟨i, by simp only at hi; omega, hj⟩))))))))
structure Ps (B sb : Nat) (w0 : World) (P : Nat → Prop) (w : World) (S : St) (fb fo : Nat → Nat → Value) : Prop where
  ok : S.Ok w B sb fb fo
  k : Kept w0 w P
  p : ∀ j, S.own sb j → P j ∨ w0.heap.size ≤ j
theorem Ps.tp {f1 f2 : Nat → Nat → Value} (h : Ps B sb w0 P w S fb fo) (t : Tp B sb w w' S S' f1 f2) : Ps B sb w0 P w' S' f1 f2 :=
  ⟨t.ok, h.k.step t.k h.p, fun j hj => (t.p j hj).elim (h.p j) (fun hh => .inr (Nat.le_trans h.k.size hh))⟩
theorem Ps.still (h : Ps B sb w0 P w S fb fo) (hb : Below w.heap.size w w') : Ps B sb w0 P w' S fb fo := h.tp ((Tp.refl h.ok).still hb)
theorem Ps.fam {f1 f2 : Nat → Nat → Value} (h : Ps B sb w0 P w S fb fo) (h1 : ∀ i, i < S.N → ∀ j, j < (S.vb i).n * 1 → f1 i j = fb i j) (h2 : ∀ i, i < S.M → ∀ j, j < (S.vo i).n * 5 → f2 i j = fo i j) : Ps B sb w0 P w S f1 f2 :=
  ⟨⟨h.ok.blk, h.ok.ge, h.ok.rb, h.ok.rm, h.ok.ro, h.ok.rl, h.ok.bm, h.ok.ol, h.ok.fb.congr h1, h.ok.fo.congr h2, h.ok.gm, h.ok.gl⟩, h.k, h.p⟩
theorem Ps.grow {x : Sl} (h : Ps B sb w0 P w S fb fo) (hok : S.Ok w' B sb fb fo) (hk : Kept w w' (fun j => x.v.ownBlock = some j)) (hx : ∀ j, x.v.ownBlock = some j → P j ∨ w0.heap.size ≤ j) : Ps B sb w0 P w' S fb fo := ⟨hok, h.k.step hk hx, h.p⟩
theorem Ps.app {x : Sl} (h : Ps B sb w0 P w S fb fo) (ht : S'.Ok w' B sb fb fo ∧ Kept w w' (S.own sb) ∧ ∀ j, S'.own sb j → S.own sb j ∨ w.heap.size ≤ j ∨ x.v.ownBlock = some j) (hx : ∀ j, x.v.ownBlock = some j → P j ∨ w0.heap.size ≤ j) : Ps B sb w0 P w' S' fb fo :=
  ⟨ht.1, h.k.step ht.2.1 h.p, fun j hj => (ht.2.2 j hj).elim (h.p j) (fun hh => hh.elim (fun h1 => .inr (Nat.le_trans h.k.size h1)) (hx j))⟩
end
end Go.Proofs.Ytnhhjelplmdloaa.Et
