import Derived.Test.YtobaooebjgoaiaaV01
namespace Go.Proofs.Ytobaooebjgoaiaa.Hh
open Go.RowKit Go.Maps Mb
set_option linter.unusedVariables false
set_option linter.unusedSimpArgs false
set_option maxRecDepth 100000
section
variable {w w' w1 w2 w3 Z : World} {B T s : Nat} {S S' : St} {hb : Nat} {f f' : Nat → Nat → Nat → Value} {P Q : Nat → Prop}
theorem row_get {t i : Nat} {y : Sl} {f : Nat → Value} (h : w.ownsRow B t 1 y.v y.n (rv y.n f)) (hi : i < y.n) : ∃ g, y.a = some ⟨g, 0, none⟩ ∧ w.cell? ⟨g, i, none⟩ = some (f i) := by
 rcases h.2 with ⟨h1, h2⟩ | ⟨g, cap, cur, hv, _⟩
 ·omega
 ·have e : y.a = some ⟨g, 0, none⟩ ∧ y.c = cap := by
   unfold Sl.v at hv
   simp only [Value.slice.injEq] at hv
   exact ⟨hv.1, hv.2.2⟩
  refine ⟨g, e.1, ?_⟩
  have h2 := h
  rw [Sl.at e.1] at h2
  rw [World.ownsRow.cellAt h2 i (by omega), rv_get f hi]
theorem row_getF {t i s : Nat} {y : Sl} {f : Nat → Value} (h : w.ownsRow B t s y.v y.n (rv (y.n * s) f)) (hi : i < y.n) (hs : 0 < s) : ∃ g, y.a = some ⟨g, 0, none⟩ ∧ (∃ C, w.heap[g]? = some (.cells C t (0, 0)) ∧ (i + 1) * s ≤ C.size) ∧ ∀ q, q < s → w.cell? ⟨g, i * s + q, none⟩ = some (f (i * s + q)) := by
 rcases h.2 with ⟨h1, h2⟩ | ⟨g, cap, cur, hv, hB, hg, hnc, hcm, hcs, htk⟩
 ·omega
 ·have e : y.a = some ⟨g, 0, none⟩ ∧ y.c = cap := by
   unfold Sl.v at hv
   simp only [Value.slice.injEq] at hv
   exact ⟨hv.1, hv.2.2⟩
  have hm : (i + 1) * s ≤ y.n * s := Nat.mul_le_mul_right s hi
  refine ⟨g, e.1, ⟨cur, hg, Nat.le_trans hm (by rw [hcs]; exact Nat.mul_le_mul_right s hnc)⟩, fun q hq => ?_⟩
  have h2 := h
  rw [Sl.at e.1] at h2
  rw [Nat.add_mul, Nat.one_mul] at hm
  rw [World.ownsRow.cellAt h2 (i * s + q) (by omega), rv_get f (by omega)]
theorem St.Ok.setVs {c : Nat} (hc : c < 6) {i g : Nat} (hi : i < S.N c) (hq : (S.q c).n = 0) (hv : (S.v c i).a = some ⟨g, 0, none⟩) : ∀ (L : List Value) (p : Nat) (w : World) (f : Nat → Nat → Nat → Value), S.Ok w B hb f → ∃ f', Tp B hb w (w.setCells g p L) S S f' ∧ (∀ i' j', (i' = i ∧ p ≤ j' ∧ j' < p + L.length → f' c i' j' = L.getD (j' - p) undef) ∧ (¬ (i' = i ∧ p ≤ j' ∧ j' < p + L.length) → f' c i' j' = f c i' j')) ∧ ∀ d, d ≠ c → f' d = f d
 | [], p, w, f, h => ⟨f, Tp.refl h, fun i' j' => ⟨fun e => by simp at e; omega, fun _ => rfl⟩, fun _ _ => rfl⟩
 | x :: L, p, w, f, h => by
  have t1 := h.setV hc hi hq hv p x
  obtain ⟨f', t2, e2, e3⟩ := St.Ok.setVs hc hi hq hv L (p + 1) _ _ t1.ok
  refine ⟨f', t1.trans t2, fun i' j' => ⟨fun e => ?_, fun e => ?_⟩, fun d hd => by rw [e3 d hd, upc_ne _ _ hd]⟩
  ·by_cases hj : j' = p
   ·subst hj
    rw [(e2 i' j').2 (by omega), upc_at, e.1, updR_at, Nat.sub_self]
    rfl
   ·rw [(e2 i' j').1 ⟨e.1, by omega, by simp at e; omega⟩, show j' - p = (j' - (p + 1)) + 1 by omega]
    rfl
  ·simp only [List.length_cons] at e
   rw [(e2 i' j').2 (by omega), upc_at, updR_ne _ _ (by omega)]
structure St.Fit (S : St) : Prop where
 rn : ∀ c, c < 6 → (S.r c).n = S.N c
 N : ∀ c, c < 6 → S.N c ≤ 100000000
 l : ∀ c, c < 6 → ∀ i, i < S.N c → (S.v c i).n ≤ 100000000
structure PsW (B hb : Nat) (w : World) (P : Nat → Prop) (S : St) (c q k : Nat) (Z : World) : Prop where
 out : ∃ f, S.Ok Z B hb f ∧ Kept w Z P ∧ ∀ d, d < 6 → ∀ i, i < S.N d → ∀ j, j < (S.v d i).n * Sz d → (d < c ∨ (d = c ∧ (i < q ∨ (i = q ∧ j < k * Sz d)))) → f d i j = G d i j
 z : ∀ d, d < 6 → (S.q d).n = 0
 p : ∀ j, S.own hb j → P j
section
variable {c q k : Nat}
theorem PsW.cell (h : PsW B hb w P S c q k Z) {d : Nat} (hd : d < 6) : Z.cell? ⟨hb, 2 * d, none⟩ = some (.slice (S.r d).a (S.r d).n (S.r d).c) := by
 obtain ⟨f, h1, -⟩ := h.out
 rw [blk_cell h1.blk]
 have e : d = 0 ∨ d = 1 ∨ d = 2 ∨ d = 3 ∨ d = 4 ∨ d = 5 := by omega
 rcases e with rfl | rfl | rfl | rfl | rfl | rfl <;> rfl
theorem PsW.at (h : PsW B hb w P S c q k Z) {d i : Nat} (hd : d < 6) (hi : i < (S.r d).n) : ∃ g, (S.r d).a = some ⟨g, 0, none⟩ ∧ Z.cell? ⟨g, i, none⟩ = some (S.v d i).v := by
 obtain ⟨f, h1, -⟩ := h.out
 exact row_get (h1.row d hd) hi
theorem PsW.blk (h : PsW B hb w P S c q k Z) {d i j : Nat} (hd : d < 6) (hi : i < S.N d) (hj : j < (S.v d i).n) : ∃ g C, (S.v d i).a = some ⟨g, 0, none⟩ ∧ Z.heap[g]? = some (.cells C (Ty d) (0, 0)) ∧ (j + 1) * Sz d ≤ C.size := by
 obtain ⟨f, h1, -⟩ := h.out
 obtain ⟨g, e1, ⟨C, e2, e3⟩, -⟩ := row_getF ((h1.fam d hd).o i hi) hj (sz_pos d)
 exact ⟨g, C, e1, e2, e3⟩
theorem PsW.still (h : PsW B hb w P S c q k Z) (hz : Below Z.heap.size Z w') : PsW B hb w P S c q k w' := by
 obtain ⟨f, h1, h2, h3⟩ := h.out
 exact ⟨⟨f, h1.still hz, h2.trans (Kept.ofBelow hz _), h3⟩, h.z, h.p⟩
theorem G_at (c i k t : Nat) (ht : t < Sz c) : G c i (k * Sz c + t) = (mrk c i).getD t undef := by
 unfold G
 rw [Nat.add_comm, Nat.add_mul_mod_self_right, Nat.mod_eq_of_lt ht]
theorem PsW.step (h : PsW B hb w P S c q k Z) (hc : c < 6) (hq : q < S.N c) {g : Nat} (hv : (S.v c q).a = some ⟨g, 0, none⟩) : PsW B hb w P S c q (k + 1) (Z.setCells g (k * Sz c) (mrk c q)) := by
 obtain ⟨f, h1, h2, h3⟩ := h.out
 obtain ⟨f', t, e1, e2⟩ := St.Ok.setVs hc hq (h.z c hc) hv (mrk c q) (k * Sz c) Z f h1
 refine ⟨⟨f', t.ok, h2.trans (t.k.mono fun j _ hj => h.p j hj), fun d hd i hi j hj hh => ?_⟩, h.z, h.p⟩
 by_cases ed : d = c
 ·subst ed
  by_cases e3 : i = q ∧ k * Sz d ≤ j ∧ j < k * Sz d + (mrk d q).length
  ·rw [(e1 i j).1 e3, e3.1]
   obtain ⟨t, rfl⟩ : ∃ t, j = k * Sz d + t := ⟨j - k * Sz d, by omega⟩
   have ht : t < Sz d := by have := e3.2.2; rw [mrk_len] at this; omega
   rw [G_at d q k t ht, Nat.add_sub_cancel_left]
  ·rw [(e1 i j).2 e3]
   refine h3 d hd i hi j hj ?_
   rw [mrk_len] at e3
   rcases hh with hh | ⟨_, hh | ⟨hh, hj2⟩⟩
   ·omega
   ·exact .inr ⟨rfl, .inl hh⟩
   ·rw [Nat.add_mul, Nat.one_mul] at hj2
    exact .inr ⟨rfl, .inr ⟨hh, by omega⟩⟩
 ·rw [e2 d ed]
  exact h3 d hd i hi j hj (by omega)
theorem PsW.list (h : PsW B hb w P S c q (S.v c q).n Z) : PsW B hb w P S c (q + 1) 0 Z := by
 obtain ⟨f, h1, h2, h3⟩ := h.out
 refine ⟨⟨f, h1, h2, fun d hd i hi j hj hh => h3 d hd i hi j hj ?_⟩, h.z, h.p⟩
 rcases hh with hh | ⟨rfl, hh | ⟨hh, hj2⟩⟩
 ·exact .inl hh
 ·by_cases e : i = q
  ·subst e; exact .inr ⟨rfl, .inr ⟨rfl, hj⟩⟩
  ·exact .inr ⟨rfl, .inl (by omega)⟩
 ·rw [Nat.zero_mul] at hj2; omega
theorem PsW.fam (h : PsW B hb w P S c (S.N c) 0 Z) : PsW B hb w P S (c + 1) 0 0 Z := by
 obtain ⟨f, h1, h2, h3⟩ := h.out
 refine ⟨⟨f, h1, h2, fun d hd i hi j hj hh => h3 d hd i hi j hj ?_⟩, h.z, h.p⟩
 rcases hh with hh | ⟨rfl, hh | ⟨hh, hj2⟩⟩
 ·by_cases e : d = c
  ·subst e; exact .inr ⟨rfl, .inl hi⟩
  ·exact .inl (by omega)
 ·omega
 ·rw [Nat.zero_mul] at hj2; omega
theorem St.Ok.congr {f' : Nat → Nat → Nat → Value} (h : S.Ok w B hb f) (e : ∀ d, d < 6 → ∀ i, i < S.N d → ∀ j, j < (S.v d i).n * Sz d → f' d i j = f d i j) : S.Ok w B hb f' := ⟨h.blk, h.ge, h.row, h.mor, h.rq, fun d hd => (h.fam d hd).congr (e d hd), h.gro⟩
theorem PsW.done (h : PsW B hb w P S 6 0 0 Z) : S.Ok Z B hb G ∧ Kept w Z P := by
 obtain ⟨f, h1, h2, h3⟩ := h.out
 exact ⟨h1.congr fun d hd i hi j hj => (h3 d hd i hi j hj (.inl hd)).symm, h2⟩
theorem PsW.start (h : S.Ok w B hb f) (hz : ∀ d, d < 6 → (S.q d).n = 0) : PsW B hb w (S.own hb) S 0 0 0 w := ⟨⟨f, h, Kept.refl _ _, fun d hd i hi j hj hh => by rcases hh with hh | ⟨rfl, hh | ⟨hh, hj2⟩⟩ <;> first | omega | (rw [Nat.zero_mul] at hj2; omega)⟩, hz, fun _ => id⟩
end
end
end Go.Proofs.Ytobaooebjgoaiaa.Hh
namespace Go.Proofs.Ytobaooebjgoaiaa.Hh
open Go.RowKit Go.Maps Mb
set_option linter.unusedVariables false
set_option linter.unusedSimpArgs false
set_option maxRecDepth 100000
section
variable {w w' w1 w2 w3 Z Y V : World} {B T s : Nat} {S S' : St} {hb : Nat} {f f' : Nat → Nat → Nat → Value} {P : Nat → Prop} {c k : Nat} {x : Sl} {a' : Option Addr} {c' : Nat}
section
def updS (f : Nat → Sl) (i : Nat) (x : Sl) : Nat → Sl := fun j => if j = i then x else f j
theorem updS_same (f : Nat → Sl) (i : Nat) (x : Sl) : updS f i x i = x := by simp [updS]
theorem updS_ne (f : Nat → Sl) {i j : Nat} (x : Sl) (h : j ≠ i) : updS f i x j = f j := by simp [updS, h]
theorem rv_upd (n : Nat) (f : Nat → Sl) (x : Sl) : rv (n + 1) (fun i => (updS f n x i).v) = rv n (fun i => (f i).v) ++ [x.v] := by
 rw [rv_app, updS_same]
 congr 1
 exact rv_congr fun i hi => by rw [updS_ne f x (by omega)]
theorem Gr.snoc {N K : Nat} {v u : Nat → Sl} {G : Nat → Nat → Value} (h : Gr B T s w N v K u G) {x : Sl} (hn : x.n = (v K).n + 64) (ho : w.ownsRow B T s x.v x.n (rv (x.n * s) (G K))) (hd : ∀ j, j < N → K ≠ j → ∀ g, x.v.ownBlock = some g → (v j).v.ownBlock ≠ some g) : Gr B T s w N v (K + 1) (updS u K x) G := by
 refine ⟨fun i hi => ?_, fun i hi => ?_, fun i j hi hj hne g hg => ?_⟩ <;> by_cases e : i = K
 ·subst e; rw [updS_same]; exact hn
 ·rw [updS_ne u x e]; exact h.n i (by omega)
 ·subst e; rw [updS_same]; exact ho
 ·rw [updS_ne u x e]; exact h.o i (by omega)
 ·subst e; rw [updS_same] at hg; exact hd j hj hne g hg
 ·rw [updS_ne u x e] at hg; exact h.d i j (by omega) hj hne g hg
structure Gw (B T s : Nat) (w : World) (N : Nat) (v : Nat → Sl) (K : Nat) (u : Nat → Sl) (G : Nat → Nat → Value) (k : Nat) (x : Sl) : Prop where
 n : x.n = (v K).n + k
 o : w.ownsRow B T s x.v x.n (rv (x.n * s) (G K))
 d : ∀ j, j < N → K ≠ j → ∀ g, x.v.ownBlock = some g → (v j).v.ownBlock ≠ some g
 u : ∀ j, j < K → ∀ g, x.v.ownBlock = some g → (u j).v.ownBlock ≠ some g
 e : (∃ g c, v K = ⟨some ⟨g, 0, none⟩, (v K).n, c⟩ ∧ x = ⟨some ⟨g, 0, none⟩, (v K).n + k, c⟩) ∨ ∀ g, x.v.ownBlock = some g → (v K).v.ownBlock ≠ some g
theorem row_cut {t n m c g : Nat} {xs ys : List Value} (h : w.ownsRow B t s (.slice (some ⟨g, 0, none⟩) (n + m) c) (n + m) (xs ++ ys)) (hx : xs.length = n * s) : w.ownsRow B t s (.slice (some ⟨g, 0, none⟩) n c) n xs := by
 rcases h.2 with ⟨h1, h2⟩ | ⟨g', cap, cur, hv, hB, hg, hnc, hcm, hcs, htk⟩
 ·cases h1
 ·simp only [Value.slice.injEq, Option.some.injEq, Addr.mk.injEq] at hv
  obtain ⟨⟨rfl, -⟩, -, rfl⟩ := hv
  refine ⟨hx, .inr ⟨g, c, cur, rfl, hB, hg, by omega, hcm, hcs, ?_⟩⟩
  have h3 := congrArg (List.take (n * s)) htk
  rw [List.take_take, show min (n * s) ((n + m) * s) = n * s by rw [Nat.add_mul]; omega, ← hx, List.take_left] at h3
  rw [← hx]
  exact h3
theorem rv_cut (n m : Nat) (f : Nat → Value) : ∃ ys, rv (n + m) f = rv n f ++ ys := ⟨(rv (n + m) f).drop n, by
 rw [← rv_take n (n + m) f (Nat.le_add_right _ _)]; exact (List.take_append_drop _ _).symm⟩
structure ApAt (v v' : Value) (n sz : Nat) : Prop where
 out : (∃ g cap, v = .slice (some ⟨g, 0, none⟩) n cap ∧ v' = .slice (some ⟨g, 0, none⟩) (n + 1) cap) ∨ v'.ownBlock = some sz
theorem Gw.start {N K : Nat} {v u : Nat → Sl} {G : Nat → Nat → Value} (hf : Fm B T s w N v G) (hg : Gr B T s w N v K u G) (hK : K < N) : Gw B T s w N v K u G 0 (v K) := by
 have ho := hf.o K hK
 refine ⟨rfl, ho, fun j hj hne g hg => hf.d K j hK hj hne g hg, fun j hj g h1 h2 => hg.d j K hj hK (by omega) g h2 h1, ?_⟩
 rcases ho.2 with ⟨h1, h2⟩ | ⟨g, cap, cur, hv, _⟩
 ·refine .inr fun g hg => ?_
  rw [h1] at hg
  cases hg
 ·refine .inl ⟨g, cap, ?_, ?_⟩
  ·generalize v K = x at *
   cases x
   simp only [Sl.v, Value.slice.injEq] at hv
   obtain ⟨rfl, -, rfl⟩ := hv
   rfl
  ·generalize v K = x at *
   cases x
   simp only [Sl.v, Value.slice.injEq] at hv
   obtain ⟨rfl, -, rfl⟩ := hv
   rfl
theorem Gw.grow {N K k : Nat} {v u : Nat → Sl} {G : Nat → Nat → Value} {x : Sl} {a' : Option Addr} {c' : Nat} (h : Gw B T s w N v K u G k x) (hf : Fm B T s w N v G) (hg : Gr B T s w N v K u G) (hK : K < N)
  (ho : w'.ownsRow B T s (.slice a' (x.n + 1) c') (x.n + 1) (rv ((x.n + 1) * s) (G K))) (hk : Kept w w' (fun j => x.v.ownBlock = some j)) (he : ApAt x.v (.slice a' (x.n + 1) c') x.n w.heap.size) (hold : w'.ownsRow B T s x.v x.n (rv (x.n * s) (G K))) :
  Gw B T s w' N v K u G (k + 1) ⟨a', x.n + 1, c'⟩ ∧ Fm B T s w' N v G ∧ Gr B T s w' N v K u G := by
 have hn := h.n
 have hob : (Value.slice a' (x.n + 1) c').ownBlock = x.v.ownBlock ∨ (Value.slice a' (x.n + 1) c').ownBlock = some w.heap.size := by
  rcases he.out with ⟨g, cap, h1, h2⟩ | h1
  ·left; rw [h1, h2]; rfl
  ·exact .inr h1
 refine ⟨⟨by show x.n + 1 = _; omega, ho, fun j hj hne g hgb e => ?_, fun j hj g hgb e => ?_, ?_⟩, ⟨fun j hj => ?_, hf.d⟩, hg.kept hk fun j hj g h1 h2 => h.u j hj g h2 h1⟩
 ·rcases hob with h1 | h1
  ·exact h.d j hj hne g (h1 ▸ hgb) e
  ·have e1 : some w.heap.size = some g := h1 ▸ hgb
   have := (hf.lt hj e).1
   simp at e1
   omega
 ·rcases hob with h1 | h1
  ·exact h.u j hj g (h1 ▸ hgb) e
  ·have e1 : some w.heap.size = some g := h1 ▸ hgb
   have := (hg.lt hj e).1
   simp at e1
   omega
 ·rcases he.out with ⟨g, cap, h1, h2⟩ | h1
  ·rcases h.e with ⟨g', c2, e1, e2⟩ | e1
   ·refine .inl ⟨g', c2, e1, ?_⟩
    rw [e2] at h1
    simp only [Sl.v, Value.slice.injEq, Option.some.injEq, Addr.mk.injEq] at h1
    obtain ⟨⟨rfl, -⟩, -, rfl⟩ := h1
    simp only [Value.slice.injEq] at h2
    obtain ⟨rfl, -, rfl⟩ := h2
    rw [hn]
    rfl
   ·refine .inr fun q hq e => e1 q ?_ e
    rw [h1]
    rw [show (Sl.v ⟨a', x.n + 1, c'⟩) = Value.slice (some ⟨g, 0, none⟩) (x.n + 1) cap from h2] at hq
    exact hq
  ·refine .inr fun q hq e => ?_
   have e1 : some w.heap.size = some q := h1 ▸ hq
   have := (hf.lt hK e).1
   simp at e1
   omega
 ·by_cases hjk : K = j
  ·subst hjk
   rcases h.e with ⟨g', c2, e1, e2⟩ | e1
   ·have h5 := hold
    rw [e2] at h5
    obtain ⟨ys, hys⟩ := rv_cut ((v K).n * s) (k * s) (G K)
    have e3 : rv (((v K).n + k) * s) (G K) = rv ((v K).n * s) (G K) ++ ys := by rw [Nat.add_mul, hys]
    have h6 : w'.ownsRow B T s (.slice (some ⟨g', 0, none⟩) ((v K).n + k) c2) ((v K).n + k) (rv ((v K).n * s) (G K) ++ ys) := by rw [← e3]; exact h5
    have h7 := row_cut h6 (rv_len _ _)
    have e4 : (v K).v = .slice (some ⟨g', 0, none⟩) (v K).n c2 := by rw [e1]; rfl
    rw [e4]
    exact h7
   ·exact hk.owns (hf.o K hK) fun g h1 h2 => e1 g h2 h1
  ·exact hk.owns (hf.o j hj) fun g h1 h2 => h.d j hj hjk g h2 h1
end
theorem St.Ok.growX (hc : c < 6) (h : S.Ok w B hb G) (hg : Gw B (Ty c) (Sz c) w (S.N c) (S.v c) (S.q c).n (S.u c) (G c) k x) (hK : (S.q c).n < S.N c)
  (ho : w'.ownsRow B (Ty c) (Sz c) (.slice a' (x.n + 1) c') (x.n + 1) (rv ((x.n + 1) * Sz c) (G c (S.q c).n))) (hk : Kept w w' (fun j => x.v.ownBlock = some j)) (he : ApAt x.v (.slice a' (x.n + 1) c') x.n w.heap.size) (hold : w'.ownsRow B (Ty c) (Sz c) x.v x.n (rv (x.n * Sz c) (G c (S.q c).n))) :
  Gw B (Ty c) (Sz c) w' (S.N c) (S.v c) (S.q c).n (S.u c) (G c) (k + 1) ⟨a', x.n + 1, c'⟩ ∧ S.Ok w' B hb G := by
 obtain ⟨h1, h2, h3⟩ := hg.grow (h.fam c hc) (h.gro c hc) hK ho hk he hold
 have ty := TyP.own hg.o
 refine ⟨h1, ⟨hk.obj h.blk (own_hb hg.o h.blk (ty_h hc).1), h.ge, fun d hd => ty.keep (h.row d hd) (fun e => tye_ne hc hd e.symm) hk, fun d hd => ty.keep (h.mor d hd) (fun e => tye_ne hc hd e.symm) hk, h.rq, fun d hd => ?_, fun d hd => ?_⟩⟩
 ·by_cases e : d = c
  ·subst e; exact h2
  ·exact (h.fam d hd).keptT hk ty (fun e2 => ty_ne hd hc e e2)
 ·by_cases e : d = c
  ·subst e; exact h3
  ·exact (h.gro d hd).keptT hk ty (fun e2 => ty_ne hd hc e e2)
def St.addq (S : St) (c : Nat) (y : Sl) (x : Sl) : St := { S with q := upc S.q c y, u := upc S.u c (updS (S.u c) (S.q c).n x) }
theorem St.Ok.addQ (hc : c < 6) (h : S.Ok w B hb G) (hg : Gw B (Ty c) (Sz c) w (S.N c) (S.v c) (S.q c).n (S.u c) (G c) 64 x) (ho : w1.ownsRow B (Ety c) 1 (.slice a' ((S.q c).n + 1) c') ((S.q c).n + 1) (rv (S.q c).n (fun i => (S.u c i).v) ++ [x.v])) (hk : Kept w w1 (fun j => (S.q c).v.ownBlock = some j)) (he : (Value.slice a' ((S.q c).n + 1) c').ownBlock = (S.q c).v.ownBlock ∨ (Value.slice a' ((S.q c).n + 1) c').ownBlock = some w.heap.size) :
  (S.addq c ⟨a', (S.q c).n + 1, c'⟩ x).Ok (w1.setCell ⟨hb, 2 * c + 1, none⟩ (.slice a' ((S.q c).n + 1) c')) B hb G ∧ Kept w (w1.setCell ⟨hb, 2 * c + 1, none⟩ (.slice a' ((S.q c).n + 1) c')) (S.own hb) ∧ ∀ j, (S.addq c ⟨a', (S.q c).n + 1, c'⟩ x).own hb j → S.own hb j ∨ w.heap.size ≤ j ∨ x.v.ownBlock = some j := by
 have hb1 : w1.heap[hb]? = some (.cells S.cs 40 (0, 0)) := hk.obj h.blk (own_hb (h.mor c hc) h.blk (ty_h hc).2)
 have k2 : Kept w (w1.setCell ⟨hb, 2 * c + 1, none⟩ (.slice a' ((S.q c).n + 1) c')) _ := kA (hb := hb) (i := 2 * c + 1) (x := .slice a' ((S.q c).n + 1) c') hk
 have ty := tyA (h.mor c hc) h.blk
 refine ⟨⟨blk_set hb1 (cs_q S hc ⟨a', (S.q c).n + 1, c'⟩ _), h.ge, fun d hd => ?_, fun d hd => ?_, fun d hd j hj e => ?_, fun d hd => (h.fam d hd).keptT k2 ty (by rintro (e | e); exact tye_ne hd hc e; exact (ty_h hd).1 e), fun d hd => ?_⟩, k2.mono fun j _ hj => hj.elim (fun e => .inr ⟨c, hc, .inr (.inl e)⟩) (fun e => .inl e), fun j hj => ?_⟩
 ·by_cases e : d = c
  ·subst e
   exact k2.owns (h.row d hd) (fun g hg hp => hp.elim (fun e2 => h.rq d hd g hg e2) (fun e2 => own_hb (h.row d hd) h.blk (ty_h hd).2 (e2 ▸ hg)))
  ·exact ty.keep (h.row d hd) (by rintro (e2 | e2); exact ety_ne hd hc e e2; exact (ty_h hd).2 e2) k2
 ·show World.ownsRow _ B (Ety d) 1 (upc S.q c ⟨a', (S.q c).n + 1, c'⟩ d).v (upc S.q c ⟨a', (S.q c).n + 1, c'⟩ d).n (rv (upc S.q c ⟨a', (S.q c).n + 1, c'⟩ d).n fun i => (upc S.u c (updS (S.u c) (S.q c).n x) d i).v)
  by_cases e : d = c
  ·subst e
   rw [upc_at, upc_at]
   show World.ownsRow _ B (Ety d) 1 (Value.slice a' ((S.q d).n + 1) c') ((S.q d).n + 1) (rv ((S.q d).n + 1) fun i => (updS (S.u d) (S.q d).n x i).v)
   rw [rv_upd]
   exact own_set ho (own_hb ho hb1 (ty_h hc).2)
  ·rw [upc_ne _ _ e, upc_ne _ _ e]
   exact ty.keep (h.mor d hd) (by rintro (e2 | e2); exact ety_ne hd hc e e2; exact (ty_h hd).2 e2) k2
 ·have e : (upc S.q c ⟨a', (S.q c).n + 1, c'⟩ d).v.ownBlock = some j := e
  by_cases e1 : d = c
  ·subst e1
   rw [upc_at] at e
   rcases he with h1 | h1
   ·exact h.rq d hd j hj (h1 ▸ e)
   ·have e2 : some w.heap.size = some j := h1 ▸ e
    have := (h.lt (.inr ⟨d, hd, .inl hj⟩)).1
    simp at e2
    omega
  ·rw [upc_ne _ _ e1] at e
   exact h.rq d hd j hj e
 ·show Gr B (Ty d) (Sz d) _ (S.N d) (S.v d) (upc S.q c ⟨a', (S.q c).n + 1, c'⟩ d).n (upc S.u c (updS (S.u c) (S.q c).n x) d) (G d)
  by_cases e : d = c
  ·subst e
   rw [upc_at, upc_at]
   exact ((h.gro d hd).keptT k2 ty (by rintro (e | e); exact tye_ne hd hc e; exact (ty_h hd).1 e)).snoc hg.n (ty.keep hg.o (by rintro (e | e); exact tye_ne hd hc e; exact (ty_h hd).1 e) k2) hg.d
  ·rw [upc_ne _ _ e, upc_ne _ _ e]
   exact (h.gro d hd).keptT k2 ty (by rintro (e2 | e2); exact tye_ne hd hc e2; exact (ty_h hd).1 e2)
 ·rcases hj with hj | ⟨d, hd, hj | hj | hj | ⟨i, hi, hj⟩⟩
  ·exact .inl (.inl hj)
  ·exact .inl (.inr ⟨d, hd, .inl hj⟩)
  ·have hj : (upc S.q c ⟨a', (S.q c).n + 1, c'⟩ d).v.ownBlock = some j := hj
   by_cases e1 : d = c
   ·subst e1
    rw [upc_at] at hj
    rcases he with h1 | h1
    ·exact .inl (.inr ⟨d, hd, .inr (.inl (h1 ▸ hj))⟩)
    ·have e2 : some w.heap.size = some j := h1 ▸ hj
     simp at e2
     exact .inr (.inl (by omega))
   ·rw [upc_ne _ _ e1] at hj
    exact .inl (.inr ⟨d, hd, .inr (.inl hj)⟩)
  ·exact .inl (.inr ⟨d, hd, .inr (.inr (.inl hj))⟩)
  ·have hi : i < (upc S.q c ⟨a', (S.q c).n + 1, c'⟩ d).n := hi
   have hj : (upc S.u c (updS (S.u c) (S.q c).n x) d i).v.ownBlock = some j := hj
   by_cases e1 : d = c
   ·subst e1
    rw [upc_at] at hj hi
    have hi : i < (S.q d).n + 1 := hi
    by_cases e2 : i = (S.q d).n
    ·subst e2
     rw [updS_same] at hj
     exact .inr (.inr hj)
    ·rw [updS_ne _ _ e2] at hj
     exact .inl (.inr ⟨d, hd, .inr (.inr (.inr ⟨i, by omega, hj⟩))⟩)
   ·rw [upc_ne _ _ e1] at hj hi
    exact .inl (.inr ⟨d, hd, .inr (.inr (.inr ⟨i, hi, hj⟩))⟩)
def St.qu (S : St) (Q : Nat → Sl) (U : Nat → Nat → Sl) : St := { S with q := Q, u := U }
structure PsG (B hb : Nat) (w : World) (P : Nat → Prop) (S : St) (c n : Nat) (Q : Nat → Sl) (U : Nat → Nat → Sl) (Z : World) : Prop where
 ok : (S.qu Q U).Ok Z B hb G
 k : Kept w Z P
 p : ∀ j, (S.qu Q U).own hb j → P j ∨ w.heap.size ≤ j
 lo : ∀ d, d < c → (Q d).n = S.N d
 at_ : (Q c).n = n
 hi : ∀ d, d < 6 → c < d → (Q d).n = 0
structure PgG (B hb : Nat) (w : World) (P : Nat → Prop) (S : St) (c n : Nat) (Q : Nat → Sl) (U : Nat → Nat → Sl) (k : Nat) (x : Sl) (Z : World) : Prop where
 p : PsG B hb w P S c n Q U Z
 g : Gw B (Ty c) (Sz c) Z (S.N c) (S.v c) (Q c).n (U c) (G c) k x
 x : ∀ j, x.v.ownBlock = some j → P j ∨ w.heap.size ≤ j
section
variable {n : Nat} {Q : Nat → Sl} {U : Nat → Nat → Sl}
theorem PsG.still (h : PsG B hb w P S c n Q U Z) (hz : Below Z.heap.size Z Y) : PsG B hb w P S c n Q U Y := { h with ok := h.ok.still hz, k := h.k.trans (Kept.ofBelow hz _) }
theorem PgG.still (h : PgG B hb w P S c n Q U k x Z) (hz : Below Z.heap.size Z Y) : PgG B hb w P S c n Q U k x Y := ⟨h.p.still hz, ⟨h.g.n, own_still h.g.o hz, h.g.d, h.g.u, h.g.e⟩, h.x⟩
theorem PgG.start (h : PsG B hb w P S c n Q U Z) (hc : c < 6) (hn : n < S.N c) : PgG B hb w P S c n Q U 0 (S.v c n) Z := by
 have e := h.at_
 have h1 := Gw.start (h.ok.fam c hc) (h.ok.gro c hc) (show ((S.qu Q U).q c).n < (S.qu Q U).N c by show (Q c).n < S.N c; omega)
 refine ⟨h, ?_, fun j hj => h.p j (.inr ⟨c, hc, .inr (.inr (.inl ⟨n, hn, hj⟩))⟩)⟩
 have h2 : Gw B (Ty c) (Sz c) Z (S.N c) (S.v c) (Q c).n (U c) (G c) 0 (S.v c (Q c).n) := h1
 rw [e] at h2 ⊢
 exact h2
theorem PgG.grow {yn yc c1 : Nat} {ya a1 : Option Addr} (h : PgG B hb w P S c n Q U k ⟨ya, yn, yc⟩ V) (hc : c < 6) (hn : n < S.N c)
  (ho : Y.ownsRow B (Ty c) (Sz c) (.slice a1 (yn + 1) c1) (yn + 1) (rv (yn * Sz c) (G c n) ++ mrk c n)) (hk : Kept V Y (fun j => (Value.slice ya yn yc).ownBlock = some j)) (he : ApAt (.slice ya yn yc) (.slice a1 (yn + 1) c1) yn V.heap.size) (hold : Y.ownsRow B (Ty c) (Sz c) (.slice ya yn yc) yn (rv (yn * Sz c) (G c n))) : PgG B hb w P S c n Q U (k + 1) ⟨a1, yn + 1, c1⟩ Y := by
 have e := h.p.at_
 have hr : rv ((yn + 1) * Sz c) (G c n) = rv (yn * Sz c) (G c n) ++ mrk c n := by
  rw [Nat.add_mul, Nat.one_mul]
  refine rv_appL (yn * Sz c) (Sz c) (G c n) _ (mrk_len c n) fun q hq => ?_
  rw [G_at c n yn q hq]
  have hq' : q < (mrk c n).length := by rw [mrk_len]; exact hq
  simp [List.getD, List.getElem?_eq_getElem hq']
 have hg := h.g
 rw [e] at hg
 have hg' : Gw B (Ty c) (Sz c) V ((S.qu Q U).N c) ((S.qu Q U).v c) ((S.qu Q U).q c).n ((S.qu Q U).u c) (G c) k ⟨ya, yn, yc⟩ := by
  show Gw B (Ty c) (Sz c) V (S.N c) (S.v c) (Q c).n (U c) (G c) k ⟨ya, yn, yc⟩
  rw [e]; exact hg
 have eq1 : ((S.qu Q U).q c).n = n := e
 obtain ⟨g2, ok2⟩ := h.p.ok.growX hc (x := ⟨ya, yn, yc⟩) (a' := a1) (c' := c1) hg' (by rw [eq1]; exact hn) (by rw [eq1, hr]; exact ho) hk he (by rw [eq1]; exact hold)
 refine ⟨{ h.p with ok := ok2, k := h.p.k.step hk (fun j hj => h.x j hj) }, g2, fun j hj => ?_⟩
 rcases he.out with ⟨g, cap, e1, e2⟩ | e1
 ·have e3 : (Sl.v ⟨a1, yn + 1, c1⟩).ownBlock = (Sl.v ⟨ya, yn, yc⟩).ownBlock := by
   show (Value.slice a1 (yn + 1) c1).ownBlock = (Value.slice ya yn yc).ownBlock
   rw [e1, e2]; rfl
  exact h.x j (e3 ▸ hj)
 ·have e3 : some V.heap.size = some j := e1 ▸ hj
  simp at e3
  have := h.p.k.size
  exact .inr (by omega)
theorem PgG.done {x : Sl} {c1 : Nat} {a1 : Option Addr} (h : PgG B hb w P S c n Q U 64 x V) (hc : c < 6)
  (ho : Y.ownsRow B (Ety c) 1 (.slice a1 (n + 1) c1) (n + 1) (rv n (fun i => (U c i).v) ++ [x.v])) (hk : Kept V Y (fun j => (Q c).v.ownBlock = some j)) (he : (Value.slice a1 (n + 1) c1).ownBlock = (Q c).v.ownBlock ∨ (Value.slice a1 (n + 1) c1).ownBlock = some V.heap.size) : ∃ Q' U', PsG B hb w P S c (n + 1) Q' U' (Y.setCell ⟨hb, 2 * c + 1, none⟩ (.slice a1 (n + 1) c1)) := by
 have e := h.p.at_
 have eq1 : ((S.qu Q U).q c).n = n := e
 obtain ⟨t1, t2, t3⟩ := h.p.ok.addQ hc (x := x) (a' := a1) (c' := c1) h.g (by rw [eq1]; exact ho) hk (by rw [eq1]; exact he)
 rw [eq1] at t1 t2 t3
 refine ⟨upc Q c ⟨a1, n + 1, c1⟩, upc U c (updS (U c) n x), ⟨?_, h.p.k.step t2 (fun j hj => h.p.p j hj), fun j hj => ?_, fun d hd => ?_, ?_, fun d hd hcd => ?_⟩⟩
 ·have t4 := t1
  unfold St.addq at t4
  rw [eq1] at t4
  exact t4
 ·have t5 := t3 j (by unfold St.addq; rw [eq1]; exact hj)
  rcases t5 with t5 | t5 | t5
  ·exact h.p.p j t5
  ·exact .inr (Nat.le_trans h.p.k.size t5)
  ·exact h.x j t5
 ·rw [upc_ne _ _ (by omega)]; exact h.p.lo d hd
 ·rw [upc_at]
 ·rw [upc_ne _ _ (by omega)]; exact h.p.hi d hd hcd
theorem PsG.next (h : PsG B hb w P S c (S.N c) Q U Z) (hc : c + 1 < 6) : PsG B hb w P S (c + 1) 0 Q U Z := ⟨h.ok, h.k, h.p, fun d hd => by
 by_cases e : d = c
 ·subst e; exact h.at_
 ·exact h.lo d (by omega), h.hi (c + 1) hc (by omega), fun d hd hcd => h.hi d hd (by omega)⟩
end
end
end Go.Proofs.Ytobaooebjgoaiaa.Hh
