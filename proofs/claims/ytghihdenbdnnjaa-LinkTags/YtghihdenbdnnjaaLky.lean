import Derived.Test.YtghihdenbdnnjaaLkv
namespace Go.Proofs.Ytghihdenbdnnjaa.Ln
open Go.RowKit Mb
set_option linter.unusedVariables false
set_option maxRecDepth 100000
set_option linter.unusedSimpArgs false
section
variable {w w' W : World} {B : Nat} {X X' : Wr}
theorem Wr.Ok.grow2 {w1 : World} {N : Nat → Prop} (h : X.Ok w B) {i : Nat} (h4 : 4 ≤ i) (h12 : i < 12) {v' : Value} (hv : X'.v = upd X.v i v') (hb : X'.b = X.b) (hm : X'.m = X.m) (he : X'.e = X.e) (hw : X'.win = X.win) (hsp : X'.space = X.space)
    (hrow : w1.ownsRow B (rowT i) (rowS i) v' (X'.rowN i) (X'.rowC i)) (hN : ∀ j, 4 ≤ j → j < 12 → j ≠ i → X'.rowN j = X.rowN j ∧ X'.rowC j = X.rowC j) (k : Kept w w1 (fun q => (X.v i).ownBlock = some q)) (hnew : ∀ q, v'.ownBlock = some q → (X.v i).ownBlock = some q ∨ w.heap.size ≤ q)
    (hen : ∀ y, X'.ents y → X.ents y ∨ (y.Ok w1 B ∧ N y.k) ∧ ¬ (X.m 0).own y.k ∧ ¬ (X.m 1).own y.k) : X'.Ok (w1.setCell ⟨X.b, i, none⟩ v') B ∧ Kept w (w1.setCell ⟨X.b, i, none⟩ v') (fun q => q = X.b ∨ (X.v i).ownBlock = some q) ∧ (∀ j, X'.own j → X.own j ∨ w.heap.size ≤ j ∨ N j) := by
  have k2 : Kept w1 (w1.setCell ⟨X.b, i, none⟩ v') (fun j => j = X.b) := kset _ _ _ _ rfl
  have hbk : w1.heap[X.b]? = some (.cells X.cs 42 (0, 0)) := k.obj h.blk (fun e => h.row_b h4 h12 e rfl)
  have hbk1 : ∀ q, v'.ownBlock = some q → q ≠ X.b := fun q hq e => by
    rcases hnew q hq with h1 | h1
    · exact h.row_b h4 h12 h1 e
    · have := lt_heap h.blk; omega
  have hcs : X.cs.setIfInBounds i v' = X'.cs := by
    have : i = 4 ∨ i = 5 ∨ i = 6 ∨ i = 7 ∨ i = 8 ∨ i = 9 ∨ i = 10 ∨ i = 11 := by omega
    unfold Wr.cs
    rw [hv, hm, hw, hsp]
    rcases this with rfl | rfl | rfl | rfl | rfl | rfl | rfl | rfl <;> simp [upd]
  refine ⟨⟨?_, ?_, fun s hs => ?_, ?_, ?_, ?_, fun j j4 j12 => ?_, fun a b a4 a12 b4 b12 hab q hqa hqb => ?_, fun y hy => ?_, ?_, by rw [hm]; exact h.sf⟩, ?_, ?_⟩
  · rw [hb]; exact blk_set hbk hcs
  · rw [hb]; exact h.lo
  · rw [hm]
    refine ((h.mo s hs).keep k fun j hj e => h.row_m h4 h12 hs e hj).keep k2 fun j hj e => h.b_m hs (by rw [← e]; exact hj)
  · rw [hm, he]; exact h.me
  · rw [hm, hw, hsp]; exact h.mt
  · rw [hm]; exact h.ap
  · by_cases e : j = i
    · subst e
      rw [hv, upd_same]
      exact k2.owns hrow fun g hg e => hbk1 g hg e
    · rw [hv, upd_ne _ _ e, (hN j j4 j12 e).1, (hN j j4 j12 e).2]
      exact k2.owns (k.owns (h.row j j4 j12) fun g hg e2 => h.rr i j h4 h12 j4 j12 (fun e3 => e e3.symm) g e2 hg) fun g hg e2 => h.row_b j4 j12 hg e2
  · rw [hv] at hqa hqb
    by_cases e1 : a = i
    · have e2 : b ≠ i := fun e2 => hab (by rw [e1, e2])
      rw [e1, upd_same] at hqa
      rw [upd_ne _ _ e2] at hqb
      rcases hnew q hqa with h1 | h1
      · exact h.rr i b h4 h12 b4 b12 (fun e3 => e2 e3.symm) q h1 hqb
      · have := h.lt (own_r b4 b12 hqb); omega
    · rw [upd_ne _ _ e1] at hqa
      by_cases e2 : b = i
      · rw [e2, upd_same] at hqb
        rcases hnew q hqb with h1 | h1
        · exact h.rr a i a4 a12 h4 h12 e1 q hqa h1
        · have := h.lt (own_r a4 a12 hqa); omega
      · rw [upd_ne _ _ e2] at hqb
        exact h.rr a b a4 a12 b4 b12 hab q hqa hqb
  · rw [hm]
    rcases hen y hy with h1 | ⟨h1, h2, h3⟩
    · exact ⟨((h.en y h1).1.keep k fun e => h.row_e h4 h12 e h1 rfl).keep k2 fun e => h.b_e h1 e.symm, (h.en y h1).2⟩
    · have hy1 : y.Ok w1 B := h1.1
      have : y.k ≠ X.b := fun e => by
        obtain ⟨C, hC, _⟩ := hy1.blk
        exact blk_ne hbk hC (by decide) e.symm
      exact ⟨hy1.keep k2 this, h2, h3⟩
  · rw [hw, hsp]; exact h.w1
  · exact (k.mono fun j _ hj => .inr hj).trans (k2.mono fun j _ hj => .inl hj)
  · rintro j (hj | ⟨r, r4, r12, hk⟩ | hj | hj | ⟨y, hy, rfl⟩)
    · exact .inl (.inl (hj.trans hb))
    · rw [hv] at hk
      by_cases e : r = i
      · rw [e, upd_same] at hk
        exact (hnew j hk).imp (fun h1 => own_r h4 h12 h1) .inl
      · rw [upd_ne _ _ e] at hk
        exact .inl (own_r r4 r12 hk)
    · rw [hm] at hj; exact .inl (own_m (s := 0) (by omega) hj)
    · rw [hm] at hj; exact .inl (own_m (s := 1) (by omega) hj)
    · rcases hen y hy with h1 | ⟨h1, _⟩
      · exact .inl (.inr (.inr (.inr (.inr ⟨y, h1, rfl⟩))))
      · exact .inr (.inr h1.2)
def bnO (b : Bd) : Bn := ⟨b.k, b.bs.length, b.bs⟩
def Wr.addO (X : Wr) (s : Nat) (v : Value) (y : Bn) : Wr := { X with v := upd X.v (6 + s) v, o := upd X.o s (X.o s ++ [y]) }
theorem addO_step {D w6 : World} {N : Nat → Prop} (h : X.Ok D B) {s : Nat} (hs : s < 2) {y : Bn} (hy : y.Ok D B) (hN : N y.k) (hy0 : ¬ (X.m 0).own y.k) (hy1 : ¬ (X.m 1).own y.k) {g cap n : Nat} (hn : n = (X.o s).length) (hrow : w6.ownsRow B 25 1 (.slice (some ⟨g, 0, none⟩) (n + 1) cap) (n + 1) ((X.o s).map Bn.v ++ [y.v])) (k : Kept D w6 (fun q => (X.v (6 + s)).ownBlock = some q)) (hl : (X.v (6 + s)).ownBlock = some g ∨ D.heap.size ≤ g) : (X.addO s (.slice (some ⟨g, 0, none⟩) (n + 1) cap) y).Ok (w6.setCell ⟨X.b, 6 + s, none⟩ (.slice (some ⟨g, 0, none⟩) (n + 1) cap)) B ∧ Kept D (w6.setCell ⟨X.b, 6 + s, none⟩ (.slice (some ⟨g, 0, none⟩) (n + 1) cap)) (fun q => q = X.b ∨ (X.v (6 + s)).ownBlock = some q) ∧ (∀ j, (X.addO s (.slice (some ⟨g, 0, none⟩) (n + 1) cap) y).own j → X.own j ∨ D.heap.size ≤ j ∨ N j) := by
  subst hn
  have hyk : ¬ (X.v (6 + s)).ownBlock = some y.k := fun e => by
    obtain ⟨C, hC⟩ := h.rowB (i := 6 + s) (by omega) (by omega) e
    obtain ⟨C', hC', _⟩ := hy.blk
    exact blk_ne hC hC' (rowT_ne _).2.1 rfl
  refine h.grow2 (i := 6 + s) (by omega) (by omega) rfl rfl rfl rfl rfl rfl ?_ (fun j j4 j12 hj => ?_) k (fun q hq => ?_) (fun z hz => ?_)
  · have e1 : rowT (6 + s) = 25 := by unfold rowT; rw [if_pos (by omega)]
    have e2 : rowS (6 + s) = 1 := by unfold rowS; rw [if_pos (by omega)]
    have e3 : (X.addO s (.slice (some ⟨g, 0, none⟩) ((X.o s).length + 1) cap) y).rowN (6 + s) = (X.o s).length + 1 := by unfold Wr.rowN Wr.addO; rw [if_neg (by omega), if_pos (by omega), Nat.add_sub_cancel_left]; show (upd X.o s _ s).length = _; rw [upd_same]; simp
    have e4 : (X.addO s (.slice (some ⟨g, 0, none⟩) ((X.o s).length + 1) cap) y).rowC (6 + s) = (X.o s).map Bn.v ++ [y.v] := by unfold Wr.rowC Wr.addO; rw [if_neg (by omega), if_pos (by omega), Nat.add_sub_cancel_left]; show (upd X.o s _ s).map Bn.v = _; rw [upd_same]; simp
    rw [e1, e2, e3, e4]; exact hrow
  · unfold Wr.rowN Wr.rowC Wr.addO
    by_cases c1 : j < 6
    · simp only [c1, if_true]; exact ⟨trivial, trivial⟩
    · by_cases c2 : j < 8
      · simp only [c1, c2, if_true, if_false]; rw [upd_ne _ _ (show j - 6 ≠ s by omega)]; exact ⟨rfl, rfl⟩
      · simp only [c1, c2, if_false]; exact ⟨trivial, trivial⟩
  · simp [Value.ownBlock] at hq
    subst hq
    exact hl
  · obtain ⟨t, ht, hz⟩ := hz
    simp only [Wr.addO] at hz
    rcases hz with hz | hz | hz
    · exact .inl ⟨t, ht, .inl hz⟩
    · by_cases e : t = s
      · subst e
        rw [upd_same] at hz
        rcases List.mem_append.1 hz with hz | hz
        · exact .inl ⟨t, ht, .inr (.inl hz)⟩
        · simp at hz; subst hz
          exact .inr ⟨⟨hy.keep k hyk, hN⟩, hy0, hy1⟩
      · rw [upd_ne _ _ e] at hz; exact .inl ⟨t, ht, .inr (.inl hz)⟩
    · exact .inl ⟨t, ht, .inr (.inr hz)⟩
theorem addO_pu (X : Wr) (s : Nat) (v : Value) (y : Bn) : (X.addO s v y).pu = { X.pu with o := upd X.pu.o s (X.pu.o s ++ [y.bs]) } := by
  unfold Wr.addO Wr.pu
  simp only [upd_comp (fun l : List Bn => l.map Bn.bs), List.map_append, List.map_cons, List.map_nil]
theorem hbN {w3 w' : World} (k : Nat) (e1 : En) (h3 : X.Ok w3 B) {s t : Nat} (hs : s < 2) (ht : t = 1 - s) (hst : Estep w3 w' B (X.m t).win (X.m t).room (X.e t) e1) (hm : (X.m t).own k ∨ w3.heap.size ≤ k) (hne : ¬ e1.own k) (hk' : (X.e t).own k ∨ w3.heap.size ≤ k) (j : Nat) (hj : j < 2) : ¬ ((X.setE t e1).m j).own k := by
  have ht2 : t < 2 := by omega
  by_cases e : j = t
  · subst e
    simp only [Wr.setE, upd_same]
    rintro (e2 | e2 | ⟨q, f, hf, hjk⟩)
    · have e2' : k = (X.m j).b := e2
      rcases hk' with h1 | h1
      · exact ((h3.mo j hj).ne_e (h3.me j hj)).1 (by rw [← e2']; exact h1)
      · have := lt_heap (h3.mo j hj).blk; omega
    · have e2' : k = (X.m j).br := e2
      rcases hk' with h1 | h1
      · exact ((h3.mo j hj).ne_e (h3.me j hj)).2 (by rw [← e2']; exact h1)
      · have := (h3.mo j hj).row.lt; omega
    · by_cases e3 : q = pid (1 - j)
      · subst e3
        simp only [Mx.put, upd_same, Option.some.injEq] at hf
        subst hf
        exact hne hjk
      · simp only [Mx.put, upd_ne _ _ e3] at hf
        rcases hk' with h1 | h1
        · exact (h3.mo j hj).ap _ _ _ _ e3 hf (h3.me j hj) k hjk h1
        · have := ((h3.mo j hj).el _ _ hf).lt hjk; omega
  · simp only [Wr.setE, upd_ne _ _ e]
    intro hjk
    rcases hm with h1 | h1
    · have : (j = 0 ∧ t = 1) ∨ (j = 1 ∧ t = 0) := by omega
      rcases this with ⟨rfl, rfl⟩ | ⟨rfl, rfl⟩
      · exact h3.ap k hjk h1
      · exact h3.ap k h1 hjk
    · have := (h3.mo j hj).lt hjk; omega
structure CaS (w1 wr : World) (X : Wr) (B t i : Nat) (bl : List Bd) (Xi : Wr) : Prop where
  ok : Xi.Ok wr B
  kept : Kept w1 wr X.own
  own : ∀ j, Xi.own j → X.own j ∨ w1.heap.size ≤ j ∨ ∃ b ∈ bl, j = b.k
  b : Xi.b = X.b
  m : Xi.m = X.m
  e : Xi.e = X.e
  p : Xi.p = X.p
  vp : ∀ j, j < 6 → Xi.v j = X.v j
  o : Xi.o t = X.o t ++ (bl.take i).map bnO
  pu : Xi.pu = { X.pu with o := upd X.pu.o t (X.pu.o t ++ (bl.take i).map Bd.bs) }
  rb : ∀ q, (Xi.v (6 + t)).ownBlock = some q → X.own q ∨ w1.heap.size ≤ q
theorem CaS.next {w1 wr w7 : World} {t i : Nat} {bl : List Bd} {Xi : Wr} {v : Value} (h : CaS w1 wr X B t i bl Xi) {D : World} (hb : Below wr.heap.size wr D) {b : Bd} (hbi : bl[i]? = some b) (h7 : (Xi.addO t v (bnO b)).Ok w7 B) (k7 : Kept D w7 (fun q => q = Xi.b ∨ (Xi.v (6 + t)).ownBlock = some q)) (o7 : ∀ j, (Xi.addO t v (bnO b)).own j → Xi.own j ∨ D.heap.size ≤ j ∨ j = b.k) (hv : ∀ q, v.ownBlock = some q → (Xi.v (6 + t)).ownBlock = some q ∨ D.heap.size ≤ q) : CaS w1 w7 X B t (i + 1) bl (Xi.addO t v (bnO b)) := by
  have hs1 := h.kept.size
  have hs2 := hb.size
  have hk : bl.take (i + 1) = bl.take i ++ [b] := by rw [List.take_add_one, hbi]; rfl
  refine ⟨h7, (h.kept.trans (Kept.ofBelow hb _)).step k7 (fun j hj => ?_), fun j hj => ?_, h.b, h.m, h.e, h.p, fun j hj => ?_, ?_, ?_, fun q hq => ?_⟩
  · rcases hj with e | e
    · exact .inl (.inl (e.trans h.b))
    · exact h.rb j e
  · rcases o7 j hj with h1 | h1 | h1
    · exact h.own j h1
    · exact .inr (.inl (by omega))
    · exact .inr (.inr ⟨b, List.mem_of_getElem? hbi, h1⟩)
  · show upd Xi.v (6 + t) v j = _; rw [upd_ne _ _ (by omega)]; exact h.vp j hj
  · show upd Xi.o t (Xi.o t ++ [bnO b]) t = _; rw [upd_same, h.o, hk, List.map_append, List.append_assoc]; rfl
  · rw [addO_pu, h.pu]; simp only [upd_same, upd_twice, hk, List.map_append, List.append_assoc]; rfl
  · have hq' : (upd Xi.v (6 + t) v (6 + t)).ownBlock = some q := hq
    rw [upd_same] at hq'
    rcases hv q hq' with h1 | h1
    · exact h.rb q h1
    · right; omega
structure CrO (w wx : World) (X : Wr) (B t : Nat) (x : Nat × List Int) (X1 : Wr) (bl : List Bd) (la : Option Addr) (lc : Nat) : Prop where
  st : Xstep w wx X X1 B
  pu : { X1.pu with o := upd X1.pu.o t (X1.pu.o t ++ bl.map Bd.bs) } = X.pu.take t x
  bd : ∀ b ∈ bl, Body wx B b ∧ ¬ X1.own b.k ∧ (X.own b.k ∨ w.heap.size ≤ b.k)
  row : wx.ownsRow w.heap.size 25 1 (.slice la bl.length lc) bl.length (bl.map Bd.v)
  p : X1.p = X.p
  v : X1.v = X.v
  o : X1.o = X.o
  mb : ∀ j, (X1.m j).b = (X.m j).b
theorem CrO.rown {wx : World} {t : Nat} {x : Nat × List Int} {X1 : Wr} {bl : List Bd} {la : Option Addr} {lc : Nat} (h : CrO w wx X B t x X1 bl la lc) (hX : X.Ok w B) {g : Nat} (hg : (Value.slice la bl.length lc).ownBlock = some g) : ¬ X1.own g := by
  obtain ⟨C, hC⟩ := own_ty h.row hg
  have hlo := (World.ownsRow.lt h.row g hg).1
  have hok := h.st.ok
  rintro (e | ⟨i, h4, h12, hk⟩ | hj | hj | ⟨y, hy, e⟩)
  · exact blk_ne hC (by rw [e]; exact hok.blk) (by decide) rfl
  · rw [h.v] at hk
    have := hX.lt (own_r h4 h12 hk); omega
  · exact (hok.mo 0 (by omega)).ne_t hC (by decide) (by decide) (by decide) (by decide) (by decide) hj
  · exact (hok.mo 1 (by omega)).ne_t hC (by decide) (by decide) (by decide) (by decide) (by decide) hj
  · obtain ⟨C', hC', _⟩ := (hok.en y hy).1.blk
    exact blk_ne hC (by rw [e]; exact hC') (by decide) rfl
structure TkO (w w3 w' : World) (X : Wr) (B t : Nat) (x : Nat × List Int) (e : Ending) : Prop where
  out : ∃ X1 bl la lc, e = .returned (.tuple #[.slice la bl.length lc, .int .i64 0]) ∧ CrO w w' X B t x X1 bl la lc
  kept : Kept w3 w' X.own
  cm : ∀ s, s < 2 → w'.cell? ⟨X.b, s, none⟩ = some (.pointer (some ⟨(X.m s).b, 0, none⟩))
theorem setE_cm {e' : En} {t : Nat} (h : (X.setE t e').Ok w' B) (s : Nat) (hs : s < 2) : w'.cell? ⟨X.b, s, none⟩ = some (.pointer (some ⟨(X.m s).b, 0, none⟩)) := by
  have e2 := h.cm hs
  rw [setE_b] at e2
  exact e2
theorem tk_any {w3 : World} (h : X.Ok w B) (hI : X.pu.Inv) (hB : B ≤ w.heap.size) {s t : Nat} (hs : s < 2) (ht : t = 1 - s) (hb : Below w.heap.size w w3) {x : Nat × List Int} (hx : x ∈ X.pu.f s) {y1 : Bn} (hy : y1.bs = x.2) (hok : y1.Ok w3 w.heap.size) (hsT : (X.e s).sent ≤ 1000) : Calls Try.prog 14 #[.pointer (some ⟨(X.m t).b, 0, none⟩), .int .i64 (2 + 3 * (s : Int)), .agg #[.int .i64 3, .int .i64 2, .int .i64 4, .int .i64 9, .int .i64 (x.1 : Int), .slice (some ⟨y1.k, 0, none⟩) x.2.length y1.c]] w3 fun e w' => TkO w w3 w' X B t x e := by
  have h3 := h.still hb
  have ht2 : t < 2 := by omega
  have hIs := hI s hs
  rw [← ht] at hIs
  have fr := hIs.fr x hx
  have hxm : x.2 ∈ X.pu.p s := List.mem_of_getElem? fr.2.1
  have hln := hIs.len _ hxm
  have mt := h3.mt t ht2
  have hq := qat2 h3 hs ht
  have hx1 : x.1 ≤ (X.e t).i.p + (X.m t).win := by
    have a1 : x.1 ≤ (X.e s).o.p + X.win := fr.2.2
    have a2 : (X.e s).o.p ≤ (X.e t).i.p := hIs.op
    rw [mt.2.1]; omega
  have hsz : x.1 ≤ 4611686018427387904 := by
    have a1 : (X.e s).sent = (X.pu.p s).length := hIs.sent
    have := (List.getElem?_eq_some_iff.1 fr.2.1).1
    omega
  have hinr : inR 1 300 (x.2.length : Int) = true := inR_t (by omega) (by omega)
  have htg : tg9 = (X.m t).tag := mt.1.symm
  have hold : ∀ w', Estep w3 w' B (X.m t).win (X.m t).room (X.e t) (X.e t).ow → (x.1 ≤ (X.pu.E t).ip ∨ ((X.pu.E t).ib x.1).isSome = true) → TkO w w3 w' X B t x (.returned (.tuple #[.slice none 0 0, .int .i64 0])) := fun w' hst hc => by
    have hx1 := h3.mux ht2 hst
    refine ⟨⟨X.setE t (X.e t).ow, [], none, 0, rfl, (Xstep.below h hb).trans hx1, ?_, fun b hb => (by cases hb), ⟨rfl, .inl ⟨rfl, rfl⟩⟩, rfl, rfl, rfl, fun j => setE_b X t j _⟩, hx1.kept, fun s hs => setE_cm hx1.ok s hs⟩
    unfold Px.take
    rw [if_pos hc, setE_pu]
    simp only [List.map_nil, List.append_nil, upd_self]
    rfl
  by_cases c1 : x.1 ≤ (X.e t).i.p
  · refine (take_old1 (h3.mo t ht2) hq tg9 fr.1 hsz hinr htg c1).mono ?_
    rintro e w' ⟨rfl, hst⟩
    exact hold w' hst (.inl c1)
  · cases c2 : (X.e t).i.f x.1 with
    | some b0 =>
      refine (take_old2 (h3.mo t ht2) hq tg9 fr.1 hsz hinr htg hx1 (by omega) c2).mono ?_
      rintro e w' ⟨rfl, hst⟩
      exact hold w' hst (.inr (by show (((X.e t).i.f x.1).map Bd.bs).isSome = true; rw [c2]; rfl))
    | none =>
      have hrd := hok.rd
      rw [hy] at hrd
      refine (take_new (h3.mo t ht2) (Nat.le_trans hB hb.size) hq tg9 hrd fr.1 hsz hinr htg hx1 (by omega) c2).mono ?_
      rintro e w' ⟨⟨e1, bl, a, c, rfl, hst, hpu, hbs, hbd, hnd, hrow⟩⟩
      have hx1 := h3.mux ht2 hst
      have hst' := (Xstep.below h hb).trans hx1
      refine ⟨⟨X.setE t e1, bl, a, c, rfl, hst', ?_, fun b hbm => ?_, own_lower hrow hb.size, rfl, rfl, rfl, fun j => setE_b X t j _⟩, hx1.kept, fun s hs => setE_cm hx1.ok s hs⟩
      · unfold Px.take
        rw [if_neg (by
          intro hc
          rcases hc with hc | hc
          · exact c1 hc
          · have hc' : (((X.e t).i.f x.1).map Bd.bs).isSome = true := hc
            rw [c2] at hc'; cases hc'), setE_pu, hpu, hbs, mt.2.1]
        rfl
      · obtain ⟨b1, b2, b3⟩ := hbd b hbm
        have hbo : X.own b.k ∨ w.heap.size ≤ b.k := b3.imp (fun h1 => own_m ht2 (.inr (.inr ⟨_, _, h.me t ht2, h1⟩))) (fun h1 => Nat.le_trans hb.size h1)
        refine ⟨b1, ?_, hbo⟩
        have hm3 : (X.m t).own b.k ∨ w3.heap.size ≤ b.k := b3.imp (fun h1 => .inr (.inr ⟨_, _, h3.me t ht2, h1⟩)) id
        have hok' := hx1.ok
        rintro (e | ⟨i, h4, h12, hk⟩ | hj | hj | ⟨y, hy, e⟩)
        · exact bk_ne b1.bk (by rw [e]; exact hok'.blk) (by decide) rfl
        · obtain ⟨C, hC⟩ := hok'.rowB h4 h12 hk
          exact bk_ne b1.bk hC (rowT_ne i).2.1 rfl
        · exact hbN _ _ h3 hs ht hst hm3 b2 b3 0 (by omega) hj
        · exact hbN _ _ h3 hs ht hst hm3 b2 b3 1 (by omega) hj
        · have hy' : X.ents y := hy
          have hye := h3.en y hy'
          rcases hm3 with h1 | h1
          · rw [e] at h1
            rcases s2 ht2 with e2 | e2
            · rw [e2] at h1; exact hye.2.1 h1
            · rw [e2] at h1; exact hye.2.2 h1
          · have := hye.1.lt; omega
end
end Go.Proofs.Ytghihdenbdnnjaa.Ln
