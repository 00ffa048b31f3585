import Derived.Test.YtdegjhkjmgimpaaV01
namespace Go.Proofs.Ytdegjhkjmgimpaa.Ms
open Go.RowKit Go.Maps Mb
set_option linter.unusedVariables false
set_option linter.unusedSimpArgs false
set_option maxRecDepth 100000
section
variable {w w' w0 w1 w2 w3 : World} {B T s : Nat} {S S' : St} {sb : Nat} {fb fo : Nat → Nat → Value} {P Q : Nat → Prop}
def updR (f : Nat → Nat → Value) (i p : Nat) (x : Value) : Nat → Nat → Value := fun i' => if i' = i then upv (f i) p x else f i'
theorem updR_at (f : Nat → Nat → Value) (i p : Nat) (x : Value) : updR f i p x i p = x := by simp [updR, upv]
theorem updR_ne (f : Nat → Nat → Value) {i p i' p' : Nat} (x : Value) (h : i' ≠ i ∨ p' ≠ p) : updR f i p x i' p' = f i' p' := by
  unfold updR upv
  by_cases e : i' = i
  · subst e
    rw [if_pos rfl, if_neg (by omega)]
  · rw [if_neg e]
theorem own_stored {t n c g p : Nat} {m : Nat} {f : Nat → Value} (h : w.ownsRow B t s (.slice (some ⟨g, 0, none⟩) n c) n (rv m f)) (x : Value) : (w.setCell ⟨g, p, none⟩ x).ownsRow B t s (.slice (some ⟨g, 0, none⟩) n c) n (rv m (upv f p x)) := by
  rw [← rv_set]
  exact (World.ownsRow.stored h p x).1
theorem Sl.at {x : Sl} {g : Nat} (h : x.a = some ⟨g, 0, none⟩) : x.v = .slice (some ⟨g, 0, none⟩) x.n x.c := by unfold Sl.v; rw [h]
theorem Sl.blk {x : Sl} {g : Nat} (h : x.a = some ⟨g, 0, none⟩) : x.v.ownBlock = some g := by rw [Sl.at h]; rfl
theorem Fm.set {N : Nat} {v : Nat → Sl} {f : Nat → Nat → Value} {i g : Nat} (h : Fm B T s w N v f) (hi : i < N) (hv : (v i).a = some ⟨g, 0, none⟩) (p : Nat) (x : Value) : Fm B T s (w.setCell ⟨g, p, none⟩ x) N v (updR f i p x) := by
  refine ⟨fun j hj => ?_, h.d⟩
  by_cases e : j = i
  · subst e
    have h1 := h.o j hi
    rw [Sl.at hv] at h1 ⊢
    unfold updR
    rw [if_pos rfl]
    exact own_stored h1 x
  · unfold updR
    rw [if_neg e]
    exact own_set (h.o j hj) (fun e2 => h.d i j hi hj (fun e3 => e e3.symm) g (Sl.blk hv) e2)
theorem Gr.off {N K : Nat} {v u : Nat → Sl} {G : Nat → Nat → Value} {i g p : Nat} {x : Value} (h : Gr B T s w N v K u G) (hi : i < N) (hK : K ≤ i) (hv : (v i).a = some ⟨g, 0, none⟩) : Gr B T s (w.setCell ⟨g, p, none⟩ x) N v K u G :=
  h.kept (kset (P := fun j => j = g) w g p x rfl) fun j hj q hq e => h.d j i hj hi (by omega) q hq (by rw [e]; exact Sl.blk hv)
theorem tyS {N : Nat} {v : Nat → Sl} {f : Nat → Nat → Value} {i g : Nat} (h : Fm B T s w N v f) (hi : i < N) (hv : (v i).a = some ⟨g, 0, none⟩) : TyP w (fun j => j = g) (fun x => x = T) := fun j e => by
  subst e
  obtain ⟨cur, h1⟩ := row_ty (h.o i hi) (Sl.blk hv)
  exact ⟨cur, T, rfl, h1⟩
theorem blk_ty {g : Nat} {C : Array Value} {t : Nat} (ht : TyP w (fun j => j = g) (fun x => x = t)) (hb : w.heap[sb]? = some (.cells C 39 (0, 0))) (hn : t ≠ 39) : sb ≠ g := fun e => by
  obtain ⟨cur, t2, e2, h2⟩ := ht sb e
  subst e2
  rw [hb] at h2
  simp at h2
  exact hn h2.2.symm
theorem St.Ok.setB (h : S.Ok w B sb fb fo) {i g : Nat} (hi : i < S.N) (hm : S.m.n ≤ i) (hv : (S.vb i).a = some ⟨g, 0, none⟩) (p : Nat) (x : Value) : Tp B sb w (w.setCell ⟨g, p, none⟩ x) S S (updR fb i p x) fo := by
  have k : Kept w (w.setCell ⟨g, p, none⟩ x) (fun j => j = g) := kset (P := fun j => j = g) w g p x rfl
  have ty := tyS h.fb hi hv
  exact ⟨⟨k.obj h.blk (blk_ty ty h.blk (by decide)), h.ge, ty.keep h.rb (by decide) k, ty.keep h.rm (by decide) k, ty.keep h.ro (by decide) k, ty.keep h.rl (by decide) k, h.bm, h.ol, h.fb.set hi hv p x, h.fo.keptT k ty (by decide), h.gm.off hi hm hv, h.gl.keptT k ty (by decide)⟩, k.mono fun j _ e => by rw [e]; exact .inr (.inr (.inr (.inr (.inr (.inl ⟨i, hi, Sl.blk hv⟩))))), fun j => .inl⟩
theorem St.Ok.setF (h : S.Ok w B sb fb fo) {i g : Nat} (hi : i < S.M) (hm : S.l.n ≤ i) (hv : (S.vo i).a = some ⟨g, 0, none⟩) (p : Nat) (x : Value) : Tp B sb w (w.setCell ⟨g, p, none⟩ x) S S fb (updR fo i p x) := by
  have k : Kept w (w.setCell ⟨g, p, none⟩ x) (fun j => j = g) := kset (P := fun j => j = g) w g p x rfl
  have ty := tyS h.fo hi hv
  exact ⟨⟨k.obj h.blk (blk_ty ty h.blk (by decide)), h.ge, ty.keep h.rb (by decide) k, ty.keep h.rm (by decide) k, ty.keep h.ro (by decide) k, ty.keep h.rl (by decide) k, h.bm, h.ol, h.fb.keptT k ty (by decide), h.fo.set hi hv p x, h.gm.keptT k ty (by decide), h.gl.off hi hm hv⟩, k.mono fun j _ e => by rw [e]; exact .inr (.inr (.inr (.inr (.inr (.inr (.inl ⟨i, hi, Sl.blk hv⟩)))))), fun j => .inl⟩
theorem St.Ok.setF3 (h : S.Ok w B sb fb fo) {i g k : Nat} (hi : i < S.M) (hm : S.l.n ≤ i) (hv : (S.vo i).a = some ⟨g, 0, none⟩) : ∃ fo', Tp B sb w (w.setCells g (k * 3) (mcs i k)) S S fb fo' ∧ ∀ i' p, (i' = i ∧ k * 3 ≤ p ∧ p < k * 3 + 3 → fo' i' p = Gf i' p) ∧ (¬ (i' = i ∧ k * 3 ≤ p ∧ p < k * 3 + 3) → fo' i' p = fo i' p) := by
  have t0 := h.setF hi hm hv (k * 3) (.int .i64 (1000 + (i : Int)))
  have t1 := t0.trans (t0.ok.setF hi hm hv (k * 3 + 1) (.int .i64 (k : Int)))
  have t2 := t1.trans (t1.ok.setF hi hm hv (k * 3 + 2) (.int .i64 (-9)))
  refine ⟨_, t2, fun i' p => ⟨fun ⟨e, h1, h2⟩ => ?_, fun hn => ?_⟩⟩
  · subst e
    obtain ⟨q, rfl⟩ : ∃ q, p = k * 3 + q := ⟨p - k * 3, by omega⟩
    have hd : (k * 3 + q) / 3 = k := by omega
    have hq : (k * 3 + q) % 3 = q := by omega
    have hG : Gf i' (k * 3 + q) = (mcs i' k).getD q undef := by unfold Gf; rw [hd, hq]
    rw [hG]
    have hq5 : q < 3 := by omega
    have : q = 0 ∨ q = 1 ∨ q = 2 := by omega
    rcases this with rfl | rfl | rfl
    · rw [updR_ne _ _ (.inr (by omega)), updR_ne _ _ (.inr (by omega)), Nat.add_zero, updR_at]; rfl
    · rw [updR_ne _ _ (.inr (by omega)), updR_at]; rfl
    · rw [updR_at]; rfl
  · rw [updR_ne _ _ (by omega), updR_ne _ _ (by omega), updR_ne _ _ (by omega)]
theorem St.Ok.growB {k : Nat} {x : Sl} {a' : Option Addr} {c' : Nat} (h : S.Ok w B sb Gb fo) (hg : Gw B 3 1 w S.N S.vb S.m.n S.vm Gb k x) (hK : S.m.n < S.N)
    (ho : w'.ownsRow B 3 1 (.slice a' (x.n + 1) c') (x.n + 1) (rv ((x.n + 1) * 1) (Gb S.m.n))) (hk : Kept w w' (fun j => x.v.ownBlock = some j)) (he : ApAt x.v (.slice a' (x.n + 1) c') x.n w.heap.size) (hold : w'.ownsRow B 3 1 x.v x.n (rv (x.n * 1) (Gb S.m.n))) :
    Gw B 3 1 w' S.N S.vb S.m.n S.vm Gb (k + 1) ⟨a', x.n + 1, c'⟩ ∧ S.Ok w' B sb Gb fo := by
  obtain ⟨h1, h2, h3⟩ := hg.grow h.fb h.gm hK ho hk he hold
  have ty := TyP.own hg.o
  exact ⟨h1, ⟨hk.obj h.blk (own_sb hg.o h.blk (by decide)), h.ge, ty.keep h.rb (by decide) hk, ty.keep h.rm (by decide) hk, ty.keep h.ro (by decide) hk, ty.keep h.rl (by decide) hk, h.bm, h.ol, h2, h.fo.keptT hk ty (by decide), h3, h.gl.keptT hk ty (by decide)⟩⟩
theorem St.Ok.growF {k : Nat} {x : Sl} {a' : Option Addr} {c' : Nat} (h : S.Ok w B sb fb Gf) (hg : Gw B 79 3 w S.M S.vo S.l.n S.vl Gf k x) (hK : S.l.n < S.M)
    (ho : w'.ownsRow B 79 3 (.slice a' (x.n + 1) c') (x.n + 1) (rv ((x.n + 1) * 3) (Gf S.l.n))) (hk : Kept w w' (fun j => x.v.ownBlock = some j)) (he : ApAt x.v (.slice a' (x.n + 1) c') x.n w.heap.size) (hold : w'.ownsRow B 79 3 x.v x.n (rv (x.n * 3) (Gf S.l.n))) :
    Gw B 79 3 w' S.M S.vo S.l.n S.vl Gf (k + 1) ⟨a', x.n + 1, c'⟩ ∧ S.Ok w' B sb fb Gf := by
  obtain ⟨h1, h2, h3⟩ := hg.grow h.fo h.gl hK ho hk he hold
  have ty := TyP.own hg.o
  exact ⟨h1, ⟨hk.obj h.blk (own_sb hg.o h.blk (by decide)), h.ge, ty.keep h.rb (by decide) hk, ty.keep h.rm (by decide) hk, ty.keep h.ro (by decide) hk, ty.keep h.rl (by decide) hk, h.bm, h.ol, h.fb.keptT hk ty (by decide), h2, h.gm.keptT hk ty (by decide), h3⟩⟩
theorem St.Ok.appM {a' : Option Addr} {c' : Nat} {x : Sl} (h : S.Ok w B sb Gb fo) (hg : Gw B 3 1 w S.N S.vb S.m.n S.vm Gb 64 x) (ho : w1.ownsRow B 29 1 (.slice a' (S.m.n + 1) c') (S.m.n + 1) (rv S.m.n (fun i => (S.vm i).v) ++ [x.v])) (hk : Kept w w1 (fun j => S.m.v.ownBlock = some j)) (he : (Value.slice a' (S.m.n + 1) c').ownBlock = S.m.v.ownBlock ∨ (Value.slice a' (S.m.n + 1) c').ownBlock = some w.heap.size) :
    St.Ok { S with m := ⟨a', S.m.n + 1, c'⟩, vm := updS S.vm S.m.n x } (w1.setCell ⟨sb, 1, none⟩ (.slice a' (S.m.n + 1) c')) B sb Gb fo ∧ Kept w (w1.setCell ⟨sb, 1, none⟩ (.slice a' (S.m.n + 1) c')) (S.own sb) ∧ ∀ j, St.own { S with m := ⟨a', S.m.n + 1, c'⟩, vm := updS S.vm S.m.n x } sb j → S.own sb j ∨ w.heap.size ≤ j ∨ x.v.ownBlock = some j := by
  have hb1 : w1.heap[sb]? = some (.cells #[S.b.v, S.m.v, S.o.v, S.l.v] 39 (0, 0)) := hk.obj h.blk (own_sb h.rm h.blk (by decide))
  have k2 : Kept w (w1.setCell ⟨sb, 1, none⟩ (.slice a' (S.m.n + 1) c')) _ := kA hk
  have ty := tyA h.rm h.blk
  refine ⟨⟨blk_set hb1 rfl, h.ge, k2.owns h.rb (fun g hg hp => ?_), by show World.ownsRow _ _ _ _ _ _ (rv (S.m.n + 1) _); rw [rv_upd]; exact own_set ho (own_sb ho hb1 (by decide)), ty.keep h.ro (by decide) k2, ty.keep h.rl (by decide) k2, fun j hj e => ?_, h.ol, h.fb.keptT k2 ty (by decide), h.fo.keptT k2 ty (by decide), (h.gm.keptT k2 ty (by decide)).snoc hg.n (ty.keep hg.o (by decide) k2) hg.d, h.gl.keptT k2 ty (by decide)⟩, k2.mono fun j _ hj => hj.elim (fun e => .inr (.inr (.inl e))) (fun e => .inl e), fun j hj => ?_⟩
  · rcases hp with hp | rfl
    · exact h.bm g hg hp
    · exact own_sb h.rb h.blk (by decide) hg
  · rcases he with h1 | h1
    · exact h.bm j hj (h1 ▸ e)
    · have e1 : some w.heap.size = some j := h1 ▸ e
      have := (h.lt (.inr (.inl hj))).1
      simp at e1
      omega
  · rcases hj with hj | hj | hj | hj | hj | hj | hj | ⟨i, hi, hj⟩ | hj
    · exact .inl (.inl hj)
    · exact .inl (.inr (.inl hj))
    · rcases he with h1 | h1
      · exact .inl (.inr (.inr (.inl (h1 ▸ hj))))
      · have e1 : some w.heap.size = some j := h1 ▸ hj
        simp at e1
        exact .inr (.inl (by omega))
    · exact .inl (.inr (.inr (.inr (.inl hj))))
    · exact .inl (.inr (.inr (.inr (.inr (.inl hj)))))
    · exact .inl (.inr (.inr (.inr (.inr (.inr (.inl hj))))))
    · exact .inl (.inr (.inr (.inr (.inr (.inr (.inr (.inl hj)))))))
    · by_cases e : i = S.m.n
      · subst e
        simp only [updS_same] at hj
        exact .inr (.inr hj)
      · simp only [updS_ne S.vm x e] at hj
        exact .inl (.inr (.inr (.inr (.inr (.inr (.inr (.inr (.inl ⟨i, by simp only at hi; omega, hj⟩))))))))
    · exact .inl (.inr (.inr (.inr (.inr (.inr (.inr (.inr (.inr hj))))))))
theorem St.Ok.appL {a' : Option Addr} {c' : Nat} {x : Sl} (h : S.Ok w B sb fb Gf) (hg : Gw B 79 3 w S.M S.vo S.l.n S.vl Gf 64 x) (ho : w1.ownsRow B 40 1 (.slice a' (S.l.n + 1) c') (S.l.n + 1) (rv S.l.n (fun i => (S.vl i).v) ++ [x.v])) (hk : Kept w w1 (fun j => S.l.v.ownBlock = some j)) (he : (Value.slice a' (S.l.n + 1) c').ownBlock = S.l.v.ownBlock ∨ (Value.slice a' (S.l.n + 1) c').ownBlock = some w.heap.size) :
    St.Ok { S with l := ⟨a', S.l.n + 1, c'⟩, vl := updS S.vl S.l.n x } (w1.setCell ⟨sb, 3, none⟩ (.slice a' (S.l.n + 1) c')) B sb fb Gf ∧ Kept w (w1.setCell ⟨sb, 3, none⟩ (.slice a' (S.l.n + 1) c')) (S.own sb) ∧ ∀ j, St.own { S with l := ⟨a', S.l.n + 1, c'⟩, vl := updS S.vl S.l.n x } sb j → S.own sb j ∨ w.heap.size ≤ j ∨ x.v.ownBlock = some j := by
  have hb1 : w1.heap[sb]? = some (.cells #[S.b.v, S.m.v, S.o.v, S.l.v] 39 (0, 0)) := hk.obj h.blk (own_sb h.rl h.blk (by decide))
  have k2 : Kept w (w1.setCell ⟨sb, 3, none⟩ (.slice a' (S.l.n + 1) c')) _ := kA hk
  have ty := tyA h.rl h.blk
  refine ⟨⟨blk_set hb1 rfl, h.ge, ty.keep h.rb (by decide) k2, ty.keep h.rm (by decide) k2, k2.owns h.ro (fun g hg hp => ?_), by show World.ownsRow _ _ _ _ _ _ (rv (S.l.n + 1) _); rw [rv_upd]; exact own_set ho (own_sb ho hb1 (by decide)), h.bm, fun j hj e => ?_, h.fb.keptT k2 ty (by decide), h.fo.keptT k2 ty (by decide), h.gm.keptT k2 ty (by decide), (h.gl.keptT k2 ty (by decide)).snoc hg.n (ty.keep hg.o (by decide) k2) hg.d⟩, k2.mono fun j _ hj => hj.elim (fun e => .inr (.inr (.inr (.inr (.inl e))))) (fun e => .inl e), fun j hj => ?_⟩
  · rcases hp with hp | rfl
    · exact h.ol g hg hp
    · exact own_sb h.ro h.blk (by decide) hg
  · rcases he with h1 | h1
    · exact h.ol j hj (h1 ▸ e)
    · have e1 : some w.heap.size = some j := h1 ▸ e
      have := (h.lt (.inr (.inr (.inr (.inl hj))))).1
      simp at e1
      omega
  · rcases hj with hj | hj | hj | hj | hj | hj | hj | hj | ⟨i, hi, hj⟩
    · exact .inl (.inl hj)
    · exact .inl (.inr (.inl hj))
    · exact .inl (.inr (.inr (.inl hj)))
    · exact .inl (.inr (.inr (.inr (.inl hj))))
    · rcases he with h1 | h1
      · exact .inl (.inr (.inr (.inr (.inr (.inl (h1 ▸ hj))))))
      · have e1 : some w.heap.size = some j := h1 ▸ hj
        simp at e1
        exact .inr (.inl (by omega))
    · exact .inl (.inr (.inr (.inr (.inr (.inr (.inl hj))))))
    · exact .inl (.inr (.inr (.inr (.inr (.inr (.inr (.inl hj)))))))
    · exact .inl (.inr (.inr (.inr (.inr (.inr (.inr (.inr (.inl hj))))))))
    · by_cases e : i = S.l.n
      · subst e
        simp only [updS_same] at hj
        exact .inr (.inr hj)
      · simp only [updS_ne S.vl x e] at hj
        exact .inl (.inr (.inr (.inr (.inr (.inr (.inr (.inr (.inr ⟨i, by simp only at hi; omega, hj⟩))))))))
structure Ps (B sb : Nat) (w0 : World) (P : Nat → Prop) (w : World) (S : St) (fb fo : Nat → Nat → Value) : Prop where
  ok : S.Ok w B sb fb fo
  k : Kept w0 w P
  p : ∀ j, S.own sb j → P j ∨ w0.heap.size ≤ j
theorem Ps.tp {f1 f2 : Nat → Nat → Value} (h : Ps B sb w0 P w S fb fo) (t : Tp B sb w w' S S' f1 f2) : Ps B sb w0 P w' S' f1 f2 :=
  ⟨t.ok, h.k.step t.k h.p, fun j hj => (t.p j hj).elim (h.p j) (fun hh => .inr (Nat.le_trans h.k.size hh))⟩
theorem Ps.still (h : Ps B sb w0 P w S fb fo) (hb : Below w.heap.size w w') : Ps B sb w0 P w' S fb fo := h.tp ((Tp.refl h.ok).still hb)
theorem Ps.fam {f1 f2 : Nat → Nat → Value} (h : Ps B sb w0 P w S fb fo) (h1 : ∀ i, i < S.N → ∀ j, j < (S.vb i).n * 1 → f1 i j = fb i j) (h2 : ∀ i, i < S.M → ∀ j, j < (S.vo i).n * 3 → f2 i j = fo i j) : Ps B sb w0 P w S f1 f2 :=
  ⟨⟨h.ok.blk, h.ok.ge, h.ok.rb, h.ok.rm, h.ok.ro, h.ok.rl, h.ok.bm, h.ok.ol, h.ok.fb.congr h1, h.ok.fo.congr h2, h.ok.gm, h.ok.gl⟩, h.k, h.p⟩
theorem Ps.grow {x : Sl} (h : Ps B sb w0 P w S fb fo) (hok : S.Ok w' B sb fb fo) (hk : Kept w w' (fun j => x.v.ownBlock = some j)) (hx : ∀ j, x.v.ownBlock = some j → P j ∨ w0.heap.size ≤ j) : Ps B sb w0 P w' S fb fo := ⟨hok, h.k.step hk hx, h.p⟩
theorem Ps.app {x : Sl} (h : Ps B sb w0 P w S fb fo) (ht : S'.Ok w' B sb fb fo ∧ Kept w w' (S.own sb) ∧ ∀ j, S'.own sb j → S.own sb j ∨ w.heap.size ≤ j ∨ x.v.ownBlock = some j) (hx : ∀ j, x.v.ownBlock = some j → P j ∨ w0.heap.size ≤ j) : Ps B sb w0 P w' S' fb fo :=
  ⟨ht.1, h.k.step ht.2.1 h.p, fun j hj => (ht.2.2 j hj).elim (h.p j) (fun hh => hh.elim (fun h1 => .inr (Nat.le_trans h.k.size h1)) (hx j))⟩
end
end Go.Proofs.Ytdegjhkjmgimpaa.Ms
namespace Go.Proofs.Ytdegjhkjmgimpaa.Ms
open Go.RowKit Go.Maps Mb
set_option linter.unusedVariables false
set_option linter.unusedSimpArgs false
set_option maxRecDepth 100000
section
variable {w w' w0 w1 w2 w3 : World} {B T s : Nat} {S S' S1 : St} {sb : Nat} {fb fo : Nat → Nat → Value} {P Q : Nat → Prop}
theorem info4 {t : TypeId} {z : Value} {n b : Nat} (h : (Try.prog.info? t).map (fun i => (i.zero, i.size, i.bytes)) = some (some z, n, b)) : ∃ i : TypeInfo, Try.prog.info? t = some i ∧ i.zero = some z ∧ i.size = n ∧ i.bytes = b := by
  cases hi : Try.prog.info? t with
  | none => rw [hi] at h; cases h
  | some i =>
    rw [hi] at h
    simp at h
    exact ⟨i, rfl, h.1, h.2.1, h.2.2⟩
theorem tTB : ∃ i : TypeInfo, Try.prog.info? 29 = some i ∧ i.zero = some (.slice none 0 0) ∧ i.size = 1 ∧ i.bytes = 24 := info4 (by kernel_rfl)
theorem tTFs : ∃ i : TypeInfo, Try.prog.info? 40 = some i ∧ i.zero = some (.slice none 0 0) ∧ i.size = 1 ∧ i.bytes = 24 := info4 (by kernel_rfl)
theorem tFl3 : ∃ i : TypeInfo, Try.prog.info? 79 = some i ∧ i.zero = some (.agg #[.int .i64 0, .int .i64 0, .int .i64 0]) ∧ i.size = 3 ∧ i.bytes = 24 := info4 (by kernel_rfl)
theorem tU : ∃ i : TypeInfo, Try.prog.info? 3 = some i ∧ i.zero = some (.int .i64 0) ∧ i.size = 1 ∧ i.bytes = 8 := info4 (by kernel_rfl)
theorem oneTS : (Try.prog.info? 37).map (·.size) = some 1 := by kernel_rfl
theorem oneTBB : (Try.prog.info? 36).map (·.size) = some 1 := by kernel_rfl
theorem iMb : (Try.prog.info? 79).map (·.size) = some 3 := by kernel_rfl
theorem bsI (x : Int) : Try.prog.builtSlice 3 1 [(0, .int .i64 x)] = some #[.int .i64 x] := by kernel_rfl
theorem bsB (a : Option Addr) (n c : Nat) : Try.prog.builtSlice 29 1 [(0, .slice a n c)] = some #[.slice a n c] := by kernel_rfl
theorem bsFs (a : Option Addr) (n c : Nat) : Try.prog.builtSlice 40 1 [(0, .slice a n c)] = some #[.slice a n c] := by kernel_rfl
theorem bsMb (x y z : Int) : Try.prog.builtSlice 79 1 [(0, .agg #[.int .i64 x, .int .i64 y, .int .i64 z])] = some #[.int .i64 x, .int .i64 y, .int .i64 z] := by kernel_rfl
theorem zMb : (Try.prog.info? 79).map (·.zero) = some (some (.agg #[.int .i64 0, .int .i64 0, .int .i64 0])) := by kernel_rfl
theorem one3 (q k : Nat) : ∀ u ∈ mcs q k, u.oneCell' = true := by
  intro u hu
  simp only [mcs, List.mem_cons, List.not_mem_nil, or_false] at hu
  rcases hu with rfl | rfl | rfl <;> rfl
theorem bMb (x y z : Int) : Try.prog.built 79 [(0, .int .i64 x), (1, .int .i64 y), (2, .int .i64 z)] = some #[.int .i64 x, .int .i64 y, .int .i64 z] := by kernel_rfl
theorem res_cell {fn : Func} {p : Tmp} {t : TypeId} {d : TypeDesc} (h : fn.results = #[.cell p t]) (tmps : Array Value) (w : World) (g : Nat) (L : List Value) (hu : Try.prog.underlying t = some d) (hd : d.isRow = true) (hi : (Try.prog.info? t).map (·.size) = some L.length)
    (hp : tmps.getD p undef = .pointer (some ⟨g, 0, none⟩)) (hg : w.rangeAt g 0 L) :
    (results fn tmps).run Try.prog w = .ok (.agg L.toArray) w := by
  have e : (results fn tmps).run Try.prog w = ((asAddr (tmps.getD p undef)).run Try.prog w).andThen fun a w₁ => (loadVar t a).run Try.prog w₁ := by
    simp only [results, h]
    simp [Sem.run_bind, Result.andThen]
  rw [e, hp]
  simp [asAddr, run_loadVar_mid w g 0 t L _ hg hu hd hi]
theorem sign_any (n k : Nat) (hn : n ≤ 1000000) (hk : k ≤ 1000000) : Calls Try.prog 25 #[.int .i64 (n : Int), .int .i64 (k : Int)] w fun e w' => e = .returned (.agg (mcs n k).toArray) ∧ Below w.heap.size w w' := by
  have i0 : (0 : Int) ≤ (n : Int) := Int.natCast_nonneg _
  have i1 : (n : Int) ≤ 1000000 := by omega
  have i2 : (0 : Int) ≤ (k : Int) := Int.natCast_nonneg _
  have i3 : (k : Int) ≤ 1000000 := by omega
  go_enter Try.func25, Try.ntmps25
  go_wp2_with (first
    | (refine wl_buildZ rfl 79 _ rfl (built_eq (by kernel_rfl) (bMb (1000 + (n : Int)) (k : Int) (-9))) ?_)
    | (refine wl_allocZ rfl 79 rfl zMb ?_; intro W1 k1 b1 s1; have K1 : Hid (W1.heap[w.heap.size]? = some (.cells #[.int .i64 0, .int .i64 0, .int .i64 0] 79 (0, 0))) := k1; have B1 : Hid (Below w.heap.size w W1) := b1; clear k1 b1 s1)
    | (refine wl_storeZ rfl 79 _ _ rfl (L := mcs n k) rfl rfl K1.out iMb rfl (one3 n k) ?_; intro W2 k2 kk2; have K2 : Hid (W2.heap[w.heap.size]? = some (.cells (mcs n k).toArray 79 (0, 0))) := k2; have KK2 : Hid (Kept W1 W2 (fun j => j = w.heap.size)) := kk2; clear k2 kk2)
    | fail)
  (try simp only [Exit.inBlock, Exit.then])
  refine bodyPost_ret (res_cell rfl _ _ w.heap.size (mcs n k) Try.underlying79 rfl iMb rfl (Ln.blk_range K2.out)) rfl ?_
  exact ⟨rfl, B1.out.trans (KK2.out.below B1.out.size (fun q hq e => by have e' : q = w.heap.size := e; omega))⟩
theorem run_appK {P : Program} (base : Nat) (t ty e : TypeId) (i : TypeInfo) (z : Value) (size bytes : Nat) (ht : P.underlying t = some (.slice e)) (hi : P.info? e = some i) (hz : i.zero = some z)
    (hsize : i.size = size) (hby : i.bytes = bytes) (hzs : z.cells.size = size) (hsz : 0 < size)
    (v : Value) (n : Nat) (xs : List Value) (hown : w.ownsRow base e size v n xs)
    (a : Addr) (c : Nat) (news : List Value) (hl : news.length = 1 * size) (hnews : ∀ j u, news[j]? = some u → w.cell? (a.add j) = some u) (h1 : ∀ u ∈ news, u.oneCell' = true)
    (h63 : n + 1 ≤ maxLen) (hbytes : (n + 1) * bytes ≤ 140737488355328) (hbase : base ≤ w.heap.size) :
    ∃ v' w', (Builtin.append_ #[t, t] ty #[v, .slice (some a) 1 c]).run P w = .ok v' w' ∧ w'.ownsRow base e size v' (n + 1) (xs ++ news) ∧ w.grownBy w' v.ownBlock ∧ ApAt v v' n w.heap.size ∧ w'.ownsRow base e size v n xs := by
  obtain ⟨v', w', hr, h2, h3, h4, h5⟩ := run_append_own_at (P := P) w base t ty e i z size bytes ht hi hz hsize hby hzs hsz v n xs hown a 1 c news hl hnews h1 h63 hbytes hbase
  refine ⟨v', w', hr, h2, h3, ?_⟩
  have hx : xs.length = n * size := hown.1
  have hown2 := hown
  rcases hown.2 with ⟨rfl, rfl⟩ | ⟨g, cap, cur, rfl, hbg, hg, hnc, hcm, hcs, htake⟩
  · refine ⟨⟨.inr ?_⟩, hown.1, .inl ⟨rfl, rfl⟩⟩
    rcases h5 with h5 | h5
    · rcases h2.2 with ⟨_, h6⟩ | ⟨g, cap, cur, rfl, _⟩
      · omega
      · cases h5
    · exact h5
  · by_cases hroom : n + 1 ≤ cap
    · obtain ⟨w2, hr2, h6, h7⟩ := run_append_fits (P := P) w base t ty e i size ht hi hsize g n cap xs hown2 a 1 c news hl hnews h1 hroom
      rw [hr] at hr2
      simp only [Result.ok.injEq] at hr2
      obtain ⟨rfl, rfl⟩ := hr2
      exact ⟨⟨.inl ⟨g, cap, rfl, rfl⟩⟩, row_cut h6 hx⟩
    · have hr2 := run_append_grow (P := P) w t ty e i z ht hi hz ⟨g, 0, none⟩ n cap xs (by rw [hsize]; exact hown.1) (hown.cells (g := g) rfl) a 1 c news (by rw [hsize]; exact hl) hnews (by omega) (by simp only [maxLen] at h63; omega) (by rw [hby]; exact growslice_fits (by omega) hbytes)
      rw [hr] at hr2
      simp only [Result.ok.injEq] at hr2
      obtain ⟨rfl, rfl⟩ := hr2
      refine ⟨⟨.inr rfl⟩, hown.1, .inr ⟨g, cap, cur, rfl, hbg, ?_, hnc, hcm, hcs, htake⟩⟩
      have hlt : g < w.drew.heap.size := (Array.getElem?_eq_some_iff.1 hg).1
      exact (heap_alloc_old w.drew _ hlt).trans hg
theorem wl_appK {ops : Array Oper} {rest : List Oper} {o : Oper} {a : Act} {Q : Exit → Act → World → Prop} (hgd : o.guard = none) (s x : Operand) (t : TypeId)
    (ho : o.op = .call { callee := .builtin .append, args := #[s, x], argTypes := #[t, t] })
    (base : Nat) (e : TypeId) (i : TypeInfo) (z : Value) (size bytes : Nat) (ht : Try.prog.underlying t = some (.slice e)) (hi : Try.prog.info? e = some i) (hz : i.zero = some z)
    (hsize : i.size = size) (hby : i.bytes = bytes) (hzs : z.cells.size = size) (hsz : 0 < size)
    (v : Value) (n : Nat) (xs : List Value) (hs : a.eval s = v) (hown : w.ownsRow base e size v n xs) {nb : Nat}
    (news : List Value) (hx : a.eval x = .slice (some ⟨nb, 0, none⟩) 1 1) (hl : news.length = 1 * size) (hnb : w.heap[nb]? = some (.cells news.toArray e (0, 0))) (h1 : ∀ u ∈ news, u.oneCell' = true)
    (h63 : n + 1 ≤ maxLen) (hbytes : (n + 1) * bytes ≤ 140737488355328) (hbase : base ≤ w.heap.size)
    (h : ∀ a' c' w', w'.ownsRow base e size (.slice a' (n + 1) c') (n + 1) (xs ++ news) → Kept w w' (fun k => v.ownBlock = some k) → ApAt v (.slice a' (n + 1) c') n w.heap.size → w'.ownsRow base e size v n xs → wpList Try.prog ops Q rest (a.put o.dst (.slice a' (n + 1) c')) w') :
    wpList Try.prog ops Q (o :: rest) a w := by
  refine wpList_plain hgd fun K hK => ?_
  obtain ⟨v', w', hr, h2, h3, h4, h5⟩ := run_appK (P := Try.prog) base t o.type e i z size bytes ht hi hz hsize hby hzs hsz v n xs hown ⟨nb, 0, none⟩ 1 news hl (fun j u hu => by
    rw [Addr.add_lit, Nat.zero_add, blk_cell hnb]
    simpa using hu) h1 h63 hbytes hbase
  obtain ⟨a', c', rfl⟩ := own_sh h2
  unfold Oper.wp execOp
  simp only [ho, resolve, invoke, builtin, Sem.run_bind, Sem.run_pure, Result.andThen_ok, List.map_toArray, List.map_cons, List.map_nil, hs, hx, hr]
  exact hK _ _ (h a' c' w' h2 ((Kept.ofGrown h3).mono fun k _ hk => hk.symm) h4 h5)
theorem oneV (x : Value) (h : x.oneCell' = true) : ∀ u ∈ ([x] : List Value), u.oneCell' = true := by
  intro u hu
  simp only [List.mem_cons, List.not_mem_nil, or_false] at hu
  rw [hu]
  exact h
theorem takeD {P : Program} {md : Region.Mode} {ops : Array Oper} {Q : Exit → Act → World → Prop} {S : World → Prop} {i d : Nat} {oi : Oper} {v : Value} {fuel : Nat} {listed : Array Bool} {a : Act} {w : World} (hi : ops[i]? = some oi) (hd : oi.dst = some d)
    (hs : Region.noSelect ops = true) (hf : Region.free md ops listed i = true) (hr : (Region.ready md ops listed).contains i = true)
    (hQ : ∀ c a w, Q (.panic c) (a.put oi.dst v) w → Q (.panic c) a w) (hy : YieldsIf P ops S oi v a) (hS : S w)
    (h : wpAnyH P md ops Q S fuel (listed.setIfInBounds i true) (a.put (some d) v) w) : wpAnyH P md ops Q S (fuel + 1) listed a w :=
  wpAnyH_take hi hs hf hr hQ hy hS (by rw [hd]; exact h)
theorem drew_bel (w : World) : Below w.heap.size w w.drew := (Below.refl _ _).drew
def St.bo (S : St) (b o : Sl) : St := { S with b := b, o := o }
def St.mm (S : St) (m : Sl) (vm : Nat → Sl) : St := { S with m := m, vm := vm }
def St.ll (S : St) (l : Sl) (vl : Nat → Sl) : St := { S with l := l, vl := vl }
theorem row_get {t i : Nat} {y : Sl} {f : Nat → Value} (h : w.ownsRow B t 1 y.v y.n (rv y.n f)) (hi : i < y.n) : ∃ g, y.a = some ⟨g, 0, none⟩ ∧ w.cell? ⟨g, i, none⟩ = some (f i) := by
  rcases h.2 with ⟨h1, h2⟩ | ⟨g, cap, cur, hv, _⟩
  · omega
  · have e : y.a = some ⟨g, 0, none⟩ ∧ y.c = cap := by
      unfold Sl.v at hv
      simp only [Value.slice.injEq] at hv
      exact ⟨hv.1, hv.2.2⟩
    refine ⟨g, e.1, ?_⟩
    have h2 := h
    rw [Sl.at e.1] at h2
    rw [World.ownsRow.cellAt h2 i (by omega), rv_get f hi]
theorem row_getF {t i s : Nat} {y : Sl} {f : Nat → Value} (h : w.ownsRow B t s y.v y.n (rv (y.n * s) f)) (hi : i < y.n) (hs : 0 < s) : ∃ g, y.a = some ⟨g, 0, none⟩ ∧ (∃ C, w.heap[g]? = some (.cells C t (0, 0)) ∧ (i + 1) * s ≤ C.size) ∧ ∀ q, q < s → w.cell? ⟨g, i * s + q, none⟩ = some (f (i * s + q)) := by
  rcases h.2 with ⟨h1, h2⟩ | ⟨g, cap, cur, hv, hB, hg, hnc, hcm, hcs, htk⟩
  · omega
  · have e : y.a = some ⟨g, 0, none⟩ ∧ y.c = cap := by
      unfold Sl.v at hv
      simp only [Value.slice.injEq] at hv
      exact ⟨hv.1, hv.2.2⟩
    have hm : (i + 1) * s ≤ y.n * s := Nat.mul_le_mul_right s hi
    refine ⟨g, e.1, ⟨cur, hg, Nat.le_trans hm (by rw [hcs]; exact Nat.mul_le_mul_right s hnc)⟩, fun q hq => ?_⟩
    have h2 := h
    rw [Sl.at e.1] at h2
    rw [Nat.add_mul, Nat.one_mul] at hm
    rw [World.ownsRow.cellAt h2 (i * s + q) (by omega), rv_get f (by omega)]
theorem Ps.off (h : Ps B sb w0 P w S fb fo) {g : Nat} (hg : g < w0.heap.size ∧ ¬ P g) : ¬ S.own sb g := fun e => (h.p g e).elim hg.2 (fun hh => by omega)
theorem Ps.cB (h : Ps B sb w0 P w S fb fo) : w.cell? ⟨sb, 0, none⟩ = some (.slice S.b.a S.b.n S.b.c) := blk_cell h.ok.blk 0
theorem Ps.cM (h : Ps B sb w0 P w S fb fo) : w.cell? ⟨sb, 1, none⟩ = some (.slice S.m.a S.m.n S.m.c) := blk_cell h.ok.blk 1
theorem Ps.cO (h : Ps B sb w0 P w S fb fo) : w.cell? ⟨sb, 2, none⟩ = some (.slice S.o.a S.o.n S.o.c) := blk_cell h.ok.blk 2
theorem Ps.cL (h : Ps B sb w0 P w S fb fo) : w.cell? ⟨sb, 3, none⟩ = some (.slice S.l.a S.l.n S.l.c) := blk_cell h.ok.blk 3
theorem Ps.hB (h : Ps B sb w0 P w S fb fo) (hB : B ≤ w0.heap.size) : B ≤ w.heap.size := Nat.le_trans hB h.k.size
structure Lk2 (S : St) (N0 M0 : Nat) (fb fo : Nat → Nat → Value) : Prop where
  nb : S.b.n = N0
  nm : S.m.n = N0
  no : S.o.n = M0
  nl : S.l.n = M0
  M : S.M = M0 + 5
  N : S.N = N0 + 7
  bN : S.N ≤ 100000
  bM : S.M ≤ 1000
  lb : ∀ i, i < S.N → (S.vb i).n ≤ 1000
  lo : ∀ i, i < S.M → (S.vo i).n ≤ 1000
  gb : ∀ i, i < N0 → ∀ j, j < (S.vb i).n * 1 → fb i j = Gb i j
  go : ∀ i, i < M0 → ∀ j, j < (S.vo i).n * 3 → fo i j = Gf i j
structure PutO (B sb : Nat) (w : World) (P : Nat → Prop) (w' : World) (S : St) : Prop where
  out : ∃ S', Ps B sb w P w' S' Gb Gf ∧ S'.N = S.N ∧ S'.M = S.M ∧ S'.vb = S.vb ∧ S'.vo = S.vo ∧ S'.b.n = S.N ∧ S'.m.n = S.N ∧ S'.o.n = S.M ∧ S'.l.n = S.M
def dnn (n : Nat → Nat) (N s q k : Nat) (f G : Nat → Nat → Value) : Prop := ∀ i, i < N → ∀ j, j < n i * s → (i < q ∨ (i = q ∧ j < k * s)) → f i j = G i j
structure PsF (B sb : Nat) (w : World) (P : Nat → Prop) (S : St) (fo : Nat → Nat → Value) (q k : Nat) (Z : World) : Prop where
  out : ∃ f, Ps B sb w P Z S f fo ∧ dnn (fun i => (S.vb i).n) S.N 1 q k f Gb
structure PsO (B sb : Nat) (w : World) (P : Nat → Prop) (S : St) (q k : Nat) (Z : World) : Prop where
  out : ∃ f, Ps B sb w P Z S Gb f ∧ dnn (fun i => (S.vo i).n) S.M 3 q k f Gf
structure PsM (B sb : Nat) (w : World) (P : Nat → Prop) (S : St) (q : Nat) (Z : World) : Prop where
  out : ∃ m vm, Ps B sb w P Z (S.mm m vm) Gb Gf ∧ m.n = q
structure PsL (B sb : Nat) (w : World) (P : Nat → Prop) (S : St) (q : Nat) (Z : World) : Prop where
  out : ∃ l vl, Ps B sb w P Z (S.ll l vl) Gb Gf ∧ l.n = q
structure PgM (B sb : Nat) (w : World) (P : Nat → Prop) (S : St) (m : Sl) (vm : Nat → Sl) (k : Nat) (x : Sl) (Z : World) : Prop where
  p : Ps B sb w P Z (S.mm m vm) Gb Gf
  g : Gw B 3 1 Z S.N S.vb m.n vm Gb k x
  x : ∀ j, x.v.ownBlock = some j → P j ∨ w.heap.size ≤ j
structure PgL (B sb : Nat) (w : World) (P : Nat → Prop) (S : St) (l : Sl) (vl : Nat → Sl) (k : Nat) (x : Sl) (Z : World) : Prop where
  p : Ps B sb w P Z (S.ll l vl) Gb Gf
  g : Gw B 79 3 Z S.M S.vo l.n vl Gf k x
  x : ∀ j, x.v.ownBlock = some j → P j ∨ w.heap.size ≤ j
theorem dnn_step {n : Nat → Nat} {N q k : Nat} {f : Nat → Nat → Value} (h : dnn n N 1 q k f Gb) : dnn n N 1 q (k + 1) (updR f q k (.int .i64 (100 + (q : Int)))) Gb := fun i hi j hj hd => by
  by_cases e : i = q ∧ j = k
  · obtain ⟨rfl, rfl⟩ := e
    rw [updR_at]; rfl
  · rw [updR_ne _ _ (by omega)]
    exact h i hi j hj (by omega)
theorem dnn_step3 {n : Nat → Nat} {N q k : Nat} {f f' : Nat → Nat → Value} (h : dnn n N 3 q k f Gf) (h' : ∀ i' p, (i' = q ∧ k * 3 ≤ p ∧ p < k * 3 + 3 → f' i' p = Gf i' p) ∧ (¬ (i' = q ∧ k * 3 ≤ p ∧ p < k * 3 + 3) → f' i' p = f i' p)) : dnn n N 3 q (k + 1) f' Gf := fun i hi j hj hd => by
  by_cases e : i = q ∧ k * 3 ≤ j ∧ j < k * 3 + 3
  · exact (h' i j).1 e
  · rw [(h' i j).2 e]
    exact h i hi j hj (by omega)
theorem dnn_next {n : Nat → Nat} {N s q : Nat} {f G : Nat → Nat → Value} (h : dnn n N s q (n q) f G) : dnn n N s (q + 1) 0 f G := fun i hi j hj hd => h i hi j hj (by
  rcases hd with hd | hd
  · by_cases e : i = q
    · subst e; exact .inr ⟨rfl, hj⟩
    · exact .inl (by omega)
  · omega)
theorem PsF.all (h : PsF B sb w P S fo S.N 0 w') : Ps B sb w P w' S Gb fo := by
  obtain ⟨f, h1, h2⟩ := h.out
  exact h1.fam (fun i hi j hj => (h2 i hi j hj (.inl hi)).symm) (fun _ _ _ _ => rfl)
theorem PsO.all (h : PsO B sb w P S S.M 0 w') : Ps B sb w P w' S Gb Gf := by
  obtain ⟨f, h1, h2⟩ := h.out
  exact h1.fam (fun _ _ _ _ => rfl) (fun i hi j hj => (h2 i hi j hj (.inl hi)).symm)
theorem blk_up {g : Nat} {C : Array Value} {t : Nat} (hb : Below w.heap.size w w') (h : w.heap[g]? = some (.cells C t (0, 0))) : w'.heap[g]? = some (.cells C t (0, 0)) := (Kept.ofBelow hb (fun _ => False)).obj h id
theorem rvB (n i : Nat) : rv ((n + 1) * 1) (Gb i) = rv (n * 1) (Gb i) ++ [.int .i64 (100 + (i : Int))] := by rw [Nat.mul_one, Nat.mul_one, rv_app]; rfl
theorem rvF (n i : Nat) : rv ((n + 1) * 3) (Gf i) = rv (n * 3) (Gf i) ++ mcs i n := by
  rw [Nat.add_mul, Nat.one_mul]
  refine rv_appL (n * 3) 3 (Gf i) _ rfl fun q hq => ?_
  have hd : (n * 3 + q) / 3 = n := by omega
  have hm : (n * 3 + q) % 3 = q := by omega
  unfold Gf
  rw [hd, hm]
  have : q = 0 ∨ q = 1 ∨ q = 2 := by omega
  rcases this with rfl | rfl | rfl <;> rfl
theorem pgm_grow {m : Sl} {vm : Nat → Sl} {k yn yc c1 : Nat} {ya a1 : Option Addr} {V Y : World} (h : PgM B sb w P S m vm k ⟨ya, yn, yc⟩ w1) (bv : Below w1.heap.size w1 V) (hq : m.n < S.N)
    (ho : Y.ownsRow B 3 1 (.slice a1 (yn + 1) c1) (yn + 1) (rv (yn * 1) (Gb m.n) ++ [.int .i64 (100 + (m.n : Int))])) (hk : Kept V Y (fun j => (Value.slice ya yn yc).ownBlock = some j)) (he : ApAt (.slice ya yn yc) (.slice a1 (yn + 1) c1) yn V.heap.size) (hold : Y.ownsRow B 3 1 (.slice ya yn yc) yn (rv (yn * 1) (Gb m.n))) : PgM B sb w P S m vm (k + 1) ⟨a1, yn + 1, c1⟩ Y := by
  have hpV := h.p.still bv
  have hgV : Gw B 3 1 V S.N S.vb m.n vm Gb k ⟨ya, yn, yc⟩ := ⟨h.g.n, own_still h.g.o bv, h.g.d, h.g.u, h.g.e⟩
  obtain ⟨g2, ok2⟩ := hpV.ok.growB (x := ⟨ya, yn, yc⟩) (a' := a1) (c' := c1) hgV hq (by rw [rvB]; exact ho) hk he hold
  refine ⟨hpV.grow (x := ⟨ya, yn, yc⟩) ok2 hk h.x, g2, fun j hj => ?_⟩
  rcases he.out with ⟨g, cap, e1, e2⟩ | e1
  · have e3 : (Sl.v ⟨a1, yn + 1, c1⟩).ownBlock = (Sl.v ⟨ya, yn, yc⟩).ownBlock := by
      show (Value.slice a1 (yn + 1) c1).ownBlock = (Value.slice ya yn yc).ownBlock
      rw [e1, e2]; rfl
    exact h.x j (e3 ▸ hj)
  · have e3 : some V.heap.size = some j := e1 ▸ hj
    simp at e3
    have := hpV.k.size
    exact .inr (by omega)
theorem pgl_grow {m : Sl} {vm : Nat → Sl} {k yn yc c1 : Nat} {ya a1 : Option Addr} {V Y : World} (h : PgL B sb w P S m vm k ⟨ya, yn, yc⟩ w1) (bv : Below w1.heap.size w1 V) (hq : m.n < S.M)
    (ho : Y.ownsRow B 79 3 (.slice a1 (yn + 1) c1) (yn + 1) (rv (yn * 3) (Gf m.n) ++ mcs m.n yn)) (hk : Kept V Y (fun j => (Value.slice ya yn yc).ownBlock = some j)) (he : ApAt (.slice ya yn yc) (.slice a1 (yn + 1) c1) yn V.heap.size) (hold : Y.ownsRow B 79 3 (.slice ya yn yc) yn (rv (yn * 3) (Gf m.n))) : PgL B sb w P S m vm (k + 1) ⟨a1, yn + 1, c1⟩ Y := by
  have hpV := h.p.still bv
  have hgV : Gw B 79 3 V S.M S.vo m.n vm Gf k ⟨ya, yn, yc⟩ := ⟨h.g.n, own_still h.g.o bv, h.g.d, h.g.u, h.g.e⟩
  obtain ⟨g2, ok2⟩ := hpV.ok.growF (x := ⟨ya, yn, yc⟩) (a' := a1) (c' := c1) hgV hq (by rw [rvF]; exact ho) hk he hold
  refine ⟨hpV.grow (x := ⟨ya, yn, yc⟩) ok2 hk h.x, g2, fun j hj => ?_⟩
  rcases he.out with ⟨g, cap, e1, e2⟩ | e1
  · have e3 : (Sl.v ⟨a1, yn + 1, c1⟩).ownBlock = (Sl.v ⟨ya, yn, yc⟩).ownBlock := by
      show (Value.slice a1 (yn + 1) c1).ownBlock = (Value.slice ya yn yc).ownBlock
      rw [e1, e2]; rfl
    exact h.x j (e3 ▸ hj)
  · have e3 : some V.heap.size = some j := e1 ▸ hj
    simp at e3
    have := hpV.k.size
    exact .inr (by omega)
theorem pgm_done {m x : Sl} {vm : Nat → Sl} {c1 : Nat} {a1 : Option Addr} {V Y : World} (h : PgM B sb w P S m vm 64 x w1) (bv : Below w1.heap.size w1 V)
    (ho : Y.ownsRow B 29 1 (.slice a1 (m.n + 1) c1) (m.n + 1) (rv m.n (fun i => (vm i).v) ++ [x.v])) (hk : Kept V Y (fun j => m.v.ownBlock = some j)) (he : (Value.slice a1 (m.n + 1) c1).ownBlock = m.v.ownBlock ∨ (Value.slice a1 (m.n + 1) c1).ownBlock = some V.heap.size) : PsM B sb w P S (m.n + 1) (Y.setCell ⟨sb, 1, none⟩ (.slice a1 (m.n + 1) c1)) := by
  have hpV := h.p.still bv
  have hgV : Gw B 3 1 V S.N S.vb m.n vm Gb 64 x := ⟨h.g.n, own_still h.g.o bv, h.g.d, h.g.u, h.g.e⟩
  exact ⟨⟨a1, m.n + 1, c1⟩, updS vm m.n x, hpV.app (x := x) (hpV.ok.appM (S := S.mm m vm) hgV ho hk he) h.x, rfl⟩
theorem pgl_done {m x : Sl} {vm : Nat → Sl} {c1 : Nat} {a1 : Option Addr} {V Y : World} (h : PgL B sb w P S m vm 64 x w1) (bv : Below w1.heap.size w1 V)
    (ho : Y.ownsRow B 40 1 (.slice a1 (m.n + 1) c1) (m.n + 1) (rv m.n (fun i => (vm i).v) ++ [x.v])) (hk : Kept V Y (fun j => m.v.ownBlock = some j)) (he : (Value.slice a1 (m.n + 1) c1).ownBlock = m.v.ownBlock ∨ (Value.slice a1 (m.n + 1) c1).ownBlock = some V.heap.size) : PsL B sb w P S (m.n + 1) (Y.setCell ⟨sb, 3, none⟩ (.slice a1 (m.n + 1) c1)) := by
  have hpV := h.p.still bv
  have hgV : Gw B 79 3 V S.M S.vo m.n vm Gf 64 x := ⟨h.g.n, own_still h.g.o bv, h.g.d, h.g.u, h.g.e⟩
  exact ⟨⟨a1, m.n + 1, c1⟩, updS vm m.n x, hpV.app (x := x) (hpV.ok.appL (S := S.ll m vm) hgV ho hk he) h.x, rfl⟩
end
end Go.Proofs.Ytdegjhkjmgimpaa.Ms
