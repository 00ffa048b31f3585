import Derived.Test.YtdegjhkjmgimpaaV39
import Derived.Test.YtdegjhkjmgimpaaV40
namespace Go.Proofs.Ytdegjhkjmgimpaa.Ms
open Go.RowKit Go.Maps Mb Oe
set_option linter.unusedVariables false
set_option linter.unusedSimpArgs false
set_option maxRecDepth 100000
section
variable {A A' : Ag} {w w' W W0 w1 w2 Z Y : World} {B B' K m b n s sb i kc : Nat} {T inc : Int} {P : Nat → Prop} {S S' : St} {S1 S2 S3 : Si} {cc : Array Value}
theorem St.Ok.ne {fb fo : Nat → Nat → Value} (h : S.Ok w B sb fb fo) {k t : Nat} {C : Array Value} (hk : w.heap[k]? = some (.cells C t (0, 0))) (h1 : t ≠ 39) (h2 : t ≠ 29) (h3 : t ≠ 40) (h4 : t ≠ 3) (h5 : t ≠ 79) : ¬ S.own sb k := by
  have aux : ∀ {t' s n : Nat} {v : Value} {l : List Value}, w.ownsRow B t' s v n l → v.ownBlock = some k → t = t' := fun ho hg => by
    obtain ⟨cur, h2⟩ := row_ty ho hg
    rw [hk] at h2
    simp at h2
    exact h2.2
  rintro (rfl | e | e | e | e | ⟨q, hq, e⟩ | ⟨q, hq, e⟩ | ⟨q, hq, e⟩ | ⟨q, hq, e⟩)
  · have h6 := h.blk
    rw [hk] at h6
    simp at h6
    exact h1 h6.2
  · exact h2 (aux h.rb e)
  · exact h2 (aux h.rm e)
  · exact h3 (aux h.ro e)
  · exact h3 (aux h.rl e)
  · exact h4 (aux (h.fb.o q hq) e)
  · exact h5 (aux (h.fo.o q hq) e)
  · exact h4 (aux (h.gm.o q hq) e)
  · exact h5 (aux (h.gl.o q hq) e)
structure Wm (W0 w : World) (B sb b n s : Nat) (inc : Int) (kc : Nat) (cc : Array Value) (A : Ag) (S : St) (i : Nat) : Prop where
  f : Fs w b n s inc kc cc A
  hB : B ≤ w.heap.size
  st : S.Ok w B sb Gb Gf
  bn : S.b.n = S.N
  mn : S.m.n = S.N
  on : S.o.n = S.M
  ln : S.l.n = S.M
  N : S.N = 7 * i
  M : S.M = 5 * i
  lb : ∀ j, j < S.N → (S.vb j).n ≤ 1000
  lo : ∀ j, j < S.M → (S.vo j).n ≤ 1000
  am : ∀ g, A.msv.ownBlock = some g → ¬ S.own sb g
  lw : Below W0.heap.size W0 w
  b0 : W0.heap.size ≤ b ∧ W0.heap.size ≤ B
theorem Wm.fit (h : Wm W0 w B sb b n s inc kc cc A S i) (hi : i ≤ 60) : S.Fit := ⟨h.bn, h.mn, h.on, h.ln, by have := h.N; omega, by have := h.M; omega, h.lb, h.lo⟩
theorem Wm.sob (h : Wm W0 w B sb b n s inc kc cc A S i) : ¬ S.own sb b := by
  obtain ⟨C, hC⟩ := h.f.blk
  exact h.st.ne hC (by decide) (by decide) (by decide) (by decide) (by decide)
theorem Wm.still (h : Wm W0 w B sb b n s inc kc cc A S i) (hb : Below w.heap.size w w') : Wm W0 w' B sb b n s inc kc cc A S i :=
  { h with f := h.f.still hb, hB := Nat.le_trans h.hB hb.size, st := h.st.still hb, lw := h.lw.trans (hb.mono h.lw.size) }
theorem Wm.stepA (h : Wm W0 w B sb b n s inc kc cc A S i) (hf : Fs w' b n s inc kc cc A') (hk : Kept w w' (fun j => j = b)) (hm : ∀ g, A'.msv.ownBlock = some g → ¬ S.own sb g) : Wm W0 w' B sb b n s inc kc cc A' S i :=
  { h with f := hf, hB := Nat.le_trans h.hB hk.size, st := h.st.keep hk (fun j hj e => h.sob (by have e' : j = b := e; exact e' ▸ hj)), am := hm, lw := h.lw.trans (hk.below h.lw.size (fun k hlt e => by have e' : k = b := e; have := h.b0.1; omega)) }
theorem Wm.call (h : Wm W0 w B sb b n s inc kc cc A S i) (o : Opx) (hr : o.Rd w) (h5 : o.kind ≠ 5) : Calls Try.prog 8 #[.pointer (some ⟨b, 0, none⟩), .agg o.cs] w fun e w' => ∃ E A', e = .returned (.int .i64 E) ∧ Wm W0 w' B sb b n s inc kc cc A' S i ∧ Kept w w' (fun j => j = b) := by
  refine (h.f.call o hr).mono ?_
  rintro e w' ⟨E, A', rfl, hf, hk, hs⟩
  exact ⟨E, A', rfl, h.stepA hf hk (by rw [(stp_vx hs h5).msv]; exact h.am), hk⟩
structure Hm (w : World) (B0 : Nat) (A : Ag) (t m : Sl) (ts ms : List Value) : Prop where
  ot : w.ownsRow B0 3 1 t.v t.n ts
  om : w.ownsRow B0 79 3 m.v m.n ms
  am : ∀ g, A.msv.ownBlock = some g → m.v.ownBlock ≠ some g
  tn : t.n ≤ 16
  mn : m.n ≤ 16
theorem Hm.still {B0 : Nat} {t m : Sl} {ts ms : List Value} (h : Hm w B0 A t m ts ms) (hb : Below w.heap.size w w') : Hm w' B0 A t m ts ms := { h with ot := own_still h.ot hb, om := own_still h.om hb }
theorem hm_nil (w : World) (B0 : Nat) (A : Ag) : Hm w B0 A ⟨none, 0, 0⟩ ⟨none, 0, 0⟩ [] [] := ⟨⟨rfl, .inl ⟨rfl, rfl⟩⟩, ⟨rfl, .inl ⟨rfl, rfl⟩⟩, fun g hg e => by simp [Sl.v, Value.ownBlock] at e, Nat.zero_le _, Nat.zero_le _⟩
theorem Wm.inst (h : Wm W0 w B sb b n s inc kc cc A S i) : Calls Try.prog 7 #[.pointer (some ⟨b, 0, none⟩)] w fun e w' => ∃ (j0 j1 j2 j3 E : Int) (t m : Sl) (ts ms : List Value) (A' : Ag), e = .returned (.tuple #[.agg #[.int .i64 j0, .int .i64 j1, .int .i64 j2, .int .i64 j3, .slice m.a m.n m.c], .slice t.a t.n t.c, .int .i64 E]) ∧ Wm W0 w' B sb b n s inc kc cc A' S i ∧ Hm w' w.heap.size A' t m ts ms ∧ Kept w w' (fun j => j = b) := by
  cases hg : A.agr with
  | false =>
    refine (h.f.noinst hg).mono ?_
    rintro e w' ⟨rfl, hb⟩
    exact ⟨0, 0, 0, 0, 61, ⟨none, 0, 0⟩, ⟨none, 0, 0⟩, [], [], A, rfl, h.still hb, hm_nil _ _ _, Kept.ofBelow hb _⟩
  | true =>
    have hv := h.f.iv
    have hy := install_yes h.f.ok h.f.set hg
    rw [h.f.b] at hy
    refine hy.mono ?_
    rintro e w3 ⟨g, c, g', c', v, rfl, hA3, ho1, ho2, hgs, hgg, hvb, hK⟩
    obtain ⟨ao, cp, rfl⟩ := own_slice ho2
    have htn : (A.wl A.tog).length ≤ 16 := by
      unfold Ag.wl Ag.wlN
      rw [List.length_map]
      exact Nat.le_trans (List.length_filter_le _ _) (by rw [List.length_range]; exact hv.n16.2.1)
    have hnn := topL_nn (inc := inc) h.f.ok
    obtain ⟨C, hC⟩ := h.f.blk
    have hf : Fs w3 b n s inc kc cc (A.inst g c) := ⟨hA3, hv.ins g c hnn, h.f.ix, h.f.b, h.f.n, h.f.self, hK.obj h.f.m1 (fun e => blk_ne h.f.m1 hC (by decide) e)⟩
    refine ⟨_, _, _, _, 0, ⟨ao, (A.wl A.tog).length, cp⟩, ⟨some ⟨g', 0, none⟩, A.mids.length, c'⟩, _, _, A.inst g c, rfl, h.stepA hf hK (fun q hq e => ?_), ⟨ho2, ho1, fun q hq e => ?_, htn, Nat.le_trans (mids_len A) hv.n16.2.1⟩, hK⟩
    · have e1 : some g = some q := hq
      simp at e1
      have := (h.st.lt e).1
      omega
    · have e1 : some g = some q := hq
      have e2 : some g' = some q := e
      simp at e1 e2
      omega
theorem Wm.keepV {vb t : Nat} {C : Array Value} (h : Wm W0 w B sb b n s inc kc cc A S i) (k : Kept w w' (fun j => j = vb)) (hv : w.heap[vb]? = some (.cells C t (0, 0))) (h1 : t ≠ 39) (h2 : t ≠ 29) (h3 : t ≠ 40) (h4 : t ≠ 3) (h5 : t ≠ 79) (h6 : t ≠ 66) (h7 : t ≠ 24) (hl : W0.heap.size ≤ vb) : Wm W0 w' B sb b n s inc kc cc A S i := by
  obtain ⟨Cb, hCb⟩ := h.f.blk
  exact { h with f := { h.f with ok := h.f.ok.keep k (fun e => blk_ne hCb hv (fun e2 => h6 e2.symm) (by rw [← h.f.b]; exact e)) (fun g hg e => own_ne h.f.ok.mem hv (fun e2 => h5 e2.symm) g hg e), m1 := k.obj h.f.m1 (fun e => blk_ne h.f.m1 hv (fun e2 => h7 e2.symm) e) }, hB := Nat.le_trans h.hB k.size, st := h.st.keep k (fun j hj e => h.st.ne hv h1 h2 h3 h4 h5 (by have e' : j = vb := e; exact e' ▸ hj)), lw := h.lw.trans (k.below h.lw.size (fun q hq e => by have e' : q = vb := e; omega)) }
theorem Hm.keepV {vb B0 ty : Nat} {C : Array Value} {t m : Sl} {ts ms : List Value} (h : Hm w B0 A t m ts ms) (k : Kept w w' (fun j => j = vb)) (hv : w.heap[vb]? = some (.cells C ty (0, 0))) (h4 : ty ≠ 3) (h5 : ty ≠ 79) : Hm w' B0 A t m ts ms :=
  { h with ot := k.owns h.ot (fun j hj e => own_ne h.ot hv (fun e2 => h4 e2.symm) j hj e), om := k.owns h.om (fun j hj e => own_ne h.om hv (fun e2 => h5 e2.symm) j hj e) }
theorem Wm.look (h : Wm W0 w B sb b n s inc kc cc A S i) : Calls Try.prog 9 #[.pointer (some ⟨b, 0, none⟩)] w fun e w' => ∃ S1 : Si, e = .returned (.agg S1.cs.toArray) ∧ So w.heap.size S1 w' ∧ S1.sg = A.sg ∧ Below w.heap.size w w' := by
  have hh := look_own h.f.ok h.f.iv
  rw [h.f.b] at hh
  exact hh
theorem Wm.est (h : Wm W0 w B sb b n s inc kc cc A S i) : Calls Try.prog 10 #[.pointer (some ⟨b, 0, none⟩), .slice none 0 0] w fun e w' => e = .returned (.tuple #[.bool false, .int .i64 60]) ∧ Wm W0 w' B sb b n s inc kc cc A S i ∧ Kept w w' (fun j => j = b) := by
  have hr : RdI w none 0 [] := ⟨rfl, .inl rfl⟩
  have hh := est_any h.f.ok (by omega) hr (c := 0) (by omega)
  have h0 : okL [] A.n = false := by
    have := h.f.iv.n16
    unfold okL
    rw [decide_eq_false (by show ¬ (0 = A.n); omega)]
    rfl
  have e1 : A.estB [] = false := by unfold Ag.estB; rw [if_pos (.inl h0)]
  have e2 : A.estE [] = 60 := by unfold Ag.estE; rw [if_pos (.inl h0)]
  have e3 : A.estA [] = A := by unfold Ag.estA; rw [if_pos (.inl h0)]
  rw [e1, e2, e3, h.f.b] at hh
  refine hh.mono ?_
  rintro e w' ⟨rfl, hok, hk⟩
  exact ⟨rfl, h.stepA (h.f.same hok hk) hk h.am, hk⟩
def Sok (S : Si) (j : Nat) : Prop := (Value.slice S.p.sa S.p.sn S.p.sc).ownBlock = some j ∨ (Value.slice S.p.va S.p.vn S.p.vc).ownBlock = some j ∨ (Value.slice S.va S.vk S.vc).ownBlock = some j ∨ (Value.slice S.ua S.uk S.uc).ownBlock = some j ∨ (Value.slice S.ta S.tn S.tc).ownBlock = some j
theorem So.lt (h : So B S1 w) {j : Nat} (hj : Sok S1 j) : B ≤ j ∧ j < w.heap.size := by
  rcases hj with e | e | e | e | e
  · exact World.ownsRow.lt h.s j e
  · exact World.ownsRow.lt h.ve j e
  · exact World.ownsRow.lt h.v j e
  · exact World.ownsRow.lt h.u j e
  · exact World.ownsRow.lt h.t j e
structure Ck (W0 w : World) (B sb b n s : Nat) (inc : Int) (kc : Nat) (cc : Array Value) (A : Ag) (S : St) (i : Nat) (t m : Sl) (ts ms : List Value) (β0 β1 β2 β3 : Nat) (S1 S2 S3 : Si) : Prop where
  wm : Wm W0 w B sb b n s inc kc cc A S i
  hm : Hm w β0 A t m ts ms
  so : ∀ j, S.own sb j → j < β0
  tl : ∀ j, (t.v.ownBlock = some j ∨ m.v.ownBlock = some j) → j < β1
  ml : ∀ g, A.msv.ownBlock = some g → g < β1
  s1 : So β1 S1 w
  l1 : ∀ j, Sok S1 j → j < β2
  s2 : So β2 S2 w
  l2 : ∀ j, Sok S2 j → j < β3
  s3 : So β3 S3 w
  g3 : S3.sg = A.sg
  bb : b < β0
  or : B ≤ β0 ∧ β0 ≤ β1 ∧ β1 ≤ β2 ∧ β2 ≤ β3 ∧ β3 ≤ w.heap.size
theorem Ck.still {t m : Sl} {ts ms : List Value} {β0 β1 β2 β3 : Nat} (h : Ck W0 w B sb b n s inc kc cc A S i t m ts ms β0 β1 β2 β3 S1 S2 S3) (hb : Below w.heap.size w w') : Ck W0 w' B sb b n s inc kc cc A S i t m ts ms β0 β1 β2 β3 S1 S2 S3 :=
  { h with wm := h.wm.still hb, hm := h.hm.still hb, s1 := h.s1.still hb, s2 := h.s2.still hb, s3 := h.s3.still hb, or := ⟨h.or.1, h.or.2.1, h.or.2.2.1, h.or.2.2.2.1, Nat.le_trans h.or.2.2.2.2 hb.size⟩ }
end
end Go.Proofs.Ytdegjhkjmgimpaa.Ms
namespace Go.Proofs.Ytdegjhkjmgimpaa.Ms
open Go.RowKit Go.Maps Mb Oe
set_option linter.unusedVariables false
set_option linter.unusedSimpArgs false
set_option maxRecDepth 100000
section
variable {A A' : Ag} {w w' W W0 w1 w2 Z Y V : World} {B B' K m b n s sb i kc : Nat} {T inc : Int} {P : Nat → Prop} {S S' : St} {S1 S2 S3 : Si} {cc : Array Value}
def cmb {α : Type} (N : Nat) (f g : Nat → α) : Nat → α := fun i => if i < N then f i else g (i - N)
theorem cmb_lo {α : Type} {N i : Nat} (f g : Nat → α) (h : i < N) : cmb N f g i = f i := by simp [cmb, h]
theorem cmb_hi {α : Type} (N i : Nat) (f g : Nat → α) : cmb N f g (N + i) = g i := by
  unfold cmb
  rw [if_neg (by omega), Nat.add_sub_cancel_left]
theorem rv_eq {n : Nat} {f : Nat → Value} {l : List Value} (hl : l.length = n) (h : ∀ i, i < n → l[i]? = some (f i)) : rv n f = l := by
  apply List.ext_getElem?
  intro i
  by_cases hi : i < n
  · rw [rv_get f hi, h i hi]
  · rw [List.getElem?_eq_none (by rw [rv_len]; omega), List.getElem?_eq_none (by omega)]
theorem Fm.join {T s N K : Nat} {v u : Nat → Sl} {f e : Nat → Nat → Value} (h : Fm B T s w N v f) (g : Fm B T s w K u e) (hx : ∀ i j, i < N → j < K → ∀ b, (v i).v.ownBlock = some b → (u j).v.ownBlock ≠ some b) : Fm B T s w (N + K) (cmb N v u) (cmb N f e) := by
  have sp : ∀ i, i < N + K → (i < N ∧ cmb N v u i = v i ∧ cmb N f e i = f i) ∨ ∃ q, q < K ∧ i = N + q ∧ cmb N v u i = u q ∧ cmb N f e i = e q := fun i hi => by
    by_cases h1 : i < N
    · exact .inl ⟨h1, cmb_lo _ _ h1, cmb_lo _ _ h1⟩
    · obtain ⟨q, rfl⟩ : ∃ q, i = N + q := ⟨i - N, by omega⟩
      exact .inr ⟨q, by omega, rfl, cmb_hi _ _ _ _, cmb_hi _ _ _ _⟩
  refine ⟨fun i hi => ?_, fun i j hi hj hne b hb => ?_⟩
  · rcases sp i hi with ⟨h1, h2, h3⟩ | ⟨q, h1, rfl, h2, h3⟩
    · rw [h2, h3]; exact h.o i h1
    · rw [h2, h3]; exact g.o q h1
  · rcases sp i hi with ⟨h1, h2, h3⟩ | ⟨q, h1, rfl, h2, h3⟩ <;> rcases sp j hj with ⟨k1, k2, k3⟩ | ⟨r, k1, rfl, k2, k3⟩
    · rw [h2] at hb; rw [k2]; exact h.d i j h1 k1 hne b hb
    · rw [h2] at hb; rw [k2]; exact hx i r h1 k1 b hb
    · rw [h2] at hb; rw [k2]; exact fun e2 => hx j q k1 h1 b e2 hb
    · rw [h2] at hb; rw [k2]; exact g.d q r h1 k1 (by omega) b hb
theorem Gr.join {T s N K K2 : Nat} {v v2 u : Nat → Sl} {G : Nat → Nat → Value} (h : Gr B T s w N v K u G) (hK : K ≤ N) (hx : ∀ i j, i < K → j < K2 → ∀ b, (u i).v.ownBlock = some b → (v2 j).v.ownBlock ≠ some b) : Gr B T s w (N + K2) (cmb N v v2) K u G := by
  refine ⟨fun i hi => by rw [cmb_lo v v2 (show i < N by omega)]; exact h.n i hi, h.o, fun i j hi hj hne b hb => ?_⟩
  by_cases h1 : j < N
  · rw [cmb_lo v v2 h1]; exact h.d i j hi h1 hne b hb
  · obtain ⟨q, rfl⟩ : ∃ q, j = N + q := ⟨j - N, by omega⟩
    rw [cmb_hi]; exact hx i q hi (by omega) b hb
def nx (t : Sl) (S1 S2 : Si) (i : Nat) : Sl := if i = 0 then t else if i = 1 then ⟨S1.p.sa, S1.p.sn, S1.p.sc⟩ else if i = 2 then ⟨S1.p.va, S1.p.vn, S1.p.vc⟩ else if i = 3 then ⟨S1.ta, S1.tn, S1.tc⟩ else if i = 4 then ⟨S2.p.sa, S2.p.sn, S2.p.sc⟩ else if i = 5 then ⟨S2.p.va, S2.p.vn, S2.p.vc⟩ else ⟨S2.ta, S2.tn, S2.tc⟩
def nly (ts : List Value) (S1 S2 : Si) (i : Nat) : List Value := if i = 0 then ts else if i = 1 then ints S1.p.ss else if i = 2 then ints S1.p.vs else if i = 3 then ints S1.ts else if i = 4 then ints S2.p.ss else if i = 5 then ints S2.p.vs else ints S2.ts
def my (m : Sl) (S1 S2 : Si) (i : Nat) : Sl := if i = 0 then m else if i = 1 then ⟨S1.va, S1.vk, S1.vc⟩ else if i = 2 then ⟨S1.ua, S1.uk, S1.uc⟩ else if i = 3 then ⟨S2.va, S2.vk, S2.vc⟩ else ⟨S2.ua, S2.uk, S2.uc⟩
def mly (ms : List Value) (S1 S2 : Si) (i : Nat) : List Value := if i = 0 then ms else if i = 1 then ints S1.vm else if i = 2 then ints S1.um else if i = 3 then ints S2.vm else ints S2.um
def St.ext (S : St) (x y : Nat → Sl) : St := { S with N := S.N + 7, M := S.M + 5, vb := cmb S.N S.vb x, vo := cmb S.M S.vo y }
theorem fm_of {T s N : Nat} {v : Nat → Sl} {l : Nat → List Value} (h : ∀ i, i < N → w.ownsRow B T s (v i).v (v i).n (l i)) (hd : ∀ i j, i < N → j < N → i ≠ j → ∀ g, (v i).v.ownBlock = some g → (v j).v.ownBlock ≠ some g) : Fm B T s w N v (fun i j => (l i).getD j undef) := by
  refine ⟨fun i hi => ?_, hd⟩
  have h1 := h i hi
  have h2 : rv ((v i).n * s) (fun j => (l i).getD j undef) = l i := by
    refine rv_eq h1.1 fun q hq => ?_
    have hq' : q < (l i).length := by rw [h1.1]; exact hq
    simp [List.getD, List.getElem?_eq_getElem hq']
  rw [h2]
  exact h1
section
variable {t m : Sl} {ts ms : List Value} {β0 β1 β2 β3 : Nat}
theorem Ck.rowB (h : Ck W0 w B sb b n s inc kc cc A S i t m ts ms β0 β1 β2 β3 S1 S2 S3) : ∀ q, q < 7 → w.ownsRow B 3 1 (nx t S1 S2 q).v (nx t S1 S2 q).n (nly ts S1 S2 q) := fun q hq => by
  have ho := h.or
  have hq7 : q = 0 ∨ q = 1 ∨ q = 2 ∨ q = 3 ∨ q = 4 ∨ q = 5 ∨ q = 6 := by omega
  rcases hq7 with rfl | rfl | rfl | rfl | rfl | rfl | rfl
  · exact own_lower h.hm.ot (by omega)
  · exact own_lower h.s1.s (by omega)
  · exact own_lower h.s1.ve (by omega)
  · exact own_lower h.s1.t (by omega)
  · exact own_lower h.s2.s (by omega)
  · exact own_lower h.s2.ve (by omega)
  · exact own_lower h.s2.t (by omega)
theorem Ck.rowM (h : Ck W0 w B sb b n s inc kc cc A S i t m ts ms β0 β1 β2 β3 S1 S2 S3) : ∀ q, q < 5 → w.ownsRow B 79 3 (my m S1 S2 q).v (my m S1 S2 q).n (mly ms S1 S2 q) := fun q hq => by
  have ho := h.or
  have hq5 : q = 0 ∨ q = 1 ∨ q = 2 ∨ q = 3 ∨ q = 4 := by omega
  rcases hq5 with rfl | rfl | rfl | rfl | rfl
  · exact own_lower h.hm.om (by omega)
  · exact own_lower h.s1.v (by omega)
  · exact own_lower h.s1.u (by omega)
  · exact own_lower h.s2.v (by omega)
  · exact own_lower h.s2.u (by omega)
theorem Ck.rkB (h : Ck W0 w B sb b n s inc kc cc A S i t m ts ms β0 β1 β2 β3 S1 S2 S3) : ∀ q, q < 7 → ∀ g, (nx t S1 S2 q).v.ownBlock = some g → (q = 0 ∧ β0 ≤ g ∧ g < β1) ∨ ((q = 1 ∨ q = 2 ∨ q = 3) ∧ β1 ≤ g ∧ g < β2) ∨ ((q = 4 ∨ q = 5 ∨ q = 6) ∧ β2 ≤ g ∧ g < β3) := fun q hq g hg => by
  have hq7 : q = 0 ∨ q = 1 ∨ q = 2 ∨ q = 3 ∨ q = 4 ∨ q = 5 ∨ q = 6 := by omega
  rcases hq7 with rfl | rfl | rfl | rfl | rfl | rfl | rfl
  · exact .inl ⟨rfl, (World.ownsRow.lt h.hm.ot g hg).1, h.tl g (.inl hg)⟩
  · exact .inr (.inl ⟨by omega, (World.ownsRow.lt h.s1.s g hg).1, h.l1 g (.inl hg)⟩)
  · exact .inr (.inl ⟨by omega, (World.ownsRow.lt h.s1.ve g hg).1, h.l1 g (.inr (.inl hg))⟩)
  · exact .inr (.inl ⟨by omega, (World.ownsRow.lt h.s1.t g hg).1, h.l1 g (.inr (.inr (.inr (.inr hg))))⟩)
  · exact .inr (.inr ⟨by omega, (World.ownsRow.lt h.s2.s g hg).1, h.l2 g (.inl hg)⟩)
  · exact .inr (.inr ⟨by omega, (World.ownsRow.lt h.s2.ve g hg).1, h.l2 g (.inr (.inl hg))⟩)
  · exact .inr (.inr ⟨by omega, (World.ownsRow.lt h.s2.t g hg).1, h.l2 g (.inr (.inr (.inr (.inr hg))))⟩)
theorem Ck.rkM (h : Ck W0 w B sb b n s inc kc cc A S i t m ts ms β0 β1 β2 β3 S1 S2 S3) : ∀ q, q < 5 → ∀ g, (my m S1 S2 q).v.ownBlock = some g → (q = 0 ∧ β0 ≤ g ∧ g < β1) ∨ ((q = 1 ∨ q = 2) ∧ β1 ≤ g ∧ g < β2) ∨ ((q = 3 ∨ q = 4) ∧ β2 ≤ g ∧ g < β3) := fun q hq g hg => by
  have hq5 : q = 0 ∨ q = 1 ∨ q = 2 ∨ q = 3 ∨ q = 4 := by omega
  rcases hq5 with rfl | rfl | rfl | rfl | rfl
  · exact .inl ⟨rfl, (World.ownsRow.lt h.hm.om g hg).1, h.tl g (.inr hg)⟩
  · exact .inr (.inl ⟨by omega, (World.ownsRow.lt h.s1.v g hg).1, h.l1 g (.inr (.inr (.inl hg)))⟩)
  · exact .inr (.inl ⟨by omega, (World.ownsRow.lt h.s1.u g hg).1, h.l1 g (.inr (.inr (.inr (.inl hg))))⟩)
  · exact .inr (.inr ⟨by omega, (World.ownsRow.lt h.s2.v g hg).1, h.l2 g (.inr (.inr (.inl hg)))⟩)
  · exact .inr (.inr ⟨by omega, (World.ownsRow.lt h.s2.u g hg).1, h.l2 g (.inr (.inr (.inr (.inl hg))))⟩)
theorem Ck.dB (h : Ck W0 w B sb b n s inc kc cc A S i t m ts ms β0 β1 β2 β3 S1 S2 S3) : ∀ p q, p < 7 → q < 7 → p ≠ q → ∀ g, (nx t S1 S2 p).v.ownBlock = some g → (nx t S1 S2 q).v.ownBlock ≠ some g := fun p q hp hq hne g h1 h2 => by
  have ho := h.or
  have r1 := h.rkB p hp g h1
  have r2 := h.rkB q hq g h2
  rcases r1 with ⟨e1, r1⟩ | ⟨e1, r1⟩ | ⟨e1, r1⟩ <;> rcases r2 with ⟨e2, r2⟩ | ⟨e2, r2⟩ | ⟨e2, r2⟩ <;> first
    | omega
    | (rcases e1 with rfl | rfl | rfl <;> rcases e2 with rfl | rfl | rfl <;> first
        | exact absurd rfl hne
        | exact h.s1.dsv g h1 h2
        | exact h.s1.dsv g h2 h1
        | exact h.s1.dst g h1 h2
        | exact h.s1.dst g h2 h1
        | exact h.s1.dvt g h1 h2
        | exact h.s1.dvt g h2 h1
        | exact h.s2.dsv g h1 h2
        | exact h.s2.dsv g h2 h1
        | exact h.s2.dst g h1 h2
        | exact h.s2.dst g h2 h1
        | exact h.s2.dvt g h1 h2
        | exact h.s2.dvt g h2 h1)
theorem Ck.dM (h : Ck W0 w B sb b n s inc kc cc A S i t m ts ms β0 β1 β2 β3 S1 S2 S3) : ∀ p q, p < 5 → q < 5 → p ≠ q → ∀ g, (my m S1 S2 p).v.ownBlock = some g → (my m S1 S2 q).v.ownBlock ≠ some g := fun p q hp hq hne g h1 h2 => by
  have ho := h.or
  have r1 := h.rkM p hp g h1
  have r2 := h.rkM q hq g h2
  rcases r1 with ⟨e1, r1⟩ | ⟨e1, r1⟩ | ⟨e1, r1⟩ <;> rcases r2 with ⟨e2, r2⟩ | ⟨e2, r2⟩ | ⟨e2, r2⟩ <;> first
    | omega
    | (rcases e1 with rfl | rfl <;> rcases e2 with rfl | rfl <;> first
        | exact absurd rfl hne
        | exact h.s1.dvu g h1 h2
        | exact h.s1.dvu g h2 h1
        | exact h.s2.dvu g h1 h2
        | exact h.s2.dvu g h2 h1)
theorem Ck.lenB (h : Ck W0 w B sb b n s inc kc cc A S i t m ts ms β0 β1 β2 β3 S1 S2 S3) : ∀ q, q < 7 → (nx t S1 S2 q).n ≤ 16 := fun q hq => by
  have hq7 : q = 0 ∨ q = 1 ∨ q = 2 ∨ q = 3 ∨ q = 4 ∨ q = 5 ∨ q = 6 := by omega
  rcases hq7 with rfl | rfl | rfl | rfl | rfl | rfl | rfl
  · exact h.hm.tn
  · exact h.s1.sn
  · exact h.s1.vn
  · exact h.s1.tn
  · exact h.s2.sn
  · exact h.s2.vn
  · exact h.s2.tn
theorem Ck.lenM (h : Ck W0 w B sb b n s inc kc cc A S i t m ts ms β0 β1 β2 β3 S1 S2 S3) : ∀ q, q < 5 → (my m S1 S2 q).n ≤ 16 := fun q hq => by
  have hq5 : q = 0 ∨ q = 1 ∨ q = 2 ∨ q = 3 ∨ q = 4 := by omega
  rcases hq5 with rfl | rfl | rfl | rfl | rfl
  · exact h.hm.mn
  · exact h.s1.vk
  · exact h.s1.uk
  · exact h.s2.vk
  · exact h.s2.uk
theorem Ck.ok (h : Ck W0 w B sb b n s inc kc cc A S i t m ts ms β0 β1 β2 β3 S1 S2 S3) : (S.ext (nx t S1 S2) (my m S1 S2)).Ok w B sb (cmb S.N Gb (fun i j => (nly ts S1 S2 i).getD j undef)) (cmb S.M Gf (fun i j => (mly ms S1 S2 i).getD j undef)) := by
  have ho := h.or
  have hb : ∀ q, q < 7 → ∀ g, (nx t S1 S2 q).v.ownBlock = some g → ¬ S.own sb g := fun q hq g hg e => by have := h.rkB q hq g hg; have := h.so g e; omega
  have hm : ∀ q, q < 5 → ∀ g, (my m S1 S2 q).v.ownBlock = some g → ¬ S.own sb g := fun q hq g hg e => by have := h.rkM q hq g hg; have := h.so g e; omega
  have h0 := h.wm.st
  refine ⟨h0.blk, h0.ge, ?_, h0.rm, ?_, h0.rl, h0.bm, h0.ol, h0.fb.join (fm_of h.rowB h.dB) (fun p q hp hq g h1 h2 => hb q hq g h2 (.inr (.inr (.inr (.inr (.inr (.inl ⟨p, hp, h1⟩))))))), h0.fo.join (fm_of h.rowM h.dM) (fun p q hp hq g h1 h2 => hm q hq g h2 (.inr (.inr (.inr (.inr (.inr (.inr (.inl ⟨p, hp, h1⟩)))))))),
    h0.gm.join (by have := h.wm.mn; omega) (fun p q hp hq g h1 h2 => hb q hq g h2 (.inr (.inr (.inr (.inr (.inr (.inr (.inr (.inl ⟨p, hp, h1⟩))))))))), h0.gl.join (by have := h.wm.ln; omega) (fun p q hp hq g h1 h2 => hm q hq g h2 (.inr (.inr (.inr (.inr (.inr (.inr (.inr (.inr ⟨p, hp, h1⟩)))))))))⟩
  · show w.ownsRow B _ 1 S.b.v S.b.n (rv S.b.n fun i => (cmb S.N S.vb _ i).v)
    rw [rv_congr (fun i hi => by rw [cmb_lo _ _ (by have := h.wm.bn; omega)])]
    exact h0.rb
  · show w.ownsRow B _ 1 S.o.v S.o.n (rv S.o.n fun i => (cmb S.M S.vo _ i).v)
    rw [rv_congr (fun i hi => by rw [cmb_lo _ _ (by have := h.wm.on; omega)])]
    exact h0.ro
theorem Ck.lk (h : Ck W0 w B sb b n s inc kc cc A S i t m ts ms β0 β1 β2 β3 S1 S2 S3) (hi : i < 60) : Lk2 (S.ext (nx t S1 S2) (my m S1 S2)) S.N S.M (cmb S.N Gb (fun i j => (nly ts S1 S2 i).getD j undef)) (cmb S.M Gf (fun i j => (mly ms S1 S2 i).getD j undef)) := by
  have hN := h.wm.N
  have hM := h.wm.M
  refine ⟨h.wm.bn, h.wm.mn, h.wm.on, h.wm.ln, rfl, rfl, by show S.N + 7 ≤ _; omega, by show S.M + 5 ≤ _; omega, fun q hq => ?_, fun q hq => ?_, fun q hq j hj => by rw [cmb_lo _ _ hq], fun q hq j hj => by rw [cmb_lo _ _ hq]⟩
  · by_cases h1 : q < S.N
    · show (cmb S.N S.vb _ q).n ≤ _
      rw [cmb_lo _ _ h1]; exact h.wm.lb q h1
    · obtain ⟨r, rfl⟩ : ∃ r, q = S.N + r := ⟨q - S.N, by omega⟩
      have hq : S.N + r < S.N + 7 := hq
      show (cmb S.N S.vb _ (S.N + r)).n ≤ _
      rw [cmb_hi]; have := h.lenB r (by omega); omega
  · by_cases h1 : q < S.M
    · show (cmb S.M S.vo _ q).n ≤ _
      rw [cmb_lo _ _ h1]; exact h.wm.lo q h1
    · obtain ⟨r, rfl⟩ : ∃ r, q = S.M + r := ⟨q - S.M, by omega⟩
      have hq : S.M + r < S.M + 5 := hq
      show (cmb S.M S.vo _ (S.M + r)).n ≤ _
      rw [cmb_hi]; have := h.lenM r (by omega); omega
theorem Ck.own (h : Ck W0 w B sb b n s inc kc cc A S i t m ts ms β0 β1 β2 β3 S1 S2 S3) {j : Nat} (hj : (S.ext (nx t S1 S2) (my m S1 S2)).own sb j) : S.own sb j ∨ (∃ q, q < 7 ∧ (nx t S1 S2 q).v.ownBlock = some j) ∨ ∃ q, q < 5 ∧ (my m S1 S2 q).v.ownBlock = some j := by
  rcases hj with hj | hj | hj | hj | hj | ⟨q, hq, hj⟩ | ⟨q, hq, hj⟩ | hj | hj
  · exact .inl (.inl hj)
  · exact .inl (.inr (.inl hj))
  · exact .inl (.inr (.inr (.inl hj)))
  · exact .inl (.inr (.inr (.inr (.inl hj))))
  · exact .inl (.inr (.inr (.inr (.inr (.inl hj)))))
  · by_cases h1 : q < S.N
    · have e : (cmb S.N S.vb (nx t S1 S2) q).v.ownBlock = some j := hj
      rw [cmb_lo _ _ h1] at e
      exact .inl (.inr (.inr (.inr (.inr (.inr (.inl ⟨q, h1, e⟩))))))
    · obtain ⟨r, rfl⟩ : ∃ r, q = S.N + r := ⟨q - S.N, by omega⟩
      have e : (cmb S.N S.vb (nx t S1 S2) (S.N + r)).v.ownBlock = some j := hj
      have hq : S.N + r < S.N + 7 := hq
      rw [cmb_hi] at e
      exact .inr (.inl ⟨r, by omega, e⟩)
  · by_cases h1 : q < S.M
    · have e : (cmb S.M S.vo (my m S1 S2) q).v.ownBlock = some j := hj
      rw [cmb_lo _ _ h1] at e
      exact .inl (.inr (.inr (.inr (.inr (.inr (.inr (.inl ⟨q, h1, e⟩)))))))
    · obtain ⟨r, rfl⟩ : ∃ r, q = S.M + r := ⟨q - S.M, by omega⟩
      have e : (cmb S.M S.vo (my m S1 S2) (S.M + r)).v.ownBlock = some j := hj
      have hq : S.M + r < S.M + 5 := hq
      rw [cmb_hi] at e
      exact .inr (.inr ⟨r, by omega, e⟩)
  · exact .inl (.inr (.inr (.inr (.inr (.inr (.inr (.inr (.inl hj))))))))
  · exact .inl (.inr (.inr (.inr (.inr (.inr (.inr (.inr (.inr hj))))))))
def KeptT (w w' : World) : Prop := ∀ (k t : Nat) (C : Array Value), t ≠ 39 → t ≠ 29 → t ≠ 40 → t ≠ 3 → t ≠ 79 → w.heap[k]? = some (.cells C t (0, 0)) → w'.heap[k]? = some (.cells C t (0, 0))
theorem Ck.put {ab cb : Nat} (h : Ck W0 w B sb b n s inc kc cc A S i t m ts ms β0 β1 β2 β3 S1 S2 S3) (hi : i < 60) (hbV : Below w.heap.size w V) (hab : V.heap[ab]? = some (.cells (rv 7 fun q => (nx t S1 S2 q).v).toArray 29 (0, 0))) (hcb : V.heap[cb]? = some (.cells (rv 5 fun q => (my m S1 S2 q).v).toArray 40 (0, 0))) (h1 : w.heap.size ≤ ab) (h2 : w.heap.size ≤ cb) :
    Calls Try.prog 13 #[.pointer (some ⟨sb, 0, none⟩), .slice (some ⟨ab, 0, none⟩) 7 7, .slice (some ⟨cb, 0, none⟩) 5 5] V fun e w' => e = .returned (.tuple #[]) ∧ ∃ S', Wm W0 w' B sb b n s inc kc cc A S' (i + 1) ∧ So β3 S3 w' ∧ KeptT V w' ∧ V.heap.size ≤ w'.heap.size := by
  have hV := h.still hbV
  have ok := hV.ok
  have lk := hV.lk hi
  have hown : ∀ j, (S.ext (nx t S1 S2) (my m S1 S2)).own sb j → j < β3 := fun j hj => by
    have ho := h.or
    rcases h.own hj with e | ⟨q, hq, e⟩ | ⟨q, hq, e⟩
    · have := h.so j e; omega
    · have := h.rkB q hq j e; omega
    · have := h.rkM q hq j e; omega
  have hms : ∀ g, A.msv.ownBlock = some g → ¬ (S.ext (nx t S1 S2) (my m S1 S2)).own sb g := fun g hg e => by
    have ho := h.or
    have hmT := h.wm.f.ok.mem
    rcases h.own e with e | ⟨q, hq, e⟩ | ⟨q, hq, e⟩
    · exact h.wm.am g hg e
    · exact own_ty hmT (h.rowB q hq) (by decide) hg e
    · by_cases hq0 : q = 0
      · subst hq0; exact h.hm.am g hg e
      · have := h.rkM q hq g e; have := h.ml g hg; omega
  have eN : (S.ext (nx t S1 S2) (my m S1 S2)).N = S.N + 7 := rfl
  have eM : (S.ext (nx t S1 S2) (my m S1 S2)).M = S.M + 5 := rfl
  have eb : (rv 7 fun q => ((S.ext (nx t S1 S2) (my m S1 S2)).vb (S.N + q)).v) = rv 7 fun q => (nx t S1 S2 q).v := rv_congr fun q hq => by show (cmb S.N S.vb _ (S.N + q)).v = _; rw [cmb_hi]
  have em : (rv 5 fun q => ((S.ext (nx t S1 S2) (my m S1 S2)).vo (S.M + q)).v) = rv 5 fun q => (my m S1 S2 q).v := rv_congr fun q hq => by show (cmb S.M S.vo _ (S.M + q)).v = _; rw [cmb_hi]
  have ho := h.or
  generalize S.ext (nx t S1 S2) (my m S1 S2) = SX at *
  refine (put_any ok lk (by rw [eb]; exact hab) (by rw [em]; exact hcb) (fun e => by have := hown _ e; omega) (fun e => by have := hown _ e; omega) hV.wm.hB).mono ?_
  rintro e w6 ⟨rfl, ⟨S', ps, fN, fM, fvb, fvo, fbn, fmn, fon, fln⟩⟩
  have hbl : ¬ SX.own sb b := by
    obtain ⟨C, hC⟩ := hV.wm.f.blk
    exact ok.ne hC (by decide) (by decide) (by decide) (by decide) (by decide)
  have hf : Fs w6 b n s inc kc cc A := { hV.wm.f with ok := hV.wm.f.ok.keep ps.k (fun e => hbl (by rw [← h.wm.f.b]; exact e)) hms, m1 := ps.k.obj hV.wm.f.m1 (ok.ne hV.wm.f.m1 (by decide) (by decide) (by decide) (by decide) (by decide)) }
  refine ⟨rfl, S', ⟨hf, Nat.le_trans hV.wm.hB ps.k.size, ps.ok, by rw [fbn, fN], by rw [fmn, fN], by rw [fon, fM], by rw [fln, fM], by rw [fN, eN, h.wm.N]; omega, by rw [fM, eM, h.wm.M]; omega, by rw [fN, fvb]; exact lk.lb, by rw [fM, fvo]; exact lk.lo, fun g hg e => ?_, hV.wm.lw.trans (ps.k.below hV.wm.lw.size (fun j hj e => by have := (ok.lt e).2; have := h.wm.b0.2; omega)), h.wm.b0⟩, hV.s3.keep ps.k (fun j hj e => by have := hown j e; omega), fun k t C e1 e2 e3 e4 e5 hk => ps.k.obj hk (ok.ne hk e1 e2 e3 e4 e5), ps.k.size⟩
  rcases ps.p g e with e | e
  · exact hms g hg e
  · have := h.ml g hg; have := hbV.size; omega
end
end
end Go.Proofs.Ytdegjhkjmgimpaa.Ms
