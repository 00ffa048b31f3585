import Derived.Test.YtobaooebjgoaiaaV41
namespace Go.Proofs.Ytobaooebjgoaiaa.Hh
open Go.RowKit Go.Maps Mb
set_option linter.unusedVariables false
set_option linter.unusedSimpArgs false
set_option maxRecDepth 100000
open Go.Proofs.Ytobaooebjgoaiaa.Fm
section
variable {w w' w1 w2 w3 Z Y V : World} {B T s : Nat} {S S' : St} {hb : Nat} {f f' : Nat → Nat → Nat → Value} {P : Nat → Prop} {c : Nat}
structure Tq (w : World) (X : Nat) (ta : Option Addr) (tc : Nat) (ia : Option Addr) (ic : Nat) (xs fs : List Fl) : Prop where
 len : xs.length = fs.length
 t : w.ownsRow X 53 9 (.slice ta xs.length tc) xs.length (twCells xs)
 i : w.ownsRow X 28 7 (.slice ia xs.length ic) xs.length (flCells xs)
 ok : ∀ k, k < fs.length → TwOk w X (xs.getD k fl0) (fs.getD k fl0).c
theorem tw_keepB {X : Nat} {x : Fl} {d : Co} (h : TwOk w X x d) (k : Kept w w' P) (hp : ∀ j, X ≤ j → ¬ P j) : TwOk w' X x d :=
 ⟨h.ce, k.owns h.s (fun j hj => hp j (World.ownsRow.lt h.s j hj).1), k.owns h.h (fun j hj => hp j (World.ownsRow.lt h.h j hj).1)⟩
section
variable {X : Nat} {ta ia : Option Addr} {tc ic : Nat} {xs fs : List Fl}
theorem Tq.keep (h : Tq w X ta tc ia ic xs fs) (k : Kept w w' P) (hp : ∀ j, X ≤ j → ¬ P j) : Tq w' X ta tc ia ic xs fs :=
 ⟨h.len, k.owns h.t (fun j hj => hp j (World.ownsRow.lt h.t j hj).1), k.owns h.i (fun j hj => hp j (World.ownsRow.lt h.i j hj).1), fun i hi => tw_keepB (h.ok i hi) k hp⟩
theorem Tq.tws (h : Tq w X ta tc ia ic xs fs) : Tws w X ta ia xs fs :=
 ⟨h.len, own_row h.t (fun i hi => twCells_at xs i hi), own_row h.i (fun i hi => flCells_at xs i hi), h.ok⟩
theorem Tq.of (h : Twl w w' xs.length (.slice ta xs.length tc) (.slice ia xs.length ic) xs fs) (hl : xs.length = fs.length) (hX : X ≤ w.heap.size) : Tq w' X ta tc ia ic xs fs :=
 ⟨hl, own_lower h.t hX, own_lower h.i hX, fun k hk => ⟨(h.ok k (by rw [hl]; exact hk)).ce, own_lower (h.ok k (by rw [hl]; exact hk)).s hX, own_lower (h.ok k (by rw [hl]; exact hk)).h hX⟩⟩
end
theorem MoT.keep {t base : Nat} {v : Value} {out : List Dx} (h : MoT t base w v out) (k : Kept w w' P) (hp : ∀ j, base ≤ j → ¬ P j) : MoT t base w' v out :=
 ⟨k.owns h.row (fun j hj => hp j (World.ownsRow.lt h.row j hj).1), fun i hi => k.owns (h.el i hi) (fun j hj => hp j (World.ownsRow.lt (h.el i hi) j hj).1), h.dis⟩
structure Fi (S S' : St) (hb : Nat) (f f' : Nat → Nat → Nat → Value) (xa xb xm : Sl) (la lb : List (Int × Int)) (out : List Dx) (n4 n5 n6 n7 n8 : Nat) : Prop where
 e : S'.r = S.r ∧ S'.q = S.q ∧ S'.z = S.z
 N2 : S'.N 2 = S.N 2 + 2
 N5 : S'.N 5 = S.N 5 + 1
 N0 : S'.N 0 = S.N 0 + out.length
 N : ∀ d, d ≠ 0 → d ≠ 2 → d ≠ 5 → S'.N d = S.N d
 old : Old S S' f f'
 va : S'.v 2 (S.N 2) = xa
 vb : S'.v 2 (S.N 2 + 1) = xb
 vm : S'.v 5 (S.N 5) = xm
 a : SlIn S' f' (S.N 2) la
 b : SlIn S' f' (S.N 2 + 1) lb
 m : MsIn S' f' (S.N 5) out
 p : ∀ k, k < out.length → f' 5 (S.N 5) (k * 4 + 3) = (S'.v 0 (S.N 0 + k)).v
 l : ∀ k, k < out.length → (S'.v 0 (S.N 0 + k)).n = (out.getD k dx0).bs.length
 own : ∀ j, S'.own hb j → S.own hb j ∨ (n4 ≤ j ∧ j < n5) ∨ (n6 ≤ j ∧ j < n7) ∨ n8 ≤ j
theorem fin_in {n4 n5 n6 n7 n8 : Nat} {aa ba ma : Option Addr} {ac bc mc : Nat} {la lb : List (Int × Int)} {out : List Dx} (h : Bt S w B hb f) (b : Below w.heap.size w V)
  (oa : V.ownsRow n4 76 2 (.slice aa la.length ac) la.length (slCells la)) (ha : ∀ j, (Value.slice aa la.length ac).ownBlock = some j → j < n5)
  (ob : V.ownsRow n6 76 2 (.slice ba lb.length bc) lb.length (slCells lb)) (hbb : ∀ j, (Value.slice ba lb.length bc).ownBlock = some j → j < n7)
  (hm : MoT 97 n8 V (.slice ma out.length mc) out) (s4 : w.heap.size ≤ n4) (s5 : n4 ≤ n5) (s6 : n5 ≤ n6) (s7 : n6 ≤ n7) (s8 : n7 ≤ n8) : ∃ S' f', S'.Ok V B hb f' ∧ Fi S S' hb f f' ⟨aa, la.length, ac⟩ ⟨ba, lb.length, bc⟩ ⟨ma, out.length, mc⟩ la lb out n4 n5 n6 n7 n8 := by
 have hlt : ∀ j, S.own hb j → j < w.heap.size := fun j hj => (h.ok.lt hj).1
 have hBw : B ≤ w.heap.size := by
  have h1 := (h.ok.lt (S := S) (hb := hb) (.inl rfl))
  omega
 obtain ⟨S2, f2, k2, e2⟩ := slots_in (xa := ⟨aa, la.length, ac⟩) (xb := ⟨ba, lb.length, bc⟩) (h.ok.still b) (h.z 2 (by omega)) (h.fit.rn 2 (by omega)) oa ob (by omega) (fun j hj => by have := hlt j hj; omega) (fun j hj => by have := ha j hj; omega) (by omega)
 obtain ⟨S3, f3, k3, e3, eN0, eN5, eNd, ep, ef⟩ := mot_in (base := n8) k2 (by omega) (fun j hj => by
  rcases e2.own j hj with h1 | h1 | h1
  ·have := hlt j h1; omega
  ·have := ha j h1; omega
  ·have := hbb j h1; omega) hm (by rw [e2.e.2.1]; exact h.z 0 (by omega)) (by rw [e2.e.2.1]; exact h.z 5 (by omega)) (by rw [e2.e.1, e2.N 0 (by omega)]; exact h.fit.rn 0 (by omega)) (by rw [e2.e.1, e2.N 5 (by omega)]; exact h.fit.rn 5 (by omega))
 rw [e2.N 0 (by omega)] at eN0 ep
 rw [e2.N 5 (by omega)] at eN5 ep ef
 have N2 : S3.N 2 = S.N 2 + 2 := by rw [eNd 2 (by omega) (by omega), e2.N2]
 have o23 : Old S2 S3 f2 f3 := ⟨fun d => by
  by_cases d0 : d = 0
  ·subst d0; rw [eN0, e2.N 0 (by omega)]; omega
  ·by_cases d5 : d = 5
   ·subst d5; rw [eN5, e2.N 5 (by omega)]; omega
   ·rw [eNd d d0 d5]; exact Nat.le_refl _, e3.old⟩
 have vm : S3.v 5 (S.N 5) = ⟨ma, out.length, mc⟩ := by
  have h1 := e3.new
  rw [e2.N 5 (by omega)] at h1
  exact h1
 have hpay : ∀ k, k < out.length → (S3.v 0 (S.N 0 + k)).v = (out.getD k dx0).v ∧ rv ((out.getD k dx0).bs.length * 1) (f3 0 (S.N 0 + k)) = byts (out.getD k dx0).bs ∧ (S3.v 0 (S.N 0 + k)).n = (out.getD k dx0).bs.length := fun k hk => by
  have h1 := (ep k hk).1
  have h2 : V.ownsRow B 5 1 (S3.v 0 (S.N 0 + k)).v (S3.v 0 (S.N 0 + k)).n (rv ((S3.v 0 (S.N 0 + k)).n * 1) (f3 0 (S.N 0 + k))) := (k3.fam 0 (by omega)).o (S.N 0 + k) (by rw [eN0]; omega)
  have h3 : (S3.v 0 (S.N 0 + k)).n = (out.getD k dx0).bs.length := by
   have h4 := h1
   unfold Sl.v Dx.v at h4
   simp only [Value.slice.injEq] at h4
   exact_mod_cast h4.2.1
  rw [h1, h3] at h2
  exact ⟨h1, own_uniq h2 (hm.el k hk) rfl, h3⟩
 refine ⟨S3, f3, k3, ⟨⟨e3.e.1.trans e2.e.1, e3.e.2.1.trans e2.e.2.1, e3.e.2.2.trans e2.e.2.2⟩, N2, eN5, eN0, fun d h0 h2 h5 => by rw [eNd d h0 h5, e2.N d h2], e2.old.trans o23, by rw [(o23.v 2 (S.N 2) (by rw [e2.N2]; omega)).1]; exact e2.va, by rw [(o23.v 2 (S.N 2 + 1) (by rw [e2.N2]; omega)).1]; exact e2.vb, vm, e2.a.old o23, e2.b.old o23, ⟨by rw [eN5]; omega, by rw [vm], ?_, fun k hk => ⟨S.N 0 + k, by rw [eN0]; omega, (hpay k hk).1, (hpay k hk).2.1⟩⟩, fun k hk => (ep k hk).2, fun k hk => (hpay k hk).2.2, fun j hj => ?_⟩⟩
 ·have h1 := rv_get0 (msC out)
  rw [msC_len] at h1
  rw [h1]
  exact rv_congr fun i hi => ef i
 ·rcases e3.own j hj with h1 | h1
  ·rcases e2.own j h1 with h2 | h2 | h2
   ·exact .inl h2
   ·exact .inr (.inl ⟨(World.ownsRow.lt oa j h2).1, ha j h2⟩)
   ·exact .inr (.inr (.inl ⟨(World.ownsRow.lt ob j h2).1, hbb j h2⟩))
  ·exact .inr (.inr (.inr h1))
structure Ad (w V4 : World) (lb : Nat) (L : Lt) (Z : World) : Prop where
 b : Below w.heap.size w Z
 k : Kept V4 Z (fun j => j = lb)
 l : L.Ok Z lb lb
 o : ∀ j, L.own lb j → j = lb ∨ V4.heap.size ≤ j
 g : w.heap.size ≤ lb
section
variable {V4 : World} {lb : Nat} {L L' : Lt}
theorem Ad.still (h : Ad w V4 lb L Z) (hb' : Below Z.heap.size Z Y) : Ad w V4 lb L Y :=
 ⟨bstep h.b hb', h.k.step (Kept.ofBelow hb' (fun _ => False)) (fun _ e => e.elim), h.l.still hb', h.o, h.g⟩
theorem Ad.lent (h : Ad w V4 lb L Z) (hk : Kept Z Y (L.own lb)) (hL : L'.Ok Y lb lb) (ho : ∀ j, L'.own lb j → L.own lb j ∨ Z.heap.size ≤ j) : Ad w V4 lb L' Y :=
 ⟨h.b.trans (hk.below h.b.size (fun j hj hp => by have := (h.l.lt hp).2; have := h.g; omega)), h.k.step hk h.o, hL, fun j hj => (ho j hj).elim (h.o j) (fun h1 => .inr (Nat.le_trans h.k.size h1)), h.g⟩
end
end
end Go.Proofs.Ytobaooebjgoaiaa.Hh
namespace Go.Proofs.Ytobaooebjgoaiaa.Hh
open Go.RowKit Go.Maps Mb
set_option linter.unusedVariables false
set_option linter.unusedSimpArgs false
set_option maxRecDepth 100000
open Go.Proofs.Ytobaooebjgoaiaa.Fm
section
variable {w w' w0 w1 w2 w3 Z Y V V4 : World} {B T s : Nat} {S S' : St} {hb lb : Nat} {f f' : Nat → Nat → Nat → Value} {P : Nat → Prop} {c : Nat}
structure Cs (w : World) (k : Ca) (who : List Int) (ds : List Dx) : Prop where
 fs : RdFs w k.ao k.fs
 fi : ∀ i, i < k.fs.length → (k.fs.getD i fl0).In w
 own : k.own.In w
 fn : k.fs.length ≤ 1048576
 wh : RdI w k.wa who
 wl : who.length = k.wn
 wn : who.length ≤ 1048576
 wz : k.wa = none → who.length = 0 ∧ k.wc = 0
 ms : RdDs w k.ma ds
 ml : ds.length = k.mn
 mn : ds.length ≤ 1048576
 mz : ∀ i, i < ds.length → ((ds.getD i dx0).ba = none → (ds.getD i dx0).bs.length = 0 ∧ (ds.getD i dx0).bc = 0) ∧ (ds.getD i dx0).bs.length ≤ 1048576
section
variable {k : Ca} {who : List Int} {ds : List Dx}
theorem Cs.still (h : Cs w k who ds) (hb : Below w.heap.size w w') : Cs w' k who ds :=
 { h with fs := h.fs.still hb, fi := fun i hi => (h.fi i hi).still hb, own := h.own.still hb, wh := h.wh.still hb, ms := h.ms.still hb }
end
structure Mt (Z : World) (X cb vb : Nat) (k : Ca) (ta : Option Addr) (tc : Nat) (ia : Option Addr) (ic : Nat) (xs : List Fl) (x : Fl) : Prop where
 ft : Tq Z X ta tc ia ic xs k.fs
 fx : TwOk Z X x k.own.c
 fv : Z.heap[vb]? = some (.cells x.tw.toArray 53 (0, 0))
 fc : Z.heap[cb]? = some (.cells k.cs.toArray 31 (0, 0))
 fg : X ≤ vb
section
variable {X cb vb : Nat} {k : Ca} {ta ia : Option Addr} {tc ic : Nat} {xs : List Fl} {x : Fl}
theorem Mt.keep (h : Mt Z X cb vb k ta tc ia ic xs x) (kk : Kept Z Y P) (hp : ∀ j, X ≤ j ∨ j = cb → ¬ P j) : Mt Y X cb vb k ta tc ia ic xs x :=
 ⟨h.ft.keep kk (fun j hj => hp j (.inl hj)), tw_keepB h.fx kk (fun j hj => hp j (.inl hj)), kk.obj h.fv (hp _ (.inl h.fg)), kk.obj h.fc (hp _ (.inr rfl)), h.fg⟩
theorem Mt.still (h : Mt Z X cb vb k ta tc ia ic xs x) (hb : Below Z.heap.size Z Y) : Mt Y X cb vb k ta tc ia ic xs x := h.keep (Kept.ofBelow hb (fun _ => False)) (fun _ _ => id)
end
def L0 : Lt := ⟨fun _ => ⟨none, 0, 0⟩, fun _ _ => ⟨none, 0, 0⟩⟩
theorem L0.ok {lb : Nat} (h : Z.heap[lb]? = some (.cells #[.slice none 0 0, .slice none 0 0, .slice none 0 0, .slice none 0 0] 48 (0, 0))) : L0.Ok Z lb lb :=
 ⟨h, Nat.le_refl _, fun c hc => ⟨rfl, .inl ⟨rfl, rfl⟩⟩, fun c hc i hi => absurd hi (Nat.not_lt_zero i)⟩
theorem L0.only {lb j : Nat} (h : L0.own lb j) : j = lb := by
 rcases h with h | ⟨c, hc, h | ⟨i, hi, h⟩⟩
 ·exact h
 ·have h : (Value.slice none 0 0).ownBlock = some j := h
  simp [Value.ownBlock] at h
 ·exact absurd hi (Nat.not_lt_zero i)
structure AdI (w V4 : World) (lb : Nat) (Z : World) (m r : Nat) (L' : Lt) (Y : World) : Prop where
 ad : Ad w V4 lb L' Y
 n : ∀ c, c < 3 → (L'.r c).n ≤ m
 o : ∀ j, L'.own lb j → j = lb ∨ (r ≤ j ∧ j < Y.heap.size)
 kk : Kept Z Y (fun j => j = lb)
theorem lt_n (L : Lt) (c : Nat) (y x : Sl) (d : Nat) : ((L.add c y x).r d).n = if d = c then y.n else (L.r d).n := by
 show (upc L.r c y d).n = _
 by_cases e : d = c
 ·subst e; rw [upc_at, if_pos rfl]
 ·rw [upc_ne _ _ e, if_neg e]
theorem ad_ints {k : Ca} {who : List Int} {ds : List Dx} (h : Ad w V4 lb L0 Z) (hc : Cs Z k who ds) : Calls Try.prog 11 #[.pointer (some ⟨lb, 0, none⟩), .slice k.wa k.wn k.wc] Z fun e w' => ∃ a c, e = .returned (.slice a k.wn c) ∧ RdI w' a who ∧ ∃ L', AdI w V4 lb Z 1 Z.heap.size L' w' := by
 have h1 := lints_any (w := Z) (L := L0) (ra := none) (rn := 0) (rc := 0) (wc := k.wc) h.l rfl (by omega) hc.wh hc.wn hc.wz (by have := (h.l.lt (.inl rfl)).1; omega)
 rw [hc.wl] at h1
 refine h1.mono ?_
 rintro e w2 ⟨a, c, rfl, hr, h2, h3, y, x, h4, h5, h6, h7⟩
 refine ⟨a, c, rfl, hr, _, h.lent h6 h4 h7, fun c hc => ?_, fun j hj => ?_, ?_⟩
 ·rw [lt_n]
  split
  ·omega
  ·exact Nat.zero_le _
 ·have h8 := (h4.lt hj).1
  rcases h7 j hj with h9 | h9
  ·exact .inl (L0.only h9)
  ·exact .inr ⟨h9, h8⟩
 ·exact h6.mono fun j _ hj => L0.only hj
structure AdD (w V4 : World) (lb n5 n6 : Nat) (Z : World) (ds : List Dx) (a : Option Addr) (xs : List Dx) (L' : Lt) (Y : World) : Prop where
 ad : Ad w V4 lb L' Y
 n : ∀ c, c < 3 → (L'.r c).n ≤ 1048600
 o : ∀ j, L'.own lb j → j = lb ∨ (n5 ≤ j ∧ j < n6) ∨ Z.heap.size ≤ j
 len : xs.length = ds.length
 al : Al xs ds
 nil : ∀ i, i < ds.length → (xs.getD i dx0).ba ≠ none
 rd : RdDs Y a xs
 kk : Kept Z Y (fun j => j = lb ∨ (n5 ≤ j ∧ j < n6))
theorem ad_datas {k : Ca} {who : List Int} {ds : List Dx} {L : Lt} {n5 n6 : Nat} (h : Ad w V4 lb L Z) (h0 : Cs w0 k who ds) (hw0 : Below w0.heap.size w0 Z) (hlb : w0.heap.size ≤ lb) (hn : ∀ c, c < 3 → (L.r c).n ≤ 1) (ho : ∀ j, L.own lb j → j = lb ∨ (n5 ≤ j ∧ j < n6)) : Calls Try.prog 13 #[.pointer (some ⟨lb, 0, none⟩), .slice k.ma k.mn k.mc] Z fun e w' => ∃ a c, e = .returned (.slice a k.mn c) ∧ ∃ L' xs, AdD w V4 lb n5 n6 Z ds a xs L' w' := by
 have hlz : lb < Z.heap.size := (h.l.lt (.inl rfl)).1
 refine (ldatas_any (w := Z) (w0 := w0) (cp := k.mc) (n := k.mn) h.l hlb hw0 h0.ms h0.ml (by rw [← h0.ml]; exact h0.mn) h0.mz (by omega) (fun c hc => by have := hn c hc; omega)).mono ?_
 rintro e w2 ⟨a, c, rfl, h2, h3, L', xs, d⟩
 have hm : k.mn ≤ 1048576 := by rw [← h0.ml]; exact h0.mn
 refine ⟨a, c, rfl, L', xs, h.lent d.k d.ok d.own, fun c hc => ?_, fun j hj => ?_, d.len.trans h0.ml.symm, d.al, fun i hi => d.nil i (by rw [← h0.ml]; exact hi), d.rd, d.k.mono fun j _ hj => ho j hj⟩
 ·have e : c = 0 ∨ c = 1 ∨ c = 2 := by omega
  rcases e with rfl | rfl | rfl
  ·rw [d.r0]; have := hn 0 (by omega); omega
  ·rw [d.r1]; have := hn 1 (by omega); omega
  ·rw [d.r2]; have := hn 2 (by omega); omega
 ·rcases d.own j hj with h9 | h9
  ·exact (ho j h9).elim .inl (fun h => .inr (.inl h))
  ·exact .inr (.inr h9)
structure AsO (w : World) (S : St) (B hb : Nat) (f : Nat → Nat → Nat → Value) (k : Ca) (who : List Int) (ds : List Dx) (m : Nat) (w' : World) : Prop where
 out : ∃ S' f', Bt S' w' B hb f' ∧ Old S S' f f' ∧ Ans S' f' k who ds m ∧ S'.N 2 = 2 * (m + 1) ∧ S'.N 5 = m + 1 ∧ (∀ d, d < 6 → S'.N d ≤ 200 * (m + 1)) ∧ Kept w w' (S.own hb) ∧ ∀ j, S'.own hb j → S.own hb j ∨ w.heap.size ≤ j
theorem rows_in {n4 n5 n6 n7 n8 rn rc : Nat} {ra : Option Addr} {xa xb xm : Sl} {la lb2 : List (Int × Int)} {out : List Dx} {S3 : St} {f3 : Nat → Nat → Nat → Value} (h : Bt S w B hb f) (h3 : S3.Ok V B hb f3) (e : Fi S S3 hb f f3 xa xb xm la lb2 out n4 n5 n6 n7 n8) (hR : S.r 2 = ⟨ra, rn, rc⟩) {a' : Option Addr} {c' : Nat}
  (ho : Y.ownsRow B 25 1 (.slice a' (rn + 2) c') (rn + 2) (rv rn (fun i => (S3.v 2 i).v) ++ [xa.v, xb.v])) (hk : Kept V Y (fun j => (Value.slice ra rn rc).ownBlock = some j)) (he : (Value.slice a' (rn + 2) c').ownBlock = (Value.slice ra rn rc).ownBlock ∨ (Value.slice a' (rn + 2) c').ownBlock = some V.heap.size) :
  Tp B hb V (Y.setCell ⟨hb, 4, none⟩ (.slice a' (rn + 2) c')) S3 { S3 with r := upc S3.r 2 ⟨a', rn + 2, c'⟩ } f3 := by
 have eR : S3.r 2 = ⟨ra, rn, rc⟩ := by rw [e.e.1]; exact hR
 have en : S.N 2 = rn := by have h1 := h.fit.rn 2 (by omega); rw [hR] at h1; exact h1.symm
 have h5 := h3.addR (c := 2) (m := 2) (a' := a') (c' := c') (news := [xa.v, xb.v]) (w1 := Y) (by omega) rfl (fun i hi => by
  rw [eR]
  have e2 : i = 0 ∨ i = 1 := by omega
  rcases e2 with rfl | rfl
  ·have h6 := e.va; rw [en] at h6; show _ = some (S3.v 2 (rn + 0)).v; rw [Nat.add_zero, h6]; rfl
  ·have h6 := e.vb; rw [en] at h6; show _ = some (S3.v 2 (rn + 1)).v; rw [h6]; rfl) (by rw [eR]; exact ho) (by rw [eR]; exact hk) (by rw [eR]; exact he)
 rw [eR] at h5
 exact h5
structure FiO (w V : World) (S S3 : St) (B hb : Nat) (f3 : Nat → Nat → Nat → Value) (S' : St) (Y : World) (m : Nat) : Prop where
 bt : Bt S' Y B hb f3
 v : S'.v = S3.v ∧ S'.N = S3.N
 k : Kept V Y (S3.own hb)
 own : ∀ j, S'.own hb j → S3.own hb j ∨ V.heap.size ≤ j
 N2 : S'.N 2 = 2 * (m + 1)
 N5 : S'.N 5 = m + 1
 N : ∀ d, d < 6 → S'.N d ≤ 200 * (m + 1)
theorem fin_out {n4 n5 n6 n7 n8 rn rc c' m : Nat} {a' : Option Addr} {xa xb xm : Sl} {la lb2 : List (Int × Int)} {out : List Dx} {S3 : St} {f3 : Nat → Nat → Nat → Value} {V13 Z14 V15 : World} {R' : Nat → Sl} (h : Bt S w B hb f) (e : Fi S S3 hb f f3 xa xb xm la lb2 out n4 n5 n6 n7 n8)
  (hN : S.N 2 = 2 * m ∧ S.N 5 = m ∧ ∀ d, d < 6 → S.N d ≤ 200 * m) (hm : m ≤ 10) (ha : xa.n = la.length ∧ la.length ≤ 128) (hb2 : xb.n = lb2.length ∧ lb2.length ≤ 128) (hxm : xm.n = out.length ∧ out.length ≤ 128) (hbs : ∀ i, i < out.length → (out.getD i dx0).bs.length ≤ 1048576)
  (b : Below V.heap.size V V13) (t : Tp B hb V13 Z14 S3 { S3 with r := upc S3.r 2 ⟨a', 2 * m + 2, c'⟩ } f3) (p : PsM B hb Z14 (({ S3 with r := upc S3.r 2 ⟨a', 2 * m + 2, c'⟩ } : St).own hb) { S3 with r := upc S3.r 2 ⟨a', 2 * m + 2, c'⟩ } f3 R' V15) (h0 : (R' 0).n = (S.r 0).n + out.length) (h5 : (R' 5).n = m + 1) (hd : ∀ d, d ≠ 0 → d ≠ 5 → R' d = upc S3.r 2 ⟨a', 2 * m + 2, c'⟩ d) :
  FiO w V S S3 B hb f3 (St.rr { S3 with r := upc S3.r 2 ⟨a', 2 * m + 2, c'⟩ } R') V15 m := by
 obtain ⟨hN2, hN5, hNd⟩ := hN
 have r0 := h.fit.rn 0 (by omega)
 have N3 : ∀ d, d < 6 → S3.N d ≤ 200 * (m + 1) := fun d hd => by
  have h1 := hNd d hd
  by_cases d0 : d = 0
  ·subst d0; rw [e.N0]; omega
  ·by_cases d2 : d = 2
   ·subst d2; rw [e.N2]; omega
   ·by_cases d5 : d = 5
    ·subst d5; rw [e.N5]; omega
    ·rw [e.N d d0 d2 d5]; omega
 refine ⟨⟨p.ok, ⟨fun d hd6 => ?_, fun d hd6 => Nat.le_trans (N3 d hd6) (by omega), fun d hd6 i hi => ?_⟩, fun d hd6 => ?_, ?_, ?_, ?_⟩, ⟨rfl, rfl⟩, ?_, fun j hj => ?_, ?_, ?_, N3⟩
 ·show (R' d).n = S3.N d
  by_cases d0 : d = 0
  ·subst d0; rw [e.N0, h0, r0]
  ·by_cases d5 : d = 5
   ·subst d5; rw [e.N5, h5, hN5]
   ·rw [hd d d0 d5]
    by_cases d2 : d = 2
    ·subst d2; rw [upc_at, e.N2, hN2]
    ·rw [upc_ne _ _ d2, e.e.1, e.N d d0 d2 d5]
     exact h.fit.rn d hd6
 ·show (S3.v d i).n ≤ 100000000
  have hi : i < S3.N d := hi
  by_cases old : i < S.N d
  ·rw [(e.old.v d i old).1]
   exact h.fit.l d hd6 i old
  ·by_cases d0 : d = 0
   ·subst d0
    rw [e.N0] at hi
    have h1 := e.l (i - S.N 0) (by omega)
    rw [show S.N 0 + (i - S.N 0) = i by omega] at h1
    rw [h1]
    have := hbs (i - S.N 0) (by omega)
    omega
   ·by_cases d2 : d = 2
    ·subst d2
     rw [e.N2] at hi
     have e3 : i = S.N 2 ∨ i = S.N 2 + 1 := by omega
     rcases e3 with rfl | rfl
     ·rw [e.va]; omega
     ·rw [e.vb]; omega
    ·by_cases d5 : d = 5
     ·subst d5
      rw [e.N5] at hi
      obtain rfl : i = S.N 5 := by omega
      rw [e.vm]; omega
     ·rw [e.N d d0 d2 d5] at hi
      exact absurd hi old
 ·show (S3.q d).n = 0
  rw [e.e.2.1]; exact h.z d hd6
 ·show S3.N 3 = 0
  rw [e.N 3 (by omega) (by omega) (by omega)]; exact h.h3
 ·show S3.N 4 = 0
  rw [e.N 4 (by omega) (by omega) (by omega)]; exact h.h4
 ·show S3.z 3 = _
  rw [e.e.2.2]; exact h.h15
 ·have k1 : Kept V Z14 (S3.own hb) := (Kept.ofBelow b (S3.own hb)).trans t.k
  exact k1.step p.k (fun j hj => (t.p j hj).elim .inl (fun h1 => .inr (Nat.le_trans b.size h1)))
 ·have h1 := p.p j hj
  rcases h1 with h1 | h1
  ·exact (t.p j h1).elim .inl (fun h2 => .inr (Nat.le_trans b.size h2))
  ·exact .inr (Nat.le_trans b.size (Nat.le_trans t.k.size h1))
 ·show S3.N 2 = _
  rw [e.N2, hN2]; omega
 ·show S3.N 5 = _
  rw [e.N5, hN5]
end
end Go.Proofs.Ytobaooebjgoaiaa.Hh
