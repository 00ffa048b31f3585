import Derived.Test.YtmphabgpabbbjaaDoorUt
import Derived.Test.YtmphabgpabbbjaaDoorUv
namespace Go.Proofs.YtmphabgpabbbjaaDoor.Fg
open Go.RowKit Mb Ov
set_option linter.unusedVariables false
set_option maxRecDepth 100000
set_option linter.unusedSimpArgs false
section
variable {w w' W wr wr' : World} {B : Nat}
structure Jg (w wr : World) (B jb m : Nat) (J : Jn) : Prop where
  ok : J.Ok wr B
  b : J.b = jb
  n : J.n = m
  bel : Below B w wr
  hB : B ≤ wr.heap.size
theorem Jg.still {jb m : Nat} {J : Jn} (h : Jg w wr B jb m J) (hb : Below wr.heap.size wr wr') : Jg w wr' B jb m J :=
  ⟨h.ok.still hb, h.b, h.n, h.bel.trans (hb.mono h.hB), Nat.le_trans h.hB hb.size⟩
theorem Jg.take {jb m : Nat} {J : Jn} (h : Jg w wr B jb m J) {x : Int} {a : Option Addr} {n c : Nat} {bs : List Int} (hr : Rd wr a n c bs) (hn : n ≤ 140737488355328) (hT : Tab w) (h0 : 0 < B) : Calls Tryd.prog 10 #[.pointer (some ⟨jb, 0, none⟩), .int .i64 x, .slice a n c] wr fun e w' => ∃ v J', e = .returned v ∧ Jg w w' B jb m J' := by
  by_cases hx : 0 ≤ x ∧ x < (J.n : Int)
  · obtain ⟨k, rfl⟩ := Int.eq_ofNat_of_zero_le hx.1
    have h1 := take_any h.ok (k := k) (by omega) hr hn (hT.low h.bel h0) h0
    rw [h.b] at h1
    refine h1.mono ?_
    rintro e w' ⟨ra, rn, rc, g, he, _, _, h4, h5, _⟩
    exact ⟨_, _, he, h4, h.b, h.n, h.bel.trans (h5.below h.hB (fun j hj hh => by have := h.ok.own_lo j hh; omega)), Nat.le_trans h.hB h5.size⟩
  · have h1 := take_arg h.ok hx (ao := a) (n := n) (c := c)
    rw [h.b] at h1
    refine h1.mono ?_
    rintro e w' ⟨he, rfl⟩
    exact ⟨_, _, he, h⟩
theorem Jg.reset {jb m : Nat} {J : Jn} (h : Jg w wr B jb m J) : Calls Tryd.prog 14 #[.pointer (some ⟨jb, 0, none⟩)] wr fun e w' => ∃ J', e = .returned (.tuple #[]) ∧ Jg w w' B jb m J' := by
  have h1 := reset_any h.ok
  rw [h.b] at h1
  refine h1.mono ?_
  rintro e w' ⟨he, h4, h5⟩
  exact ⟨_, he, h4, h.b, h.n, h.bel.trans (h5.below h.hB (fun j hj hh => by have := h.ok.lp; omega)), Nat.le_trans h.hB h5.size⟩
def Gd (gB gA s : Nat) (gc gr : Nat → Nat) (g : Nat) : Prop := g = gB ∨ g = gA ∨ ∃ t, t < s ∧ (g = gc t ∨ g = gr t)
structure Dt (wr : World) (gB gA s : Nat) (ao : Nat → Option Addr) (nn cc NN gc gr : Nat → Nat) (bb : Nat → List Int) : Prop where
  bl : Fb wr gB 28 2 (fun t => .slice (ao t) (nn t) (cc t))
  ch : Fb wr gA 44 2 (fun t => if t < s then .slice (some ⟨gc t, 0, none⟩) (NN t) (NN t) else .slice none 0 0)
  row : ∀ t, t < s → Fb wr (gc t) 28 (NN t) (rowF (gr t) (nn t) (NN t))
  bk : ∀ t, t < s → Bk wr (gr t) (cats (bb t) (NN t))
  ne : gB ≠ gA
  nt : ∀ t, t < s → gc t ≠ gA ∧ gr t ≠ gA
variable {gB gA gW gt s jb m : Nat} {ao : Nat → Option Addr} {nn cc NN gc gr kk a : Nat → Nat} {bb : Nat → List Int} {J : Jn}
theorem Dt.keep {P : Nat → Prop} (h : Dt wr gB gA s ao nn cc NN gc gr bb) (k : Kept wr wr' P) (hp : ∀ g, Gd gB gA s gc gr g → ¬ P g) : Dt wr' gB gA s ao nn cc NN gc gr bb :=
  ⟨h.bl.keep k (hp _ (.inl rfl)), h.ch.keep k (hp _ (.inr (.inl rfl))), fun t ht => (h.row t ht).keep k (hp _ (.inr (.inr ⟨t, ht, .inl rfl⟩))), fun t ht => (h.bk t ht).keep k (hp _ (.inr (.inr ⟨t, ht, .inr rfl⟩))), h.ne, h.nt⟩
theorem Dt.still (h : Dt wr gB gA s ao nn cc NN gc gr bb) (hb : Below wr.heap.size wr wr') : Dt wr' gB gA s ao nn cc NN gc gr bb := h.keep (Kept.ofBelow hb (fun _ => False)) (fun _ _ => id)
theorem Dt.lt (h : Dt wr gB gA s ao nn cc NN gc gr bb) {g : Nat} (hg : Gd gB gA s gc gr g) : g < wr.heap.size := by
  rcases hg with rfl | rfl | ⟨t, ht, rfl | rfl⟩
  · exact h.bl.lt
  · exact h.ch.lt
  · exact (h.row t ht).lt
  · exact (h.bk t ht).lt
theorem Dt.next (h : Dt wr gB gA s ao nn cc NN gc gr bb) (hs : s < 2) (hb : Below wr.heap.size wr wr') {c r : Nat} (hc : wr.heap.size ≤ c) (hr : wr.heap.size ≤ r) (F : Fb wr' c 28 (NN s) (rowF r (nn s) (NN s))) (K : Bk wr' r (cats (bb s) (NN s))) : Dt (wr'.setCell ⟨gA, s, none⟩ (.slice (some ⟨c, 0, none⟩) (NN s) (NN s))) gB gA (s + 1) ao nn cc NN (upd gc s c) (upd gr s r) bb := by
  have h' := h.still hb
  have hA := h.ch.lt
  have k : Kept wr' (wr'.setCell ⟨gA, s, none⟩ (.slice (some ⟨c, 0, none⟩) (NN s) (NN s))) (fun k => k = gA) := kset _ _ _ _ rfl
  refine ⟨h'.bl.keep k h.ne, (h'.ch.set s _).congr fun i hi => ?_, fun t ht => ?_, fun t ht => ?_, h.ne, fun t ht => ?_⟩
  · by_cases e : i = s
    · subst e
      rw [if_pos rfl, if_pos (by omega), upd_same]
    · rw [if_neg e]
      by_cases e2 : i < s
      · rw [if_pos e2, if_pos (by omega), upd_ne _ _ e]
      · rw [if_neg e2, if_neg (by omega)]
  · by_cases e : t = s
    · subst e
      rw [upd_same, upd_same]
      exact F.keep k (by omega)
    · rw [upd_ne _ _ e, upd_ne _ _ e]
      exact (h'.row t (by omega)).keep k (h.nt t (by omega)).1
  · by_cases e : t = s
    · subst e
      rw [upd_same]
      exact K.keep k (by omega)
    · rw [upd_ne _ _ e]
      exact (h'.bk t (by omega)).keep k (h.nt t (by omega)).2
  · by_cases e : t = s
    · subst e
      rw [upd_same, upd_same]
      exact ⟨by omega, by omega⟩
    · rw [upd_ne _ _ e, upd_ne _ _ e]
      exact h.nt t (by omega)
theorem gd_next {c r g : Nat} (h : Gd gB gA (s + 1) (upd gc s c) (upd gr s r) g) : Gd gB gA s gc gr g ∨ g = c ∨ g = r := by
  rcases h with h | h | ⟨t, ht, h⟩
  · exact .inl (.inl h)
  · exact .inl (.inr (.inl h))
  · by_cases e : t = s
    · subst e
      rw [upd_same, upd_same] at h
      exact .inr h
    · rw [upd_ne _ _ e, upd_ne _ _ e] at h
      exact .inl (.inr (.inr ⟨t, by omega, h⟩))
def Gs (gB gA gW gt : Nat) (gc gr : Nat → Nat) (g : Nat) : Prop := Gd gB gA 2 gc gr g ∨ g = gW ∨ g = gt
structure Sd (w wr : World) (B jb m : Nat) (J : Jn) (gB gA gW gt : Nat) (ao : Nat → Option Addr) (nn cc NN gc gr kk a : Nat → Nat) (bb : Nat → List Int) : Prop where
  jg : Jg w wr B jb m J
  dt : Dt wr gB gA 2 ao nn cc NN gc gr bb
  wh : Fb wr gW 45 2 (fun t => .int .i64 (kk t : Int))
  at_ : Fb wr gt 45 2 (fun t => .int .i64 (a t : Int))
  ap : ∀ g, Gs gB gA gW gt gc gr g → ¬ J.own g
  nt : ∀ g, Gd gB gA 2 gc gr g → g ≠ gt
  nw : gW ≠ gt
  lo : B ≤ gt
theorem Sd.still (h : Sd w wr B jb m J gB gA gW gt ao nn cc NN gc gr kk a bb) (hb : Below wr.heap.size wr wr') : Sd w wr' B jb m J gB gA gW gt ao nn cc NN gc gr kk a bb :=
  ⟨h.jg.still hb, h.dt.still hb, h.wh.keep (Kept.ofBelow hb (fun _ => False)) id, h.at_.keep (Kept.ofBelow hb (fun _ => False)) id, h.ap, h.nt, h.nw, h.lo⟩
theorem Sd.bump (h : Sd w wr B jb m J gB gA gW gt ao nn cc NN gc gr kk a bb) (s x : Nat) : Sd w (wr.setCell ⟨gt, s, none⟩ (.int .i64 (x : Int))) B jb m J gB gA gW gt ao nn cc NN gc gr kk (upd a s x) bb := by
  have k : Kept wr (wr.setCell ⟨gt, s, none⟩ (.int .i64 (x : Int))) (fun k => k = gt) := kset _ _ _ _ rfl
  refine ⟨⟨h.jg.ok.keep k (fun j hj e => h.ap gt (.inr (.inr rfl)) (e ▸ hj)), h.jg.b, h.jg.n, h.jg.bel.trans (k.below h.jg.hB (fun j hj e => by have := h.lo; omega)), Nat.le_trans h.jg.hB k.size⟩, h.dt.keep k h.nt, h.wh.keep k h.nw, (h.at_.set s _).congr fun i hi => ?_, h.ap, h.nt, h.nw, h.lo⟩
  by_cases e : i = s
  · subst e; rw [if_pos rfl, upd_same]
  · rw [if_neg e, upd_ne _ _ e]
theorem Sd.took {k : Nat} {o : Out} {e : Ending} (h : Sd w wr B jb m J gB gA gW gt ao nn cc NN gc gr kk a bb) (ht : TkOut wr wr' B J k o e) : ∃ (ra : Option Addr) (rn rc : Nat) (g : Option Nat), e = .returned (.tuple #[.slice ra rn rc, .bool o.b.isSome, .int .i64 (o.e : Int)]) ∧ (o.b = none → ra = none ∧ rn = 0 ∧ rc = 0) ∧ (∀ x, o.b = some x → Rd wr' ra rn rc x) ∧ Sd w wr' B jb m (J.put k o.p g) gB gA gW gt ao nn cc NN gc gr kk a bb := by
  obtain ⟨ra, rn, rc, g, h1, h2, h3, h4, h5, h6⟩ := ht
  have hlt : ∀ g, Gs gB gA gW gt gc gr g → g < wr.heap.size := fun g hg => by
    rcases hg with hg | rfl | rfl
    · exact h.dt.lt hg
    · exact h.wh.lt
    · exact h.at_.lt
  refine ⟨ra, rn, rc, g, h1, h2, fun x hx => ?_, ⟨⟨h4, h.jg.b, h.jg.n, h.jg.bel.trans (h5.below h.jg.hB (fun j hj hh => by have := h.jg.ok.own_lo j hh; omega)), Nat.le_trans h.jg.hB h5.size⟩, h.dt.keep h5 fun g hg => h.ap g (.inl hg), h.wh.keep h5 (h.ap _ (.inr (.inl rfl))), h.at_.keep h5 (h.ap _ (.inr (.inr rfl))), fun j hj hh => ?_, h.nt, h.nw, h.lo⟩⟩
  · obtain ⟨g', rfl, rfl, rfl, hb, hby, _⟩ := h3 x hx
    exact hb.all _ (Nat.le_refl _) hby
  · rcases h6 _ hh with e1 | e1
    · exact h.ap j hj e1
    · have := hlt j hj; omega
structure Iv (m : Nat) (NN kk a : Nat → Nat) (bb : Nat → List Int) (J : Jn) : Prop where
  le : ∀ t, t < 2 → a t ≤ NN t
  go : ∀ t, t < 2 → 0 < a t → a t < NN t → J.ps (kk t) = pre (bb t) (a t)
  e1 : a 1 = NN 1 → J.ps (kk 1) = p0
  e0 : a 0 = NN 0 → m ≠ 1 → J.ps (kk 0) = p0
  one : m = 1 → a 0 = NN 0 ∨ a 1 = 0
structure Kw (m : Nat) (nn NN kk : Nat → Nat) (bb : Nat → List Int) : Prop where
  m1 : 1 ≤ m
  k0 : kk 0 = 0
  k1 : kk 1 = m - 1
  by_ : ∀ t, t < 2 → By (bb t)
  len : ∀ t, t < 2 → (bb t).length = nn t
  sh : ∀ t, t < 2 → nn t ≤ 4000
  cn : ∀ t, t < 2 → cnt (nn t) = NN t
theorem Kw.pos (h : Kw m nn NN kk bb) {t : Nat} (ht : t < 2) : 1 ≤ NN t := by rw [← h.cn t ht]; exact cnt_pos (h.sh t ht)
theorem Kw.top (h : Kw m nn NN kk bb) {t : Nat} (ht : t < 2) : NN t ≤ 17 := by rw [← h.cn t ht]; exact cnt_le _
theorem Kw.lt (h : Kw m nn NN kk bb) {t : Nat} (ht : t < 2) : kk t < m := by
  have := h.m1
  have := h.k0
  have := h.k1
  rcases (show t = 0 ∨ t = 1 by omega) with rfl | rfl <;> omega
theorem nxt_last (h : Kw m nn NN kk bb) {t i : Nat} (ht : t < 2) (e : i + 1 = NN t) : nxt (bb t) i = ⟨p0, some (bb t), 0⟩ := by
  unfold nxt
  rw [if_pos (by rw [h.len t ht, h.cn t ht]; exact e)]
theorem nxt_more (h : Kw m nn NN kk bb) {t i : Nat} (ht : t < 2) (e : i + 1 ≠ NN t) : nxt (bb t) i = ⟨pre (bb t) (i + 1), none, 0⟩ := by
  unfold nxt
  rw [if_neg (by rw [h.len t ht, h.cn t ht]; exact e)]
theorem put_at (J : Jn) (k : Nat) (p : Pt) (g : Option Nat) : (J.put k p g).ps k = p := upd_same _ _ _
theorem put_off (J : Jn) {k t : Nat} (p : Pt) (g : Option Nat) (e : t ≠ k) : (J.put k p g).ps t = J.ps t := upd_ne _ _ e
theorem Iv.s0 (K : Kw m nn NN kk bb) (h : Iv m NN kk a bb J) (hl : a 0 < NN 0) (g : Option Nat) : Iv m NN kk (upd a 0 (a 0 + 1)) bb (J.put (kk 0) (nxt (bb 0) (a 0)).p g) := by
  have u0 : upd a 0 (a 0 + 1) 0 = a 0 + 1 := upd_same _ _ _
  have u1 : upd a 0 (a 0 + 1) 1 = a 1 := upd_ne _ _ (by decide)
  have hp1 := K.pos (t := 1) (by decide)
  have hm := K.m1
  have hk0 := K.k0
  have hk1 := K.k1
  have ho : m = 1 → a 1 = 0 := fun e => (h.one e).elim (fun e => by omega) id
  refine ⟨fun t ht => ?_, fun t ht => ?_, fun e => ?_, fun e hm1 => ?_, fun e => ?_⟩
  · rcases (show t = 0 ∨ t = 1 by omega) with rfl | rfl
    · rw [u0]; omega
    · rw [u1]; exact h.le 1 (by decide)
  · rcases (show t = 0 ∨ t = 1 by omega) with rfl | rfl
    · rw [u0, put_at]
      intro _ h2
      rw [nxt_more K (by decide) (by omega)]
    · rw [u1]
      intro h1 h2
      rw [put_off _ _ _ (by intro e; have := ho (by omega); omega)]
      exact h.go 1 (by decide) h1 h2
  · rw [u1] at e
    rw [put_off _ _ _ (by intro e; have := ho (by omega); omega)]
    exact h.e1 e
  · rw [u0] at e
    rw [put_at, nxt_last K (by decide) e]
  · rw [u1]
    exact .inr (ho e)
theorem Iv.s1 (K : Kw m nn NN kk bb) (h : Iv m NN kk a bb J) (hl : a 1 < NN 1) (hf : m = 1 → a 0 = NN 0) (g : Option Nat) : Iv m NN kk (upd a 1 (a 1 + 1)) bb (J.put (kk 1) (nxt (bb 1) (a 1)).p g) := by
  have u0 : upd a 1 (a 1 + 1) 0 = a 0 := upd_ne _ _ (by decide)
  have u1 : upd a 1 (a 1 + 1) 1 = a 1 + 1 := upd_same _ _ _
  have hm := K.m1
  have hk0 := K.k0
  have hk1 := K.k1
  refine ⟨fun t ht => ?_, fun t ht => ?_, fun e => ?_, fun e hm1 => ?_, fun e => ?_⟩
  · rcases (show t = 0 ∨ t = 1 by omega) with rfl | rfl
    · rw [u0]; exact h.le 0 (by decide)
    · rw [u1]; omega
  · rcases (show t = 0 ∨ t = 1 by omega) with rfl | rfl
    · rw [u0]
      intro h1 h2
      rw [put_off _ _ _ (by intro e; have := hf (by omega); omega)]
      exact h.go 0 (by decide) h1 h2
    · rw [u1, put_at]
      intro _ h2
      rw [nxt_more K (by decide) (by omega)]
  · rw [u1] at e
    rw [put_at, nxt_last K (by decide) e]
  · rw [u0] at e
    rw [put_off _ _ _ (by omega)]
    exact h.e0 e hm1
  · rw [u0]
    exact .inl (hf e)
theorem Iv.st (K : Kw m nn NN kk bb) (h : Iv m NN kk a bb J) {s : Nat} (hs : s < 2) (hl : a s < NN s) (hf : s = 1 → m = 1 → a 0 = NN 0) (g : Option Nat) : Iv m NN kk (upd a s (a s + 1)) bb (J.put (kk s) (nxt (bb s) (a s)).p g) := by
  rcases (show s = 0 ∨ s = 1 by omega) with rfl | rfl
  · exact h.s0 K hl g
  · exact h.s1 K hl (hf rfl) g
theorem Iv.done (K : Kw m nn NN kk bb) (h : Iv m NN kk a bb J) (h0 : a 0 = NN 0) (h1 : a 1 = NN 1) : J.ps (kk 0) = p0 ∧ J.ps (kk 1) = p0 := by
  refine ⟨?_, h.e1 h1⟩
  by_cases e : m = 1
  · have := K.k0
    have := K.k1
    rw [show kk 0 = kk 1 by omega]
    exact h.e1 h1
  · exact h.e0 h0 e
structure TOut (w w' : World) (B jb m : Nat) (J : Jn) (gB gA gW gt : Nat) (ao : Nat → Option Addr) (nn cc NN gc gr kk a : Nat → Nat) (bb : Nat → List Int) (s : Nat) (la : Bool) (e : Ending) : Prop where
  out : ∃ (ra : Option Addr) (rn rc : Nat) (J' : Jn), e = .returned (.tuple #[.slice ra rn rc, .bool la, .int .i64 0]) ∧ (la = false → rn = 0) ∧ (la = true → Rd w' ra rn rc (bb s)) ∧ Sd w w' B jb m J' gB gA gW gt ao nn cc NN gc gr kk (upd a s (a s + 1)) bb ∧ Iv m NN kk (upd a s (a s + 1)) bb J'
theorem Sd.tk (K : Kw m nn NN kk bb) (i : Iv m NN kk a bb J) {s : Nat} (hs : s < 2) (hl : a s < NN s) (hf : s = 1 → m = 1 → a 0 = NN 0) (hT : Tab w) (h0 : 0 < B) (h : Sd w wr B jb m J gB gA gW gt ao nn cc NN gc gr kk (upd a s (a s + 1)) bb) : Calls Tryd.prog 10 #[.pointer (some ⟨jb, 0, none⟩), .int .i64 (kk s : Int), .slice (some ⟨gr s, a s * 256, none⟩) (8 + min 248 (nn s - a s * 248)) (8 + min 248 (nn s - a s * 248))] wr fun e w' => TOut w w' B jb m J gB gA gW gt ao nn cc NN gc gr kk a bb s (decide (a s + 1 = NN s)) e := by
  have hk := K.lt hs
  have hlen := K.len s hs
  have hrd : Rd wr (some ⟨gr s, a s * 256, none⟩) (8 + min 248 (nn s - a s * 248)) (8 + min 248 (nn s - a s * 248)) (chunk (bb s) (a s)) := by
    have h1 := h.dt.bk s hs
    rw [← K.cn s hs, ← hlen] at h1
    rw [← hlen]
    exact piece_rd (by rw [hlen]; exact K.sh s hs) (K.by_ s hs) h1 (by rw [hlen, K.cn s hs]; exact hl)
  have h1 := take_any h.jg.ok (k := kk s) (by rw [h.jg.n]; exact hk) hrd (by omega) (hT.low h.jg.bel h0) h0
  rw [h.jg.b] at h1
  have h2 := take_nxt (p := J.ps (kk s)) (K.by_ s hs) (by rw [hlen]; exact K.sh s hs) (i := a s) (by rw [hlen, K.cn s hs]; exact hl) (by
    by_cases e : a s = 0
    · exact .inl e
    · exact .inr (i.go s hs (by omega) hl))
  rw [h2] at h1
  refine h1.mono fun e w' ht => ?_
  obtain ⟨ra, rn, rc, g, h4, h5, h6, h7⟩ := h.took ht
  have h8 := i.st K hs hl hf g
  by_cases e : a s + 1 = NN s
  · rw [nxt_last K hs e] at h4 h5 h6 h7 h8
    rw [decide_eq_true e]
    exact ⟨ra, rn, rc, _, h4, (fun h => by cases h), fun _ => h6 _ rfl, h7, h8⟩
  · rw [nxt_more K hs e] at h4 h5 h6 h7 h8
    rw [decide_eq_false e]
    exact ⟨ra, rn, rc, _, h4, fun _ => (h5 rfl).2.1, (fun h => by cases h), h7, h8⟩
theorem Sd.held (K : Kw m nn NN kk bb) (i : Iv m NN kk a bb J) (h : Sd w wr B jb m J gB gA gW gt ao nn cc NN gc gr kk a bb) (h0 : a 0 = NN 0) (h1 : a 1 = NN 1) (s : Nat) (hs : s < 2) : Calls Tryd.prog 12 #[.pointer (some ⟨jb, 0, none⟩), .int .i64 (kk s : Int)] wr fun e w' => e = .returned (.int .i64 0) ∧ wr = w' := by
  have hh := held_any h.jg.ok (kk s : Int)
  have hd := i.done K h0 h1
  rw [h.jg.b, Int.toNat_natCast] at hh
  have e : J.ps (kk s) = p0 := by
    rcases (show s = 0 ∨ s = 1 by omega) with rfl | rfl
    · exact hd.1
    · exact hd.2
  rw [e] at hh
  refine hh.mono ?_
  rintro e w' ⟨rfl, rfl⟩
  refine ⟨?_, rfl⟩
  have : ((p0.bs.length : Nat) : Int) = 0 := rfl
  rw [this]
  simp
end
end Go.Proofs.YtmphabgpabbbjaaDoor.Fg
