import Derived.Test.YtmphabgpabbbjaaDoorUy0
import Derived.Deep.AppendLies
namespace Go.Proofs.YtmphabgpabbbjaaDoor.Fg
open Go.RowKit Mb Ov
set_option linter.unusedVariables false
set_option maxRecDepth 100000
set_option linter.unusedSimpArgs false
section
variable {w w' W wr wr' : World} {B : Nat}
theorem list8 {bs : List Int} (h : 8 ≤ bs.length) : ∃ a b c d e f g i r, bs = a :: b :: c :: d :: e :: f :: g :: i :: r := by
  match bs, h with
  | a :: b :: c :: d :: e :: f :: g :: i :: r, _ => exact ⟨a, b, c, d, e, f, g, i, r, rfl⟩
theorem pl_nat {bs : List Int} (hl : 8 ≤ bs.length) : pl bs = (bs.getD 2 0).toNat * 256 + (bs.getD 3 0).toNat := by
  obtain ⟨a, b, c, d, e, f, g, i, r, rfl⟩ := list8 hl
  simp [pl, val]
theorem sz_nat {bs : List Int} (hl : 8 ≤ bs.length) : sz bs = (bs.getD 0 0).toNat * 256 + (bs.getD 1 0).toNat := by
  obtain ⟨a, b, c, d, e, f, g, i, r, rfl⟩ := list8 hl
  simp [sz, val]
theorem sm_nat {bs : List Int} (hl : 8 ≤ bs.length) : sm bs = (((bs.getD 4 0).toNat * 256 + (bs.getD 5 0).toNat) * 256 + (bs.getD 6 0).toNat) * 256 + (bs.getD 7 0).toNat := by
  obtain ⟨a, b, c, d, e, f, g, i, r, rfl⟩ := list8 hl
  simp [sm, val]
theorem pl_zero {bs : List Int} (hb : By bs) (hl : 8 ≤ bs.length) : pl bs = 0 ↔ bs.getD 2 0 = 0 ∧ bs.getD 3 0 = 0 := by
  rw [pl_nat hl]
  have h2 := hb 2
  have h3 := hb 3
  omega
theorem take_ways (p : Pt) (c : List Int) : (Form c ∧ fits p c = true ∧ (joined p c).length < sz c ∧ take p c = ⟨⟨sz c, sm c, joined p c⟩, none, 0⟩) ∨ (Form c ∧ fits p c = true ∧ (joined p c).length = sz c ∧ crc (joined p c) = sm c ∧ take p c = ⟨p0, some (joined p c), 0⟩) ∨ (take p c = ⟨p0, none, 91⟩) ∨ take p c = ⟨p, none, 91⟩ := by
  unfold take
  by_cases h : (form c && fits p c) = true
  · rw [if_pos h]
    rw [Bool.and_eq_true] at h
    have hf := (form_iff c).1 h.1
    have hj := joined_len hf h.2
    by_cases h1 : (joined p c).length < sz c
    · rw [if_pos h1]
      exact .inl ⟨hf, h.2, h1, rfl⟩
    · rw [if_neg h1]
      by_cases h2 : crc (joined p c) = sm c
      · rw [if_pos h2]
        exact .inr (.inl ⟨hf, h.2, by have := hf.lt; omega, h2, rfl⟩)
      · rw [if_neg h2]
        exact .inr (.inr (.inl rfl))
  · rw [if_neg h]
    exact .inr (.inr (.inr rfl))
theorem fits_p0 {c : List Int} (h : fits p0 c = true) : pl c = 0 := by
  by_cases e : pl c = 0
  · exact e
  · unfold fits beg at h
    rw [if_neg e] at h
    exact absurd (of_decide_eq_true h).2.1.symm e
def Pu (J : Jn) (ts : Nat → List Int) : Prop := ∀ s, s < 16 → J.ps s = p0 ∨ ts s = (J.ps s).bs
theorem joined_pu {J : Jn} {ts : Nat → List Int} (h : Pu J ts) {k : Nat} (hk : k < 16) {c : List Int} (hf : fits (J.ps k) c = true) : joined (J.ps k) c = (if pl c = 0 then [] else ts k) ++ c.drop 8 := by
  by_cases e : pl c = 0
  · rw [if_pos e, joined_zero e, List.nil_append]
  · rw [if_neg e, joined_more e]
    rcases h k hk with h0 | h0
    · rw [h0] at hf
      exact absurd (fits_p0 hf) e
    · rw [h0]
theorem Pu.put {J : Jn} {ts : Nat → List Int} (h : Pu J ts) {k : Nat} {p : Pt} {g : Option Nat} {xs : List Int} (hp : p = p0 ∨ xs = p.bs) : Pu (J.put k p g) (upd ts k xs) := fun s hs => by
  by_cases e : s = k
  · subst e
    rw [put_at, upd_same]
    exact hp
  · rw [put_off _ _ _ e, upd_ne _ _ e]
    exact h s hs
theorem Pu.put' {J : Jn} {ts : Nat → List Int} (h : Pu J ts) {k : Nat} {p : Pt} {g : Option Nat} (hp : p = p0 ∨ ts k = p.bs) : Pu (J.put k p g) ts := by
  have := h.put (k := k) (g := g) (xs := ts k) hp
  rwa [upd_self] at this
structure Tm (wr : World) (B gT : Nat) (J : Jn) (v : Nat → Value) (ts : Nat → List Int) : Prop where
  blk : Fb wr gT 32 16 v
  own : ∀ s, s < 16 → Own wr B (v s) (ts s)
  ap : ∀ s t g, s < 16 → t < 16 → (v s).ownBlock = some g → (v t).ownBlock = some g → s = t
  nj : ∀ s g, s < 16 → (v s).ownBlock = some g → ¬ J.own g ∧ g ≠ gT
  nt : ¬ J.own gT
  lo : B ≤ gT
  len : ∀ s, s < 16 → (ts s).length ≤ 4000
  by_ : ∀ s, s < 16 → By (ts s)
variable {gT : Nat} {J : Jn} {v : Nat → Value} {ts : Nat → List Int}
theorem Tm.keep {P : Nat → Prop} (h : Tm wr B gT J v ts) (k : Kept wr wr' P) (hp : ¬ P gT) (hq : ∀ s g, s < 16 → (v s).ownBlock = some g → ¬ P g) : Tm wr' B gT J v ts :=
  ⟨h.blk.keep k hp, fun s hs => (h.own s hs).keep k (fun g hg => hq s g hs hg), h.ap, h.nj, h.nt, h.lo, h.len, h.by_⟩
theorem Tm.still (h : Tm wr B gT J v ts) (hb : Below wr.heap.size wr wr') : Tm wr' B gT J v ts := h.keep (Kept.ofBelow hb (fun _ => False)) id (fun _ _ _ _ => id)
theorem Tm.lt (h : Tm wr B gT J v ts) {s g : Nat} (hs : s < 16) (hg : (v s).ownBlock = some g) : B ≤ g ∧ g < wr.heap.size := (h.own s hs).lt g hg
theorem Tm.took {k : Nat} {p : Pt} {g : Option Nat} (h : Tm wr B gT J v ts) (h5 : Kept wr wr' J.own) (h6 : ∀ j, (J.put k p g).own j → J.own j ∨ wr.heap.size ≤ j) : Tm wr' B gT (J.put k p g) v ts := by
  have h' := h.keep h5 h.nt (fun s g hs hg => (h.nj s g hs hg).1)
  refine ⟨h'.blk, h'.own, h.ap, fun s g' hs hg => ⟨fun hh => ?_, (h.nj s g' hs hg).2⟩, fun hh => ?_, h.lo, h.len, h.by_⟩
  · rcases h6 _ hh with e | e
    · exact (h.nj s g' hs hg).1 e
    · have := (h.lt hs hg).2; omega
  · rcases h6 _ hh with e | e
    · exact h.nt e
    · have := h.blk.lt; omega
theorem Tm.reset (h : Tm wr B gT J v ts) (h5 : Kept wr wr' J.own) : Tm wr' B gT J.reset v ts := by
  have h' := h.keep h5 h.nt (fun s g hs hg => (h.nj s g hs hg).1)
  have hr : ∀ j, J.reset.own j → J.own j := fun j hj => by
    rcases hj with e | e | ⟨s, e⟩
    · exact .inl e
    · exact .inr (.inl e)
    · cases e
  exact ⟨h'.blk, h'.own, h.ap, fun s g' hs hg => ⟨fun hh => (h.nj s g' hs hg).1 (hr _ hh), (h.nj s g' hs hg).2⟩, fun hh => h.nt (hr _ hh), h.lo, h.len, h.by_⟩
theorem Tm.setG (h : Tm wr B gT J v ts) {w2 : World} {s : Nat} (b2 : Fb w2 gT 32 16 v) (o2 : ∀ t, t < 16 → t ≠ s → Own w2 B (v t) (ts t)) (hs : s < 16) {y : Value} {xs : List Int} (ho : Own w2 B y xs) (hy : ∀ g, y.ownBlock = some g → ¬ J.own g ∧ g ≠ gT ∧ ∀ t, t < 16 → t ≠ s → (v t).ownBlock ≠ some g) (hl : xs.length ≤ 4000) (hb : By xs) : Tm (w2.setCell ⟨gT, s, none⟩ y) B gT J (upd v s y) (upd ts s xs) := by
  have k : Kept w2 (w2.setCell ⟨gT, s, none⟩ y) (fun k => k = gT) := kset _ _ _ _ rfl
  refine ⟨(b2.set s y).congr fun i hi => ?_, fun t ht => ?_, fun t u g ht hu h1 h2 => ?_, fun t g ht h1 => ?_, h.nt, h.lo, fun t ht => ?_, fun t ht => ?_⟩
  · by_cases e : i = s
    · subst e; rw [if_pos rfl, upd_same]
    · rw [if_neg e, upd_ne _ _ e]
  · by_cases e : t = s
    · subst e
      rw [upd_same, upd_same]
      exact ho.keep k (fun g hg => (hy g hg).2.1)
    · rw [upd_ne _ _ e, upd_ne _ _ e]
      exact (o2 t ht e).keep k (fun g hg => (h.nj t g ht hg).2)
  · by_cases e : t = s
    · by_cases e2 : u = s
      · rw [e, e2]
      · subst e
        rw [upd_same] at h1
        rw [upd_ne _ _ e2] at h2
        exact absurd h2 ((hy g h1).2.2 u hu e2)
    · by_cases e2 : u = s
      · subst e2
        rw [upd_same] at h2
        rw [upd_ne _ _ e] at h1
        exact absurd h1 ((hy g h2).2.2 t ht e)
      · rw [upd_ne _ _ e] at h1
        rw [upd_ne _ _ e2] at h2
        exact h.ap t u g ht hu h1 h2
  · by_cases e : t = s
    · subst e
      rw [upd_same] at h1
      exact ⟨(hy g h1).1, (hy g h1).2.1⟩
    · rw [upd_ne _ _ e] at h1
      exact h.nj t g ht h1
  · by_cases e : t = s
    · subst e; rw [upd_same]; exact hl
    · rw [upd_ne _ _ e]; exact h.len t ht
  · by_cases e : t = s
    · subst e; rw [upd_same]; exact hb
    · rw [upd_ne _ _ e]; exact h.by_ t ht
theorem Tm.nil (h : Tm wr B gT J v ts) {s : Nat} (hs : s < 16) : Tm (wr.setCell ⟨gT, s, none⟩ (.slice none 0 0)) B gT J (upd v s (.slice none 0 0)) (upd ts s []) :=
  h.setG h.blk (fun t ht _ => h.own t ht) hs (own_zero _ _) (fun g hg => by simp [Value.ownBlock] at hg) (by simp) By.nil
structure Grew (wr w2 : World) (B gT : Nat) (J : Jn) (v : Nat → Value) (ts : Nat → List Int) (s : Nat) (y : Value) (xs : List Int) : Prop where
  own : Own w2 B y (ts s ++ xs)
  gr : Kept wr w2 (fun k => some k = (v s).ownBlock)
  at_ : y.ownBlock = (v s).ownBlock ∨ y.ownBlock = some wr.heap.size
theorem Grew.keepB {w2 : World} {s : Nat} {y : Value} {xs : List Int} (h : Tm wr B gT J v ts) (hs : s < 16) (g : Grew wr w2 B gT J v ts s y xs) : Fb w2 gT 32 16 v := h.blk.keep g.gr (fun e => (h.nj s gT hs e.symm).2 rfl)
theorem Grew.set {w2 : World} {s : Nat} {y : Value} {xs : List Int} (h : Tm wr B gT J v ts) (hJ : J.Ok wr B) (hs : s < 16) (g : Grew wr w2 B gT J v ts s y xs) (hl : (ts s ++ xs).length ≤ 4000) (hb : By xs) : Tm (w2.setCell ⟨gT, s, none⟩ y) B gT J (upd v s y) (upd ts s (ts s ++ xs)) := by
  have hg := h.blk.lt
  refine h.setG (g.keepB h hs) (fun t ht e => (h.own t ht).keep g.gr (fun q hq e2 => e (h.ap t s q ht hs hq e2.symm))) hs g.own (fun q hq => ?_) hl ((h.by_ s hs).append hb)
  rcases g.at_ with e | e
  · rw [e] at hq
    exact ⟨(h.nj s q hs hq).1, (h.nj s q hs hq).2, fun t ht hts h2 => hts (h.ap t s q ht hs h2 hq)⟩
  · rw [e] at hq
    simp at hq
    subst hq
    exact ⟨fun hh => by have := hJ.own_lt _ hh; omega, by omega, fun t ht _ h2 => by have := (h.lt ht h2).2; omega⟩
theorem Jg.kp {w2 : World} {jb m : Nat} {P : Nat → Prop} (h : Jg w wr B jb m J) (k : Kept wr w2 P) (hp : ∀ j, J.own j → ¬ P j) (hB : ∀ j, j < B → ¬ P j) : Jg w w2 B jb m J :=
  ⟨h.ok.keep k hp, h.b, h.n, h.bel.trans (k.below h.hB hB), Nat.le_trans h.hB k.size⟩
theorem Tm.jset {jb m : Nat} (h : Tm wr B gT J v ts) {w2 : World} (hj : Jg w w2 B jb m J) (s : Nat) (y : Value) : Jg w (w2.setCell ⟨gT, s, none⟩ y) B jb m J :=
  hj.kp (kset _ _ _ _ (P := fun k => k = gT) rfl) (fun j hj e => h.nt (e ▸ hj)) (fun j hj e => by have := h.lo; omega)
theorem Grew.jg {w2 : World} {jb m s : Nat} {y : Value} {xs : List Int} (h : Tm wr B gT J v ts) (hj : Jg w wr B jb m J) (hs : s < 16) (g : Grew wr w2 B gT J v ts s y xs) : Jg w w2 B jb m J :=
  hj.kp g.gr (fun j hj e => (h.nj s j hs e.symm).1 hj) (fun j hj e => by have := (h.lt hs e.symm).1; omega)
theorem step_append_rd {ops : Array Oper} {o : Oper} {a : Act} {K : Act → World → Prop} {Q : Exit → Act → World → Prop} {E : Prop} (hgd : o.guard = none) (so x : Operand)
    (ho : o.op = .call { callee := .builtin .append, args := #[so, x], argTypes := #[28, 28] })
    (h : Tm wr B gT J v ts) (hB : B ≤ wr.heap.size) {s : Nat} (hs : s < 16) (hsv : a.eval so = v s)
    (ad : Addr) (m c : Nat) (bs : List Int) (hx : a.eval x = .slice (some ad) m c) (hr : Rd wr (some ad) m c bs) (hm : m ≤ 1000000)
    (hK : ∀ y w', Grew wr w' B gT J v ts s y bs → K (a.put o.dst y) w') : if Region.wanted o (yielded ops a.tmps) = true then Oper.wp Tryd.prog o a wr K Q else E := by
  have hw : Region.wanted o (yielded ops a.tmps) = true := by simp [Region.wanted, hgd]
  rw [if_pos hw]
  obtain ⟨si, shi, shz0, shz1, shz2⟩ := byte_info
  have hl := hr.len
  have hn := h.len s hs
  obtain ⟨y, w', hrun, h2, h3, _, h5⟩ := run_append_own_at (P := Tryd.prog) wr B 28 o.type 5 si (.int .u8 0) 1 1 Tryd.underlying28 shi shz0 shz1 shz2 rfl (by decide) (v s) (ts s).length (byts (ts s)) (h.own s hs) ad m c (byts bs) (by rw [byts_len]; omega) (hr.news ad rfl) (byts_one bs) (by unfold maxLen; omega) (by omega) hB
  unfold Oper.wp execOp
  simp only [ho, resolve, invoke, builtin, Sem.run_bind, Sem.run_pure, Result.andThen_ok, List.map_toArray, List.map_cons, List.map_nil, hsv, hx, hrun]
  exact hK y w' ⟨by unfold Own; rw [byts_app, List.length_append, hl]; exact h2, Kept.ofGrown h3, h5⟩
theorem or_sz (x y : Nat) (hx : x < 256) (hy : y < 256) : bits .or .i64 ((x : Int) * 256) (y : Int) = ((x * 256 + y : Nat) : Int) := or8 x y (by omega) hy
theorem or_24 (x y : Nat) (hx : x < 256) (hy : y < 256) : bits .or .i64 ((x : Int) * 16777216) ((y : Int) * 65536) = ((x * 16777216 + y * 65536 : Nat) : Int) := by
  rw [show ((x : Int) * 16777216) = ((x * 16777216 : Nat) : Int) by omega, show ((y : Int) * 65536) = ((y * 65536 : Nat) : Int) by omega, i64_or_nat _ _ (by omega) (by omega), nat_join 24 (x * 16777216) (y * 65536) (by omega) (by omega)]
theorem or_16 (s y : Nat) (hs : s < 4294967296) (h : s % 65536 = 0) (hy : y < 256) : bits .or .i64 (s : Int) ((y : Int) * 256) = ((s + y * 256 : Nat) : Int) := by
  rw [show ((y : Int) * 256) = ((y * 256 : Nat) : Int) by omega, i64_or_nat _ _ (by omega) (by omega), nat_join 16 s (y * 256) (by omega) (by omega)]
theorem or_8 (s y : Nat) (hs : s < 4294967296) (h : s % 256 = 0) (hy : y < 256) : bits .or .i64 (s : Int) (y : Int) = ((s + y : Nat) : Int) := by
  rw [i64_or_nat _ _ (by omega) (by omega), nat_join 8 s y (by omega) (by omega)]
theorem rd_tail {b off n c : Nat} {bs : List Int} (hr : Rd w (some ⟨b, off, none⟩) n c bs) (hn : 8 ≤ n) : Rd w (if c = 8 then some ⟨b, off, none⟩ else some ⟨b, off + 8, none⟩) (n - 8) (c - 8) (bs.drop 8) := by
  have hcap := hr.cap
  have hl := hr.len
  refine ⟨by rw [List.length_drop]; omega, by omega, (fun h => by split at h <;> (cases h)), ?_, hr.by_.drop 8⟩
  rcases hr.at_ with h0 | ⟨b', off', he, hc⟩
  · omega
  · simp at he
    obtain ⟨rfl, rfl⟩ := he
    by_cases e : c = 8
    · exact .inl (by omega)
    · rw [if_neg e]
      refine .inr ⟨b, off + 8, rfl, fun i hi => ?_⟩
      have := hc (8 + i) (by omega)
      rw [Nat.add_assoc, this]
      congr 2
      simp [List.getD]
end
end Go.Proofs.YtmphabgpabbbjaaDoor.Fg
