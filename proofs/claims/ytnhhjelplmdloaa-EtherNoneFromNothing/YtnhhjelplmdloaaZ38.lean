import Derived.Test.YtnhhjelplmdloaaZ36
import Derived.Test.YtnhhjelplmdloaaZ37
namespace Go.Proofs.Ytnhhjelplmdloaa.Et
open Go.RowKit Go.Maps
set_option linter.unusedVariables false
set_option linter.unusedSimpArgs false
set_option maxRecDepth 100000
section
variable {E E1 E' : En} {w w' w1 w2 w3 : World} {B K m : Nat}
def AdX (E E1 : En) (sr ds : Int) (bs : List Int) : Prop := ∃ f a c, E1 = added E f a c ∧ f.id = E.last + 1 ∧ f.src = sr ∧ f.dst = ds ∧ f.bs = bs
def SbX (E E1 : En) : Prop := E1.last = E.last ∧ ∀ f ∈ E1.fs, ∃ g ∈ E.fs, g.id = f.id ∧ g.src = f.src ∧ g.dst = f.dst ∧ g.bs = f.bs
def DoX (v : Ev) (bs : List Int) (E E1 : En) : Prop :=
  (v.k ≠ 13 ∧ v.k ≠ 16 ∧ v.k ≠ 17 ∧ SbX E E1) ∨ (v.k = 13 ∧ ∃ k : Nat, v.a = k ∧ k < E.fs.length ∧ AdX E E1 (E.fs.getD k f0).src (E.fs.getD k f0).dst (E.fs.getD k f0).bs) ∨ (v.k = 16 ∧ ∃ k x : Nat, v.a = k ∧ k < E.fs.length ∧ v.n = x ∧ x / 8 < (E.fs.getD k f0).n ∧ E1.last = E.last ∧ E1.fs = E.fs.set k { (E.fs.getD k f0) with bs := (E.fs.getD k f0).bs.set (x / 8) (flipB ((E.fs.getD k f0).bs.getD (x / 8) 0) (x % 8)) }) ∨ (v.k = 17 ∧ AdX E E1 v.a v.b bs)
structure Go1 (w w1 : World) (E E1 : En) (B K : Nat) : Prop where
  st : ∃ m1, Step w w1 E E1 B m1 ∧ m1 ≤ 256 * (K + 1)
  nx : Nx E E1 K
  inc : E1.inc = E.inc
def Rsx (w w1 : World) (E : En) (B K : Nat) (y : Int) (P : En → Prop) : Prop := (y ≠ 0 ∧ Below w.heap.size w w1) ∨ (y = 0 ∧ ∃ E1, Go1 w w1 E E1 B K ∧ P E1)
theorem Rsx.no {y : Int} {P : En → Prop} (hy : y ≠ 0) (hb : Below w.heap.size w w1) : Rsx w w1 E B K y P := .inl ⟨hy, hb⟩
theorem Rsx.pre {y : Int} {P : En → Prop} (hb : Below w.heap.size w w1) (r : Rsx w1 w2 E B K y P) : Rsx w w2 E B K y P := by
  rcases r with ⟨hy, h⟩ | ⟨hy, E1, ⟨⟨m1, st, hm⟩, nx, i⟩, p⟩
  · exact .inl ⟨hy, bstep hb h⟩
  · exact .inr ⟨hy, E1, ⟨⟨m1, st.pre hb, hm⟩, nx, i⟩, p⟩
theorem Rsx.yes {m1 : Nat} {P : En → Prop} (st : Step w w1 E E1 B m1) (hm : m1 ≤ 256 * (K + 1)) (hx : Nx E E1 K) (hi : E1.inc = E.inc) (p : P E1) : Rsx w w1 E B K 0 P := .inr ⟨rfl, E1, ⟨⟨m1, st, hm⟩, hx, hi⟩, p⟩
theorem Rsx.imp {y : Int} {P Q : En → Prop} (r : Rsx w w1 E B K y P) (h : ∀ E1, P E1 → Q E1) : Rsx w w1 E B K y Q := by
  rcases r with r | ⟨hy, E1, g, p⟩
  · exact .inl r
  · exact .inr ⟨hy, E1, g, h E1 p⟩
theorem sbx_same (h1 : E1.last = E.last) (h2 : E1.fs = E.fs) : SbX E E1 := ⟨h1, fun f hf => ⟨f, h2 ▸ hf, rfl, rfl, rfl, rfl⟩⟩
theorem sbx_sub (h1 : E1.last = E.last) (h2 : E1.fs.Sublist E.fs) : SbX E E1 := ⟨h1, fun f hf => ⟨f, h2.subset hf, rfl, rfl, rfl, rfl⟩⟩
theorem sbx_due {k : Nat} {x : Int} (hk : k < E.fs.length) (h1 : E1.last = E.last) (h2 : E1.fs = E.fs.set k { (E.fs.getD k f0) with due := x }) : SbX E E1 := ⟨h1, fun f hf => by
  rw [h2] at hf
  rcases List.mem_or_eq_of_mem_set hf with hf | rfl
  · exact ⟨f, hf, rfl, rfl, rfl, rfl⟩
  · exact ⟨_, mem_getD hk, rfl, rfl, rfl, rfl⟩⟩
theorem launch_x (he : E.Ok w B (256 * K)) (hB : B ≤ w.heap.size) (h : Inv E K) (hK : K ≤ 2199023255551) (a b : Nat) (ha : a < E.nn) (hb : b < E.nn) (hab : a ≠ b) (n : Nat) (hn : n ≤ 40000) (bs : List Int) (ea : Option Addr) (ec : Nat) (hr : Rd w ea n ec bs) :
    Calls Try.prog 26 (aL E.b a b ea n ec) w fun e w1 => ∃ x y, e = .returned (tup x y) ∧ Rsx w w1 E B K y (fun E1 => x = E.last + 1 ∧ AdX E E1 a b bs) := by
  have hn16 := he.n16
  cases hc : E.cut a b with
  | true => exact (launch_cut he a b (by omega) (by omega) hc _).mono fun e w1 ⟨x1, x2⟩ => ⟨0, 30, x1, Rsx.no (by decide) x2⟩
  | false =>
    by_cases hl : E.room ≤ E.fs.length
    · exact (launch_full he a b (by omega) (by omega) hc _ _ _ hl).mono fun e w1 ⟨x1, x2⟩ => ⟨0, 31, x1, Rsx.no (by decide) x2⟩
    · refine (launch_ok he hB a b ha hb hab hc ea n ec bs hr (by omega) (by omega) h.r1.2).mono ?_
      rintro e w1 ⟨rfl, g, a', c', st⟩
      have hd := he.dly a b (by omega) (by omega)
      have hck := h.ck
      have hw : IntKind.i64.wrap (E.clock + E.dl a b) = E.clock + E.dl a b := wrap_id (by omega) (by omega)
      refine ⟨_, 0, rfl, Rsx.yes st (by omega) (nx_added h hK _ _ _ rfl hn ?_ ?_ (by omega)) rfl ⟨wN_is h hK, _, _, _, rfl, wN_is h hK, rfl, rfl, rfl⟩⟩
      · show E.clock < IntKind.i64.wrap (E.clock + E.dl a b)
        omega
      · show IntKind.i64.wrap (E.clock + E.dl a b) ≤ _
        omega
theorem post_x (he : E.Ok w B (256 * K)) (hB : B ≤ w.heap.size) (h : Inv E K) (hK : K ≤ 2199023255551) (p q : Int) (n : Nat) (bs : List Int) (ea : Option Addr) (ec : Nat) (hr : Rd w ea n ec bs) : Calls Try.prog 7 (aQ E.b p q ea n ec) w fun e w1 => ∃ x y, e = .returned (tup x y) ∧ Rsx w w1 E B K y (fun E1 => x = E.last + 1 ∧ AdX E E1 p q bs) := by
  cases hno : (isP E p q && decide ((n : Int) ≤ 40000)) with
  | false => exact (post_arg he p q ea n ec hno).mono fun e w1 ⟨x1, x2⟩ => ⟨0, 1, x1, Rsx.no (by decide) x2⟩
  | true =>
    have hno' := hno
    rw [Bool.and_eq_true] at hno'
    obtain ⟨hp, hn⟩ := hno'
    have hn : n ≤ 40000 := by have := of_decide_eq_true hn; omega
    obtain ⟨a, b, rfl, rfl, ha, hb, hab⟩ := isP_true hp
    cases hu : E.up a with
    | false => exact (post_down he a b ea n ec ha hno hu).mono fun e w1 ⟨x1, x2⟩ => ⟨0, 32, x1, Rsx.no (by decide) x2⟩
    | true =>
      refine post_go he a b ea n ec ha hno hu _ (fun w2 hb2 => ?_)
      refine (launch_x (he.still hb2) (Nat.le_trans hB hb2.size) h hK a b ha hb hab n hn bs ea ec (hr.still hb2)).mono ?_
      rintro e w3 ⟨x, y, rfl, hg⟩
      exact ⟨⟨_, _, rfl⟩, x, y, rfl, hg.pre hb2⟩
theorem packet_x (he : E.Ok w B (256 * K)) (hB : B ≤ w.heap.size) (h : Inv E K) (hK : K ≤ 2199023255551) (v : Ev) (bs : List Int) (hk : v.k = 12 ∨ v.k = 13 ∨ v.k = 15 ∨ v.k = 16) (h63 : v.n ≤ 9223372036854775807) : Calls Try.prog 52 (aD E.b v) w fun e w1 => ∃ x, e = .returned (.int .i64 x) ∧ Rsx w w1 E B K x (DoX v bs E) := by
  have hfew : E.fs.length ≤ 20000 := by have := h.few; have := h.r1; omega
  by_cases hpl : 0 ≤ v.a ∧ v.a < E.fs.length
  · obtain ⟨h0, h1⟩ := hpl
    obtain ⟨k, hva⟩ : ∃ k : Nat, v.a = k := ⟨v.a.toNat, by omega⟩
    have hkl : k < E.fs.length := by omega
    have hm := mem_getD hkl
    have hdue := h.due _ hm
    rcases hk with h12 | h13 | h15 | h16
    · exact (dp_drop he v k hva hkl h12 hfew).mono fun e w1 ⟨x1, a, c, st⟩ => ⟨0, x1, Rsx.yes st (by omega) ⟨inv_sub h a c _ (List.eraseIdx_sublist _ _), rfl, rfl, rfl⟩ rfl (.inl ⟨by omega, by omega, by omega, sbx_sub rfl (List.eraseIdx_sublist _ _)⟩)⟩
    · by_cases hl : E.room ≤ E.fs.length
      · exact (dp_full he v k hva hkl h13 hl).mono fun e w1 ⟨x1, x2⟩ => ⟨31, x1, Rsx.no (by decide) x2⟩
      · exact (dp_dup he v k hva hkl h13 hB (by omega) h.r1.2 (h.szE _ hm)).mono fun e w1 ⟨x1, g, a, c, st⟩ => ⟨0, x1, Rsx.yes st (by omega) (nx_added h hK (duped E (E.fs.getD k f0) g) a c rfl (h.szE (E.fs.getD k f0) hm :) hdue.1 (by show (E.fs.getD k f0).due ≤ _; omega) (by omega)) rfl (.inr (.inl ⟨h13, k, hva, hkl, _, _, _, rfl, wN_is h hK, rfl, rfl, rfl⟩))⟩
    · by_cases hx : v.n < 1 ∨ 16 < v.n
      · exact (dp_hno he v k hva hkl h15 hx).mono fun e w1 ⟨x1, x2⟩ => ⟨1, x1, Rsx.no (by decide) x2⟩
      · have hck := h.ck
        have hw : wrap64 ((E.fs.getD k f0).due + v.n) = (E.fs.getD k f0).due + v.n := by rw [wrap_eq]; exact wrap_id (by omega) (by omega)
        exact (dp_hold he v k hva hkl h15 (by omega) (by omega)).mono fun e w1 ⟨x1, st⟩ => ⟨0, x1, Rsx.yes st (by omega) ⟨inv_set h k hkl _ rfl rfl (by show _ < wrap64 _; omega) (by show wrap64 _ ≤ _; omega), rfl, rfl, rfl⟩ rfl (.inl ⟨by omega, by omega, by omega, sbx_due hkl rfl rfl⟩)⟩
    · by_cases hx : v.n < 0 ∨ ((E.fs.getD k f0).n : Int) ≤ v.n / 8
      · exact (dp_fno he v k hva hkl h16 hx h63).mono fun e w1 ⟨x1, x2⟩ => ⟨1, x1, Rsx.no (by decide) x2⟩
      · obtain ⟨x, hvx⟩ : ∃ x : Nat, v.n = x := ⟨v.n.toNat, by omega⟩
        exact (dp_flip he v k hva hkl h16 x hvx (by omega) (by omega)).mono fun e w1 ⟨x1, st⟩ => ⟨0, x1, Rsx.yes st (by omega) ⟨inv_set h k hkl _ rfl rfl hdue.1 (by show (E.fs.getD k f0).due ≤ _; omega), rfl, rfl, rfl⟩ rfl (.inr (.inr (.inl ⟨h16, k, x, hva, hkl, hvx, by omega, rfl, rfl⟩)))⟩
  · exact (dp_none he v hpl).mono fun e w1 ⟨x1, x2⟩ => ⟨34, x1, Rsx.no (by decide) x2⟩
theorem path_x (he : E.Ok w B (256 * K)) (h : Inv E K) (hK : K ≤ 2199023255551) (v : Ev) (hk : v.k = 8 ∨ v.k = 9 ∨ v.k = 10) : Calls Try.prog 50 (aD E.b v) w fun e w1 => ∃ x, e = .returned (.int .i64 x) ∧ Rsx w w1 E B K x (SbX E) := by
  cases hp : isP E v.a v.b with
  | false => exact (doPath_no he v hp).mono fun e w1 ⟨x1, x2⟩ => ⟨1, x1, Rsx.no (by decide) x2⟩
  | true =>
    obtain ⟨a, b, ha, hb, han, hbn, hab⟩ := isP_true hp
    by_cases h10 : v.k = 10
    · by_cases hx : v.n < 1 ∨ 16 < v.n
      · exact (doPath_dno he v a b ha hb han hbn hab h10 hx).mono fun e w1 ⟨x1, x2⟩ => ⟨1, x1, Rsx.no (by decide) x2⟩
      · exact (doPath_dly he v a b ha hb han hbn hab h10 (by omega) (by omega) (by unfold maxLen; omega)).mono fun e w1 ⟨x1, st⟩ => ⟨0, x1, Rsx.yes st (by omega) ⟨h.cong rfl rfl rfl rfl, rfl, rfl, rfl⟩ rfl (sbx_same rfl rfl)⟩
    · exact (doPath_open he v a b ha hb han hbn hab h10 (by unfold maxLen; omega)).mono fun e w1 ⟨x1, st⟩ => ⟨0, x1, Rsx.yes st (by omega) ⟨h.cong rfl rfl rfl rfl, rfl, rfl, rfl⟩ rfl (sbx_same rfl rfl)⟩
theorem split_x (he : E.Ok w B (256 * K)) (h : Inv E K) (hK : K ≤ 2199023255551) (xs : List Int) (n c gs : Nat) (hxs : xs.length = n) (hcs : ∀ i, i < n → w.cell? ⟨gs, 0 + i, none⟩ = some (.int .i64 (xs.getD i 0))) (hgs : ¬ E.own gs) : Calls Try.prog 51 #[.pointer (some ⟨E.b, 0, none⟩), .slice (some ⟨gs, 0, none⟩) n c] w fun e w1 => ∃ x, e = .returned (.int .i64 x) ∧ Rsx w w1 E B K x (SbX E) := by
  by_cases hn : n = E.nn
  · subst hn
    by_cases hok : ∀ i, i < E.nn → okSide (xs.getD i 0)
    · exact (split_ok he gs 0 c xs hxs hcs hgs hok (by unfold maxLen; omega)).mono fun e w1 ⟨x1, st⟩ => ⟨0, x1, Rsx.yes st (by omega) ⟨h.cong rfl rfl rfl rfl, rfl, rfl, rfl⟩ rfl (sbx_same rfl rfl)⟩
    · obtain ⟨i0, hi0⟩ := Classical.not_forall.1 hok
      obtain ⟨hi1, hbad⟩ := Classical.not_imp.1 hi0
      exact (split_bad he gs 0 c xs hxs hcs i0 hi1 hbad).mono fun e w1 ⟨x1, x2⟩ => ⟨1, x1, Rsx.no (by decide) (by subst x2; exact Below.refl _ _)⟩
  · exact (split_len he _ n c hn).mono fun e w1 ⟨x1, x2⟩ => ⟨1, x1, Rsx.no (by decide) (by subst x2; exact Below.refl _ _)⟩
theorem inject_x (he : E.Ok w B (256 * K)) (hB : B ≤ w.heap.size) (h : Inv E K) (hK : K ≤ 2199023255551) (p q : Int) (n : Nat) (bs : List Int) (ea : Option Addr) (ec : Nat) (hr : Rd w ea n ec bs) : Calls Try.prog 53 #[.pointer (some ⟨E.b, 0, none⟩), .agg #[.int .i64 p, .int .i64 q], .slice ea n ec] w fun e w1 => ∃ x, e = .returned (.int .i64 x) ∧ Rsx w w1 E B K x (fun E1 => AdX E E1 p q bs) := by
  cases hno : (isP E p q && decide ((n : Int) ≤ 40000)) with
  | false => exact (inject_arg he p q ea n ec hno).mono fun e w1 ⟨x1, x2⟩ => ⟨1, x1, Rsx.no (by decide) x2⟩
  | true =>
    have hno' := hno
    rw [Bool.and_eq_true] at hno'
    obtain ⟨hp, hn⟩ := hno'
    have hn : n ≤ 40000 := by have := of_decide_eq_true hn; omega
    obtain ⟨a, b, rfl, rfl, ha, hb, hab⟩ := isP_true hp
    refine inject_go he a b ea n ec hno (fun y w1 => Rsx w w1 E B K y (fun E1 => AdX E E1 a b bs)) (fun w2 hb2 => ?_)
    refine (launch_x (he.still hb2) (Nat.le_trans hB hb2.size) h hK a b ha hb hab n hn bs ea ec (hr.still hb2)).mono ?_
    rintro e w3 ⟨x, y, rfl, hg⟩
    exact ⟨x, y, rfl, (hg.imp fun E1 h => h.2).pre hb2⟩
theorem do_x (he : E.Ok w B (256 * K)) (hB : B ≤ w.heap.size) (h : Inv E K) (hK : K ≤ 2199023255551) (v : Ev) (bs xs : List Int) (h63 : v.n ≤ 9223372036854775807) (hrd : Rd w v.ba v.bn v.bc bs) (hxs : xs.length = v.sn) (gs : Nat) (hsa : v.sa = some ⟨gs, 0, none⟩) (hcs : ∀ i, i < v.sn → w.cell? ⟨gs, 0 + i, none⟩ = some (.int .i64 (xs.getD i 0))) (hgs : ¬ E.own gs) : Calls Try.prog 32 (aD E.b v) w fun e w1 => ∃ x, e = .returned (.int .i64 x) ∧ Rsx w w1 E B K x (DoX v bs E) := by
  by_cases h1 : v.k = 8 ∨ v.k = 9 ∨ v.k = 10
  · exact do_path E.b v h1 _ (fun w2 hb2 => (path_x (he.still hb2) h hK v h1).mono fun e w3 ⟨x, x1, x2⟩ => ⟨⟨x, x1⟩, x, x1, (x2.imp fun E1 z => .inl ⟨by omega, by omega, by omega, z⟩).pre hb2⟩)
  by_cases h2 : v.k = 11
  · refine do_split E.b v h2 _ (fun w2 hb2 => ?_)
    rw [hsa]
    exact (split_x (he.still hb2) h hK xs v.sn v.sc gs hxs (fun i hi => below_at hb2 (hcs i hi)) hgs).mono fun e w3 ⟨x, x1, x2⟩ => ⟨⟨x, x1⟩, x, x1, (x2.imp fun E1 z => .inl ⟨by omega, by omega, by omega, z⟩).pre hb2⟩
  by_cases h3 : v.k = 12 ∨ v.k = 13 ∨ v.k = 15 ∨ v.k = 16
  · exact do_packet E.b v h3 _ (fun w2 hb2 => (packet_x (he.still hb2) (Nat.le_trans hB hb2.size) h hK v bs h3 h63).mono fun e w3 ⟨x, x1, x2⟩ => ⟨⟨x, x1⟩, x, x1, x2.pre hb2⟩)
  by_cases h4 : v.k = 17
  · exact do_inject E.b v h4 _ (fun w2 hb2 => (inject_x (he.still hb2) (Nat.le_trans hB hb2.size) h hK v.a v.b v.bn bs v.ba v.bc (hrd.still hb2)).mono fun e w3 ⟨x, x1, x2⟩ => ⟨⟨x, x1⟩, x, x1, (x2.imp fun E1 z => .inr (.inr (.inr ⟨h4, z⟩))).pre hb2⟩)
  have hno : doKind v.k = false := by
    simp [doKind]
    omega
  exact (do_other E.b v hno).mono fun e w1 ⟨x1, x2⟩ => ⟨1, x1, Rsx.no (by decide) x2⟩
end
end Go.Proofs.Ytnhhjelplmdloaa.Et
namespace Go.Proofs.Ytnhhjelplmdloaa.Et
open Go.RowKit Go.Maps
set_option linter.unusedVariables false
set_option linter.unusedSimpArgs false
set_option maxRecDepth 100000
section
variable {E E1 E' : En} {w w' w1 w2 w3 : World} {B K m : Nat} {es : List Be}
def Ent (es : List Be) (f : Fx) : Prop := ∃ k : Nat, k < es.length ∧ f.id = (k : Int) + 1 ∧ (es.getD k e0).src = f.src ∧ (es.getD k e0).dst = f.dst ∧ (es.getD k e0).bs = f.bs ∧ (es.getD k e0).come = false
structure Rel (E : En) (es : List Be) : Prop where
  la : E.last = es.length
  en : ∀ f ∈ E.fs, Ent es f
theorem getD_ap1 (es : List Be) (e : Be) {k : Nat} (hk : k < es.length) : (es ++ [e]).getD k e0 = es.getD k e0 := by simp [List.getD, List.getElem?_append_left hk]
theorem getD_ap2 (es : List Be) (e : Be) : (es ++ [e]).getD es.length e0 = e := by simp [List.getD]
theorem Ent.snoc {f : Fx} (h : Ent es f) (e : Be) : Ent (es ++ [e]) f := by
  obtain ⟨k, hk, h1, h2⟩ := h
  exact ⟨k, by rw [List.length_append]; omega, h1, by rw [getD_ap1 es e hk]; exact h2⟩
theorem Ent.set {f : Fx} (h : Ent es f) {q : Nat} (e : Be) (hne : f.id ≠ (q : Int) + 1) : Ent (es.set q e) f := by
  obtain ⟨k, hk, h1, h2⟩ := h
  by_cases hq : q < es.length
  · exact ⟨k, by rw [List.length_set]; exact hk, h1, by rw [getD_setB _ _ _ _ hq, if_neg (fun e => hne (by rw [h1, e]))]; exact h2⟩
  · rw [List.set_eq_of_length_le (by omega)]
    exact ⟨k, hk, h1, h2⟩
theorem Ent.at {f : Fx} (h : Ent es f) {q : Nat} (hid : f.id = (q : Int) + 1) : q < es.length ∧ (es.getD q e0).src = f.src ∧ (es.getD q e0).dst = f.dst ∧ (es.getD q e0).bs = f.bs ∧ (es.getD q e0).come = false := by
  obtain ⟨k, hk, h1, h2⟩ := h
  have : k = q := by omega
  subst this
  exact ⟨hk, h2⟩
theorem Rel.sbx (h : Rel E es) (s : SbX E E1) : Rel E1 es := ⟨s.1.trans h.la, fun f hf => by
  obtain ⟨g, hg, h1, h2, h3, h4⟩ := s.2 f hf
  obtain ⟨k, hk, a, b, c, d, e⟩ := h.en g hg
  exact ⟨k, hk, h1 ▸ a, b.trans h2, c.trans h3, d.trans h4, e⟩⟩
theorem Rel.adx {sr ds : Int} {bs : List Int} (h : Rel E es) (hi : Inv E K) (hK : K ≤ 2199023255551) (s : AdX E E1 sr ds bs) (a : Option Addr) (c : Nat) : Rel E1 (es ++ [⟨sr, ds, a, c, bs, false⟩]) := by
  obtain ⟨f, a', c', rfl, h1, h2, h3, h4⟩ := s
  refine ⟨?_, fun g hg => ?_⟩
  · show wN E = _
    rw [wN_is hi hK, h.la, List.length_append]
    simp
  · rcases List.mem_append.1 (show g ∈ E.fs ++ [f] from hg) with hg | hg
    · exact (h.en g hg).snoc _
    · rw [List.mem_singleton] at hg
      subst hg
      exact ⟨es.length, by rw [List.length_append]; simp, by rw [h1, h.la], by rw [getD_ap2]; exact ⟨h2.symm, h3.symm, h4.symm, rfl⟩⟩
theorem Rel.come (h : Rel E es) {q : Nat} (h1 : E1.last = E.last) (h2 : ∀ f ∈ E1.fs, f ∈ E.fs ∧ f.id ≠ (q : Int) + 1) (e : Be) : Rel E1 (es.set q e) := ⟨by rw [h1, h.la, List.length_set], fun f hf => (h.en f (h2 f hf).1).set e (h2 f hf).2⟩
theorem ids_ne {l : List Fx} (h : (l.map Fx.id).Pairwise (fun a b => a < b)) {i j : Nat} (hi : i < l.length) (hj : j < l.length) (hne : i ≠ j) : (l.getD i f0).id ≠ (l.getD j f0).id := by
  have hp := List.pairwise_iff_getElem.1 h
  have e1 : ∀ i (hi : i < l.length), (l.map Fx.id)[i]'(by simpa using hi) = (l.getD i f0).id := fun i hi => by simp [List.getD, hi]
  rcases Nat.lt_or_gt_of_ne hne with hlt | hlt
  · have := hp i j (by simpa using hi) (by simpa using hj) hlt
    rw [e1 i hi, e1 j hj] at this
    omega
  · have := hp j i (by simpa using hj) (by simpa using hi) hlt
    rw [e1 i hi, e1 j hj] at this
    omega
theorem mem_at {l : List Fx} {f : Fx} (h : f ∈ l) : ∃ i, i < l.length ∧ l.getD i f0 = f := by
  obtain ⟨i, hi, rfl⟩ := List.getElem_of_mem h
  exact ⟨i, hi, by simp [List.getD, hi]⟩
theorem mem_erase {l : List Fx} (h : (l.map Fx.id).Pairwise (fun a b => a < b)) {k : Nat} (hk : k < l.length) {f : Fx} (hf : f ∈ l.eraseIdx k) : f ∈ l ∧ f.id ≠ (l.getD k f0).id := by
  obtain ⟨i, hi, hne, rfl⟩ := List.mem_eraseIdx_iff_getElem.1 hf
  refine ⟨List.getElem_mem hi, ?_⟩
  have := ids_ne h hi hk hne
  simpa [List.getD, hi] using this
theorem Rel.flip (h : Rel E es) (hi : Inv E K) {k q x : Nat} (hk : k < E.fs.length) (hid : (E.fs.getD k f0).id = (q : Int) + 1) (h1 : E1.last = E.last) (h2 : E1.fs = E.fs.set k { (E.fs.getD k f0) with bs := (E.fs.getD k f0).bs.set (x / 8) (flipB ((E.fs.getD k f0).bs.getD (x / 8) 0) (x % 8)) }) : Rel E1 (es.set q ⟨(es.getD q e0).src, (es.getD q e0).dst, (es.getD q e0).a, (es.getD q e0).c, (es.getD q e0).bs.set (x / 8) (flipB ((es.getD q e0).bs.getD (x / 8) 0) (x % 8)), (es.getD q e0).come⟩) := by
  have he := (h.en _ (mem_getD hk)).at hid
  refine ⟨by rw [h1, h.la, List.length_set], fun f hf => ?_⟩
  rw [h2] at hf
  obtain ⟨i, hil, rfl⟩ := mem_at hf
  rw [List.length_set] at hil
  by_cases e : i = k
  · subst e
    have : (E.fs.set i { (E.fs.getD i f0) with bs := (E.fs.getD i f0).bs.set (x / 8) (flipB ((E.fs.getD i f0).bs.getD (x / 8) 0) (x % 8)) }).getD i f0 = { (E.fs.getD i f0) with bs := (E.fs.getD i f0).bs.set (x / 8) (flipB ((E.fs.getD i f0).bs.getD (x / 8) 0) (x % 8)) } := by
      rw [List.getD, List.getElem?_set_self hil]
      rfl
    rw [this]
    refine ⟨q, by rw [List.length_set]; exact he.1, hid, ?_⟩
    rw [getD_setB _ _ _ _ he.1, if_pos rfl]
    exact ⟨he.2.1, he.2.2.1, by show (es.getD q e0).bs.set _ _ = (E.fs.getD i f0).bs.set _ _; rw [he.2.2.2.1], he.2.2.2.2⟩
  · have : (E.fs.set k { (E.fs.getD k f0) with bs := (E.fs.getD k f0).bs.set (x / 8) (flipB ((E.fs.getD k f0).bs.getD (x / 8) 0) (x % 8)) }).getD i f0 = E.fs.getD i f0 := by
      rw [List.getD, List.getElem?_set_ne (fun h => e h.symm)]
      rfl
    rw [this]
    exact (h.en _ (mem_getD hil)).set _ (fun h9 => ids_ne hi.ids hil hk e (h9.trans hid.symm))
def BkO (bb : Nat) (sv dv bv cv : Value) (es : List Be) (j : Nat) : Prop := Bo bb sv dv bv cv j ∨ ∃ i, i < es.length ∧ (es.getD i e0).v.ownBlock = some j
structure Jm (w : World) (E : En) (B K bb : Nat) (sv dv bv cv : Value) (es : List Be) : Prop where
  e : E.Ok w B (256 * K)
  i : Inv E K
  l : Lv E K
  b : Bkm w B bb sv dv bv cv es
  r : Rel E es
  d : ∀ j, E.own j → ¬ BkO bb sv dv bv cv es j
  hB : B ≤ w.heap.size
variable {bb : Nat} {sv dv bv cv sv' dv' bv' cv' : Value} {es' : List Be}
theorem BkO.lt (h : Bkm w B bb sv dv bv cv es) {j : Nat} (hj : BkO bb sv dv bv cv es j) : j < w.heap.size := by
  rcases hj with hj | ⟨i, hi, hj⟩
  · exact (h.m.lt hj).1
  · exact h.f.lt hi hj
theorem Jm.still (h : Jm w E B K bb sv dv bv cv es) (hb : Below w.heap.size w w') : Jm w' E B K bb sv dv bv cv es := ⟨h.e.still hb, h.i, h.l, h.b.still hb, h.r, h.d, Nat.le_trans h.hB hb.size⟩
theorem Jm.net {m1 : Nat} (h : Jm w E B K bb sv dv bv cv es) (s : Step w w1 E E1 B m1) : Bkm w1 B bb sv dv bv cv es ∧ (∀ j, E1.own j → ¬ BkO bb sv dv bv cv es j) ∧ B ≤ w1.heap.size := by
  refine ⟨h.b.keep s.kept (fun j hj e => h.d j e (.inl hj)) (fun i hi j hj e => h.d j e (.inr ⟨i, hi, hj⟩)), fun j hj hb => ?_, Nat.le_trans h.hB s.kept.size⟩
  rcases s.own j hj with h1 | h1
  · exact h.d j h1 hb
  · have := BkO.lt h.b hb
    omega
theorem lv_same (h : Lv E K) (h1 : E1.inc = E.inc) (h2 : E1.nn = E.nn) : Lv E1 (K + 1) := fun k hk => by
  have := h k (h2 ▸ hk)
  rw [h1]
  omega
structure Jh (w : World) (E1 : En) (B K bb : Nat) (sv dv bv cv : Value) (es : List Be) : Prop where
  e : E1.Ok w B (256 * (K + 1))
  i : Inv E1 (K + 1)
  l : Lv E1 (K + 1)
  b : Bkm w B bb sv dv bv cv es
  d : ∀ j, E1.own j → ¬ BkO bb sv dv bv cv es j
  hB : B ≤ w.heap.size
theorem Jm.go1 (h : Jm w E B K bb sv dv bv cv es) (g : Go1 w w1 E E1 B K) : Jh w1 E1 B K bb sv dv bv cv es := by
  obtain ⟨⟨m1, s, hm1⟩, nx, hi⟩ := g
  obtain ⟨h1, h2, h3⟩ := h.net s
  exact ⟨s.ok.mono hm1, nx.inv, lv_same h.l hi nx.nn, h1, h2, h3⟩
theorem Jh.still (h : Jh w E B K bb sv dv bv cv es) (hb : Below w.heap.size w w') : Jh w' E B K bb sv dv bv cv es := ⟨h.e.still hb, h.i, h.l, h.b.still hb, h.d, Nat.le_trans h.hB hb.size⟩
theorem Jh.done (h : Jh w E1 B K bb sv dv bv cv es) (hr : Rel E1 es) : Jm w E1 B (K + 1) bb sv dv bv cv es := ⟨h.e, h.i, h.l, h.b, hr, h.d, h.hB⟩
theorem Jh.book (h : Jh w E1 B K bb sv dv bv cv es) (k : Kept w w' (BkO bb sv dv bv cv es)) (hb : Bkm w' B bb sv' dv' bv' cv' es') (ho : ∀ j, BkO bb sv' dv' bv' cv' es' j → BkO bb sv dv bv cv es j ∨ w.heap.size ≤ j) : Jh w' E1 B K bb sv' dv' bv' cv' es' := by
  refine ⟨h.e.keep k (fun j hj e => h.d j hj e), h.i, h.l, hb, fun j hj e => ?_, Nat.le_trans h.hB k.size⟩
  rcases ho j e with h1 | h1
  · exact h.d j hj h1
  · have := h.e.ltOwn hj
    omega
theorem Jh.put {sr ds : Int} {bs : List Int} (h : Jh w E1 B K bb sv dv bv cv es) (p : PutQ w w' B bb sv dv bv cv es sr ds bs) : ∃ sv' dv' bv' cv' a' c', Jh w' E1 B K bb sv' dv' bv' cv' (es ++ [⟨sr, ds, a', c', bs, false⟩]) := by
  obtain ⟨sv', dv', bv', cv', a', c', hb, hk, ho, hn⟩ := p
  refine ⟨sv', dv', bv', cv', a', c', h.book (hk.mono fun j _ hj => .inl hj) hb (fun j hj => ?_)⟩
  rcases hj with hj | ⟨i, hi, hj⟩
  · rcases ho j hj with h1 | h1
    · exact .inl (.inl h1)
    · exact .inr h1
  · rw [List.length_append] at hi
    have hi : i < es.length + 1 := hi
    by_cases e : i = es.length
    · subst e
      rw [getD_ap2] at hj
      exact .inr (hn j hj)
    · have hi2 : i < es.length := by omega
      rw [getD_ap1 _ _ hi2] at hj
      exact .inl (.inr ⟨i, hi2, hj⟩)
theorem BkO.set {q : Nat} {x : Be} (hx : x.v.ownBlock = (es.getD q e0).v.ownBlock) {j : Nat} (h : BkO bb sv dv bv cv (es.set q x) j) : BkO bb sv dv bv cv es j := by
  rcases h with h | ⟨i, hi, hj⟩
  · exact .inl h
  · rw [List.length_set] at hi
    refine .inr ⟨i, hi, ?_⟩
    by_cases hq : q < es.length
    · rw [getD_setB _ _ _ _ hq] at hj
      split at hj
      · next e => rw [e, ← hx]; exact hj
      · exact hj
    · rw [List.set_eq_of_length_le (by omega)] at hj
      exact hj
theorem Jh.come {q : Nat} (h : Jh w E1 B K bb sv dv bv cv es) (hb : Bkm w' B bb sv dv bv cv (es.set q (es.getD q e0).cm)) (hk : Kept w w' (Bo bb sv dv bv cv)) : Jh w' E1 B K bb sv dv bv cv (es.set q (es.getD q e0).cm) := h.book (hk.mono fun j _ hj => .inl hj) hb (fun j hj => .inl (hj.set (by rfl)))
theorem Jh.flip {q x : Nat} {y : Int} (h : Jh w E1 B K bb sv dv bv cv es) (hq : q < es.length) (hb : Bkm w' B bb sv dv bv cv (es.set q ⟨(es.getD q e0).src, (es.getD q e0).dst, (es.getD q e0).a, (es.getD q e0).c, (es.getD q e0).bs.set x y, (es.getD q e0).come⟩)) (hk : Kept w w' (fun j => ((es.getD q e0).v).ownBlock = some j)) : Jh w' E1 B K bb sv dv bv cv (es.set q ⟨(es.getD q e0).src, (es.getD q e0).dst, (es.getD q e0).a, (es.getD q e0).c, (es.getD q e0).bs.set x y, (es.getD q e0).come⟩) := h.book (hk.mono fun j _ hj => .inr ⟨q, hq, hj⟩) hb (fun j hj => .inl (by refine BkO.set ?_ hj; exact own_blk _ _ _ _ _))
end
end Go.Proofs.Ytnhhjelplmdloaa.Et
