import Derived.Test.YtnhhjelplmdloaaV11
import Derived.Test.YtnhhjelplmdloaaV20
import Derived.Test.YtnhhjelplmdloaaV21
import Derived.Test.YtnhhjelplmdloaaV18
import Derived.Test.YtnhhjelplmdloaaV19
import Derived.Test.YtnhhjelplmdloaaV23
import Derived.Test.YtnhhjelplmdloaaV28
namespace Go.Proofs.Ytnhhjelplmdloaa.Et
open Go.RowKit Go.Maps
set_option linter.unusedVariables false
set_option linter.unusedSimpArgs false
set_option maxRecDepth 100000
structure Inv (E : En) (K : Nat) : Prop where
  r1 : 1 ≤ E.room ∧ E.room ≤ 20000
  few : (E.fs.length : Int) ≤ E.room
  num : E.fs.length ≤ K
  szE : ∀ f ∈ E.fs, f.n ≤ 40000
  la : 0 ≤ E.last ∧ E.last ≤ K
  ids : (E.fs.map Fx.id).Pairwise (fun a b => a < b)
  idl : ∀ f ∈ E.fs, 1 ≤ f.id ∧ f.id ≤ E.last
  ck : 0 ≤ E.clock ∧ E.clock ≤ K
  due : ∀ f ∈ E.fs, E.clock < f.due ∧ f.due ≤ 16 * (K + 1)
structure Nx (E E1 : En) (K : Nat) : Prop where
  inv : Inv E1 (K + 1)
  b : E1.b = E.b
  nn : E1.nn = E.nn
  room : E1.room = E.room
section
variable {E E1 E' : En} {w w' w1 w2 w3 : World} {B K m : Nat}
theorem RdOps.stay {oa : Option Addr} {n : Nat} {os : Nat → Opx} (ho : RdOps w oa n os) (hb : Below w.heap.size w w') : RdOps w' oa n os :=
  ⟨ho.1.elim (fun hh => Or.inl hh) (fun ⟨b, off, h1, h2⟩ => Or.inr ⟨b, off, h1, fun i hi j hj => by
    obtain ⟨u, hu⟩ := op_cs (os i) j hj
    have h3 := h2 i hi j hj
    rw [hu] at h3 ⊢
    exact below_at hb h3⟩), fun i hi => by
    obtain ⟨⟨bs, q1⟩, ⟨xs, q2⟩, q3⟩ := ho.2 i hi
    exact ⟨⟨bs, q1.still hb⟩, ⟨xs, q2.still hb⟩, q3⟩⟩
theorem Inv.mono {K' : Nat} (h : Inv E K) (hk : K ≤ K') : Inv E K' := ⟨h.r1, h.few, Nat.le_trans h.num hk, h.szE, ⟨h.la.1, by have := h.la.2; omega⟩, h.ids, h.idl, ⟨h.ck.1, by have := h.ck.2; omega⟩, fun f hf => ⟨(h.due f hf).1, by have := (h.due f hf).2; omega⟩⟩
theorem Inv.cong (h : Inv E K) (e1 : E1.room = E.room) (e2 : E1.fs = E.fs) (e3 : E1.last = E.last) (e4 : E1.clock = E.clock) : Inv E1 (K + 1) := by
  have h1 := h.mono (Nat.le_succ K)
  exact ⟨by rw [e1]; exact h1.r1, by rw [e1, e2]; exact h1.few, by rw [e2]; exact h1.num, by rw [e2]; exact h1.szE, by rw [e3]; exact h1.la, by rw [e2]; exact h1.ids, by rw [e2, e3]; exact h1.idl, by rw [e4]; exact h1.ck, by rw [e2, e4]; exact h1.due⟩
theorem nx_none (h : Inv E K) : Nx E E K := ⟨h.mono (Nat.le_succ _), rfl, rfl, rfl⟩
theorem inv_sub (h : Inv E K) (a : Option Addr) (c : Nat) (fs' : List Fx) (hs : fs'.Sublist E.fs) : Inv { E with va := a, vc := c, fs := fs' } (K + 1) := by
  have h1 := h.mono (Nat.le_succ K)
  have hl := hs.length_le
  exact ⟨h1.r1, by have := h1.few; show ((fs'.length : Nat) : Int) ≤ E.room; omega, Nat.le_trans hl h1.num, fun f hf => h1.szE f (hs.subset hf), h1.la, h1.ids.sublist (hs.map Fx.id), fun f hf => h1.idl f (hs.subset hf), h1.ck, fun f hf => h1.due f (hs.subset hf)⟩
theorem wN_is (h : Inv E K) (hK : K ≤ 2199023255551) : wN E = E.last + 1 := by
  have := h.la
  unfold wN
  rw [wrap_eq]
  exact wrap_id (by omega) (by omega)
theorem inv_add (h : Inv E K) (hK : K ≤ 2199023255551) (f : Fx) (a : Option Addr) (c : Nat) (hid : f.id = wN E) (hn : f.n ≤ 40000) (hd1 : E.clock < f.due) (hd2 : f.due ≤ 16 * (K + 1 + 1)) (hl : (E.fs.length : Int) < E.room) : Inv (added E f a c) (K + 1) := by
  have h1 := h.mono (Nat.le_succ K)
  have hw := wN_is h hK
  refine ⟨h1.r1, ?_, ?_, ?_, ?_, ?_, ?_, h1.ck, ?_⟩
  · show ((E.fs ++ [f]).length : Int) ≤ E.room
    simp; omega
  · show (E.fs ++ [f]).length ≤ K + 1
    have := h.num
    simp; omega
  · intro x hx
    rcases List.mem_append.1 hx with hx | hx
    · exact h.szE x hx
    · obtain rfl := List.mem_singleton.1 hx; exact hn
  · show 0 ≤ wN E ∧ wN E ≤ ((K + 1 : Nat) : Int)
    have := h.la
    omega
  · show ((E.fs ++ [f]).map Fx.id).Pairwise _
    rw [List.map_append]
    refine List.pairwise_append.2 ⟨h.ids, List.pairwise_singleton _ _, fun x hx y hy => ?_⟩
    obtain ⟨g, hg, rfl⟩ := List.mem_map.1 hx
    simp at hy
    subst hy
    have := (h.idl g hg).2
    omega
  · intro x hx
    show 1 ≤ x.id ∧ x.id ≤ wN E
    have := h.la
    rcases List.mem_append.1 hx with hx | hx
    · have := h.idl x hx; omega
    · obtain rfl := List.mem_singleton.1 hx; omega
  · intro x hx
    show E.clock < x.due ∧ x.due ≤ 16 * (((K + 1 : Nat) : Int) + 1)
    rcases List.mem_append.1 hx with hx | hx
    · have := h.due x hx; omega
    · obtain rfl := List.mem_singleton.1 hx; omega
theorem inv_set (h : Inv E K) (k : Nat) (hk : k < E.fs.length) (f' : Fx) (hid : f'.id = (E.fs.getD k f0).id) (hn : f'.n = (E.fs.getD k f0).n) (hd1 : E.clock < f'.due) (hd2 : f'.due ≤ 16 * (K + 1 + 1)) : Inv { E with fs := E.fs.set k f' } (K + 1) := by
  have h1 := h.mono (Nat.le_succ K)
  have hm := mem_getD hk
  have hids : (E.fs.set k f').map Fx.id = E.fs.map Fx.id := by
    rw [List.map_set, hid]
    apply List.ext_getElem?
    intro i
    rw [List.getElem?_set]
    split
    · next e =>
      subst e
      simp [List.getD, hk]
    · rfl
  refine ⟨h1.r1, ?_, ?_, ?_, h1.la, ?_, ?_, h1.ck, ?_⟩
  · show ((E.fs.set k f').length : Int) ≤ E.room
    rw [List.length_set]; exact h.few
  · show (E.fs.set k f').length ≤ K + 1
    rw [List.length_set]; exact h1.num
  · intro x hx
    rcases mem_set hx with rfl | hx
    · rw [hn]; exact h.szE _ hm
    · exact h.szE x hx
  · show ((E.fs.set k f').map Fx.id).Pairwise _
    rw [hids]; exact h.ids
  · intro x hx
    rcases mem_set hx with rfl | hx
    · rw [hid]; exact h.idl _ hm
    · exact h.idl x hx
  · intro x hx
    show E.clock < x.due ∧ x.due ≤ 16 * (((K + 1 : Nat) : Int) + 1)
    rcases mem_set hx with rfl | hx
    · exact ⟨hd1, by omega⟩
    · have := h.due x hx; omega
theorem ck_is (h : Inv E K) (hK : K ≤ 2199023255551) : ckN E = E.clock + 1 := by
  have := h.ck
  unfold ckN
  rw [wrap_eq]
  exact wrap_id (by omega) (by omega)
theorem inv_round (h : Inv E K) (hK : K ≤ 2199023255551) : Inv { E with clock := ckN E, fs := E.fs.filter (stays E) } (K + 1) := by
  have hc := ck_is h hK
  have hs : (E.fs.filter (stays E)).Sublist E.fs := List.filter_sublist
  have h2 := inv_sub h E.va E.vc _ hs
  refine ⟨h2.r1, h2.few, h2.num, h2.szE, h2.la, h2.ids, h2.idl, ?_, ?_⟩
  · show 0 ≤ ckN E ∧ ckN E ≤ ((K + 1 : Nat) : Int)
    have := h.ck
    omega
  · intro f hf
    obtain ⟨h3, h4⟩ := List.mem_filter.1 hf
    have h5 : f.due ≠ ckN E := of_decide_eq_true h4
    have h6 := h.due f h3
    show ckN E < f.due ∧ f.due ≤ 16 * (((K + 1 : Nat) : Int) + 1)
    omega
theorem nx_added (h : Inv E K) (hK : K ≤ 2199023255551) (f : Fx) (a : Option Addr) (c : Nat) (hid : f.id = wN E) (hn : f.n ≤ 40000) (hd1 : E.clock < f.due) (hd2 : f.due ≤ 16 * (K + 1 + 1)) (hl : (E.fs.length : Int) < E.room) : Nx E (added E f a c) K := ⟨inv_add h hK f a c hid hn hd1 hd2 hl, rfl, rfl, rfl⟩
def Goes (w w1 : World) (E : En) (B K : Nat) : Prop := ∃ E1 m1, Step w w1 E E1 B m1 ∧ m1 ≤ 256 * (K + 1) ∧ Nx E E1 K
theorem goes_none (he : E.Ok w B (256 * K)) (h : Inv E K) (hb : Below w.heap.size w w1) : Goes w w1 E B K := ⟨E, _, Step.none he hb, by omega, nx_none h⟩
theorem Goes.pre (hb : Below w.heap.size w w1) (s : Goes w1 w2 E B K) : Goes w w2 E B K := by
  obtain ⟨E1, m1, st, hm, hx⟩ := s
  exact ⟨E1, m1, st.pre hb, hm, hx⟩
theorem Goes.post (s : Goes w w1 E B K) (hb : Below w1.heap.size w1 w2) : Goes w w2 E B K := by
  obtain ⟨E1, m1, st, hm, hx⟩ := s
  exact ⟨E1, m1, st.post hb, hm, hx⟩
theorem launch_goes (he : E.Ok w B (256 * K)) (hB : B ≤ w.heap.size) (h : Inv E K) (hK : K ≤ 2199023255551) (a b : Nat) (ha : a < E.nn) (hb : b < E.nn) (hab : a ≠ b) (n : Nat) (hn : n ≤ 40000) (bs : List Int) (ea : Option Addr) (ec : Nat) (hr : Rd w ea n ec bs) :
    Calls Try.prog 26 (aL E.b a b ea n ec) w fun e w1 => ∃ x y, e = .returned (tup x y) ∧ Goes w w1 E B K := by
  have hn16 := he.n16
  cases hc : E.cut a b with
  | true => exact (launch_cut he a b (by omega) (by omega) hc _).mono fun e w1 ⟨x1, x2⟩ => ⟨0, 30, x1, goes_none he h x2⟩
  | false =>
    by_cases hl : E.room ≤ E.fs.length
    · exact (launch_full he a b (by omega) (by omega) hc _ _ _ hl).mono fun e w1 ⟨x1, x2⟩ => ⟨0, 31, x1, goes_none he h x2⟩
    · refine (launch_ok he hB a b ha hb hab hc ea n ec bs hr (by omega) (by omega) h.r1.2).mono ?_
      rintro e w1 ⟨rfl, g, a', c', st⟩
      have hd := he.dly a b (by omega) (by omega)
      have hck := h.ck
      have hw : IntKind.i64.wrap (E.clock + E.dl a b) = E.clock + E.dl a b := wrap_id (by omega) (by omega)
      refine ⟨_, _, rfl, _, _, st, by omega, nx_added h hK _ _ _ rfl hn ?_ ?_ (by omega)⟩
      · show E.clock < IntKind.i64.wrap (E.clock + E.dl a b)
        omega
      · show IntKind.i64.wrap (E.clock + E.dl a b) ≤ _
        omega
theorem post_goes (he : E.Ok w B (256 * K)) (hB : B ≤ w.heap.size) (h : Inv E K) (hK : K ≤ 2199023255551) (p q : Int) (n : Nat) (bs : List Int) (ea : Option Addr) (ec : Nat) (hr : Rd w ea n ec bs) : Calls Try.prog 7 (aQ E.b p q ea n ec) w fun e w1 => ∃ x y, e = .returned (tup x y) ∧ Goes w w1 E B K := by
  cases hno : (isP E p q && decide ((n : Int) ≤ 40000)) with
  | false => exact (post_arg he p q ea n ec hno).mono fun e w1 ⟨x1, x2⟩ => ⟨0, 1, x1, goes_none he h x2⟩
  | true =>
    have hno' := hno
    rw [Bool.and_eq_true] at hno'
    obtain ⟨hp, hn⟩ := hno'
    have hn : n ≤ 40000 := by have := of_decide_eq_true hn; omega
    obtain ⟨a, b, rfl, rfl, ha, hb, hab⟩ := isP_true hp
    cases hu : E.up a with
    | false => exact (post_down he a b ea n ec ha hno hu).mono fun e w1 ⟨x1, x2⟩ => ⟨0, 32, x1, goes_none he h x2⟩
    | true =>
      refine post_go he a b ea n ec ha hno hu _ (fun w2 hb2 => ?_)
      refine (launch_goes (he.still hb2) (Nat.le_trans hB hb2.size) h hK a b ha hb hab n hn bs ea ec (hr.still hb2)).mono ?_
      rintro e w3 ⟨x, y, rfl, hg⟩
      exact ⟨⟨_, _, rfl⟩, x, y, rfl, hg.pre hb2⟩
theorem packet_goes (he : E.Ok w B (256 * K)) (hB : B ≤ w.heap.size) (h : Inv E K) (hK : K ≤ 2199023255551) (v : Ev) (hk : v.k = 12 ∨ v.k = 13 ∨ v.k = 15 ∨ v.k = 16) (h63 : v.n ≤ 9223372036854775807) : Calls Try.prog 52 (aD E.b v) w fun e w1 => ∃ x, e = .returned (.int .i64 x) ∧ Goes w w1 E B K := by
  have hfew : E.fs.length ≤ 20000 := by have := h.few; have := h.r1; omega
  by_cases hpl : 0 ≤ v.a ∧ v.a < E.fs.length
  · obtain ⟨h0, h1⟩ := hpl
    obtain ⟨k, hva⟩ : ∃ k : Nat, v.a = k := ⟨v.a.toNat, by omega⟩
    have hkl : k < E.fs.length := by omega
    have hm := mem_getD hkl
    have hdue := h.due _ hm
    rcases hk with h12 | h13 | h15 | h16
    · exact (dp_drop he v k hva hkl h12 hfew).mono fun e w1 ⟨x1, a, c, st⟩ => ⟨0, x1, _, _, st, by omega, inv_sub h a c _ (List.eraseIdx_sublist _ _), rfl, rfl, rfl⟩
    · by_cases hl : E.room ≤ E.fs.length
      · exact (dp_full he v k hva hkl h13 hl).mono fun e w1 ⟨x1, x2⟩ => ⟨31, x1, goes_none he h x2⟩
      · exact (dp_dup he v k hva hkl h13 hB (by omega) h.r1.2 (h.szE _ hm)).mono fun e w1 ⟨x1, g, a, c, st⟩ => ⟨0, x1, _, _, st, by omega, nx_added h hK (duped E (E.fs.getD k f0) g) a c rfl (h.szE (E.fs.getD k f0) hm :) hdue.1 (by show (E.fs.getD k f0).due ≤ _; omega) (by omega)⟩
    · by_cases hx : v.n < 1 ∨ 16 < v.n
      · exact (dp_hno he v k hva hkl h15 hx).mono fun e w1 ⟨x1, x2⟩ => ⟨1, x1, goes_none he h x2⟩
      · have hck := h.ck
        have hw : wrap64 ((E.fs.getD k f0).due + v.n) = (E.fs.getD k f0).due + v.n := by rw [wrap_eq]; exact wrap_id (by omega) (by omega)
        exact (dp_hold he v k hva hkl h15 (by omega) (by omega)).mono fun e w1 ⟨x1, st⟩ => ⟨0, x1, _, _, st, by omega, inv_set h k hkl _ rfl rfl (by show _ < wrap64 _; omega) (by show wrap64 _ ≤ _; omega), rfl, rfl, rfl⟩
    · by_cases hx : v.n < 0 ∨ ((E.fs.getD k f0).n : Int) ≤ v.n / 8
      · exact (dp_fno he v k hva hkl h16 hx h63).mono fun e w1 ⟨x1, x2⟩ => ⟨1, x1, goes_none he h x2⟩
      · obtain ⟨x, hvx⟩ : ∃ x : Nat, v.n = x := ⟨v.n.toNat, by omega⟩
        exact (dp_flip he v k hva hkl h16 x hvx (by omega) (by omega)).mono fun e w1 ⟨x1, st⟩ => ⟨0, x1, _, _, st, by omega, inv_set h k hkl _ rfl rfl hdue.1 (by show (E.fs.getD k f0).due ≤ _; omega), rfl, rfl, rfl⟩
  · exact (dp_none he v hpl).mono fun e w1 ⟨x1, x2⟩ => ⟨34, x1, goes_none he h x2⟩
theorem path_goes (he : E.Ok w B (256 * K)) (h : Inv E K) (hK : K ≤ 2199023255551) (v : Ev) (hk : v.k = 8 ∨ v.k = 9 ∨ v.k = 10) : Calls Try.prog 50 (aD E.b v) w fun e w1 => ∃ x, e = .returned (.int .i64 x) ∧ Goes w w1 E B K := by
  cases hp : isP E v.a v.b with
  | false => exact (doPath_no he v hp).mono fun e w1 ⟨x1, x2⟩ => ⟨1, x1, goes_none he h x2⟩
  | true =>
    obtain ⟨a, b, ha, hb, han, hbn, hab⟩ := isP_true hp
    by_cases h10 : v.k = 10
    · by_cases hx : v.n < 1 ∨ 16 < v.n
      · exact (doPath_dno he v a b ha hb han hbn hab h10 hx).mono fun e w1 ⟨x1, x2⟩ => ⟨1, x1, goes_none he h x2⟩
      · exact (doPath_dly he v a b ha hb han hbn hab h10 (by omega) (by omega) (by unfold maxLen; omega)).mono fun e w1 ⟨x1, st⟩ => ⟨0, x1, _, _, st, by omega, h.cong rfl rfl rfl rfl, rfl, rfl, rfl⟩
    · exact (doPath_open he v a b ha hb han hbn hab h10 (by unfold maxLen; omega)).mono fun e w1 ⟨x1, st⟩ => ⟨0, x1, _, _, st, by omega, h.cong rfl rfl rfl rfl, rfl, rfl, rfl⟩
theorem split_goes (he : E.Ok w B (256 * K)) (h : Inv E K) (hK : K ≤ 2199023255551) (xs : List Int) (n c gs : Nat) (hxs : xs.length = n) (hcs : ∀ i, i < n → w.cell? ⟨gs, 0 + i, none⟩ = some (.int .i64 (xs.getD i 0))) (hgs : ¬ E.own gs) : Calls Try.prog 51 #[.pointer (some ⟨E.b, 0, none⟩), .slice (some ⟨gs, 0, none⟩) n c] w fun e w1 => ∃ x, e = .returned (.int .i64 x) ∧ Goes w w1 E B K := by
  by_cases hn : n = E.nn
  · subst hn
    by_cases hok : ∀ i, i < E.nn → okSide (xs.getD i 0)
    · exact (split_ok he gs 0 c xs hxs hcs hgs hok (by unfold maxLen; omega)).mono fun e w1 ⟨x1, st⟩ => ⟨0, x1, _, _, st, by omega, h.cong rfl rfl rfl rfl, rfl, rfl, rfl⟩
    · obtain ⟨i0, hi0⟩ := Classical.not_forall.1 hok
      obtain ⟨hi1, hbad⟩ := Classical.not_imp.1 hi0
      exact (split_bad he gs 0 c xs hxs hcs i0 hi1 hbad).mono fun e w1 ⟨x1, x2⟩ => ⟨1, x1, by subst x2; exact goes_none he h (Below.refl _ _)⟩
  · exact (split_len he _ n c hn).mono fun e w1 ⟨x1, x2⟩ => ⟨1, x1, by subst x2; exact goes_none he h (Below.refl _ _)⟩
theorem inject_goes (he : E.Ok w B (256 * K)) (hB : B ≤ w.heap.size) (h : Inv E K) (hK : K ≤ 2199023255551) (p q : Int) (n : Nat) (bs : List Int) (ea : Option Addr) (ec : Nat) (hr : Rd w ea n ec bs) : Calls Try.prog 53 #[.pointer (some ⟨E.b, 0, none⟩), .agg #[.int .i64 p, .int .i64 q], .slice ea n ec] w fun e w1 => ∃ x, e = .returned (.int .i64 x) ∧ Goes w w1 E B K := by
  cases hno : (isP E p q && decide ((n : Int) ≤ 40000)) with
  | false => exact (inject_arg he p q ea n ec hno).mono fun e w1 ⟨x1, x2⟩ => ⟨1, x1, goes_none he h x2⟩
  | true =>
    have hno' := hno
    rw [Bool.and_eq_true] at hno'
    obtain ⟨hp, hn⟩ := hno'
    have hn : n ≤ 40000 := by have := of_decide_eq_true hn; omega
    obtain ⟨a, b, rfl, rfl, ha, hb, hab⟩ := isP_true hp
    refine inject_go he a b ea n ec hno (fun _ w1 => Goes w w1 E B K) (fun w2 hb2 => ?_)
    refine (launch_goes (he.still hb2) (Nat.le_trans hB hb2.size) h hK a b ha hb hab n hn bs ea ec (hr.still hb2)).mono ?_
    rintro e w3 ⟨x, y, rfl, hg⟩
    exact ⟨x, y, rfl, hg.pre hb2⟩
theorem do_goes (he : E.Ok w B (256 * K)) (hB : B ≤ w.heap.size) (h : Inv E K) (hK : K ≤ 2199023255551) (v : Ev) (bs xs : List Int) (h63 : v.n ≤ 9223372036854775807) (hrd : Rd w v.ba v.bn v.bc bs) (hxs : xs.length = v.sn) (gs : Nat) (hsa : v.sa = some ⟨gs, 0, none⟩) (hcs : ∀ i, i < v.sn → w.cell? ⟨gs, 0 + i, none⟩ = some (.int .i64 (xs.getD i 0))) (hgs : ¬ E.own gs) : Calls Try.prog 32 (aD E.b v) w fun e w1 => ∃ x, e = .returned (.int .i64 x) ∧ Goes w w1 E B K := by
  by_cases h1 : v.k = 8 ∨ v.k = 9 ∨ v.k = 10
  · exact do_path E.b v h1 _ (fun w2 hb2 => (path_goes (he.still hb2) h hK v h1).mono fun e w3 ⟨x, x1, x2⟩ => ⟨⟨x, x1⟩, x, x1, x2.pre hb2⟩)
  by_cases h2 : v.k = 11
  · refine do_split E.b v h2 _ (fun w2 hb2 => ?_)
    rw [hsa]
    exact (split_goes (he.still hb2) h hK xs v.sn v.sc gs hxs (fun i hi => below_at hb2 (hcs i hi)) hgs).mono fun e w3 ⟨x, x1, x2⟩ => ⟨⟨x, x1⟩, x, x1, x2.pre hb2⟩
  by_cases h3 : v.k = 12 ∨ v.k = 13 ∨ v.k = 15 ∨ v.k = 16
  · exact do_packet E.b v h3 _ (fun w2 hb2 => (packet_goes (he.still hb2) (Nat.le_trans hB hb2.size) h hK v h3 h63).mono fun e w3 ⟨x, x1, x2⟩ => ⟨⟨x, x1⟩, x, x1, x2.pre hb2⟩)
  by_cases h4 : v.k = 17
  · exact do_inject E.b v h4 _ (fun w2 hb2 => (inject_goes (he.still hb2) (Nat.le_trans hB hb2.size) h hK v.a v.b v.bn bs v.ba v.bc (hrd.still hb2)).mono fun e w3 ⟨x, x1, x2⟩ => ⟨⟨x, x1⟩, x, x1, x2.pre hb2⟩)
  have hno : doKind v.k = false := by
    simp [doKind]
    omega
  exact (do_other E.b v hno).mono fun e w1 ⟨x1, x2⟩ => ⟨1, x1, goes_none he h x2⟩
end
end Go.Proofs.Ytnhhjelplmdloaa.Et
namespace Go.Proofs.Ytnhhjelplmdloaa.Et
open Go.RowKit Go.Maps
set_option linter.unusedVariables false
set_option linter.unusedSimpArgs false
set_option maxRecDepth 100000
section
variable {E E1 E' : En} {w w' w1 w2 w3 : World} {B K m : Nat}
theorem tick_goes (he : E.Ok w B (256 * K)) (h : Inv E K) (p : Int) : Calls Try.prog 37 (aN E.b p) w fun e w1 => (∃ x y, e = .returned (tup x y)) ∧ Goes w w1 E B K := by
  by_cases hc : ckUp E p = 0
  · obtain ⟨k, rfl, hk, hu⟩ := ckUp_zero hc
    exact (tick_ok he k hk hu).mono fun e w1 ⟨x1, st⟩ => ⟨⟨_, _, x1⟩, _, _, st, by omega, h.cong rfl rfl rfl rfl, rfl, rfl, rfl⟩
  · exact (tick_no he p hc).mono fun e w1 ⟨x1, x2⟩ => ⟨⟨_, _, x1⟩, by subst x2; exact goes_none he h (Below.refl _ _)⟩
theorem crash_goes (he : E.Ok w B (256 * K)) (h : Inv E K) (p : Int) : Calls Try.prog 38 (aN E.b p) w fun e w1 => (∃ x, e = .returned (.int .i64 x)) ∧ Goes w w1 E B K := by
  by_cases hc : ckUp E p = 0
  · obtain ⟨k, rfl, hk, hu⟩ := ckUp_zero hc
    exact (crash_ok he k hk hu).mono fun e w1 ⟨x1, st⟩ => ⟨⟨_, x1⟩, _, _, st, by omega, h.cong rfl rfl rfl rfl, rfl, rfl, rfl⟩
  · exact (crash_no he p hc).mono fun e w1 ⟨x1, x2⟩ => ⟨⟨_, x1⟩, by subst x2; exact goes_none he h (Below.refl _ _)⟩
theorem restart_goes (he : E.Ok w B (256 * K)) (h : Inv E K) (p : Int) : Calls Try.prog 12 (aN E.b p) w fun e w1 => (∃ x y, e = .returned (tup x y)) ∧ Goes w w1 E B K := by
  by_cases hc : rstE E p = 0
  · obtain ⟨k, rfl, hk, hu⟩ := rstE_zero hc
    exact (restart_ok he k hk hu).mono fun e w1 ⟨x1, st⟩ => ⟨⟨_, _, x1⟩, _, _, st, by omega, h.cong rfl rfl rfl rfl, rfl, rfl, rfl⟩
  · exact (restart_no he p hc).mono fun e w1 ⟨x1, x2⟩ => ⟨⟨_, _, x1⟩, by subst x2; exact goes_none he h (Below.refl _ _)⟩
theorem round_goes (he : E.Ok w B (256 * K)) (hB : B ≤ w.heap.size) (h : Inv E K) (hK : K ≤ 2199023255551) : Calls Try.prog 9 #[.pointer (some ⟨E.b, 0, none⟩)] w fun e w1 => (∃ a n c, e = .returned (.slice a n c)) ∧ Goes w w1 E B K := by
  have hfew : E.fs.length ≤ 20000 := by have := h.few; have := h.r1; omega
  exact (round_any2 he hB hfew).mono fun e w1 ⟨a, n, c, x1, x2, st⟩ => ⟨⟨a, n, c, x1⟩, _, _, st, by omega, inv_round h hK, rfl, rfl, rfl⟩
theorem take_goes (he : E.Ok w B (256 * K)) (h : Inv E K) (p : Int) : Calls Try.prog 19 (aN E.b p) w fun e w1 => (∃ x0 x1 x2 x3 a n c y, e = .returned (.tuple #[.agg #[.int .i64 x0, .int .i64 x1, .int .i64 x2, .int .i64 x3, .slice a n c], .int .i64 y])) ∧ Goes w w1 E B K := by
  have hfew : E.fs.length ≤ 20000 := by have := h.few; have := h.r1; omega
  by_cases hk : 0 ≤ p ∧ p < E.fs.length
  · obtain ⟨h0, h1⟩ := hk
    obtain ⟨i, rfl⟩ : ∃ i : Nat, p = i := ⟨p.toNat, by omega⟩
    have hi : i < E.fs.length := by omega
    obtain ⟨a, q, ha, hq, han, hqn, haq⟩ := he.pth _ (mem_getD hi)
    by_cases hb0 : barE E a q = 0
    · exact (take_ok he i hi hfew a q ha hq han hqn hb0).mono fun e w1 ⟨x1, ⟨a', c', st⟩, _⟩ => ⟨⟨_, _, _, _, _, _, _, _, x1⟩, _, _, st, by omega, inv_sub h a' c' _ (List.eraseIdx_sublist _ _), rfl, rfl, rfl⟩
    · exact (take_bar he i hi a q ha hq han hqn hb0).mono fun e w1 ⟨x1, x2⟩ => ⟨⟨_, _, _, _, _, _, _, _, x1⟩, goes_none he h x2⟩
  · exact (take_none he p hk).mono fun e w1 ⟨x1, x2⟩ => ⟨⟨_, _, _, _, _, _, _, _, x1⟩, goes_none he h x2⟩
set_option maxHeartbeats 400000 in
theorem play_tick (he : E.Ok w B (256 * K)) (hB : B ≤ w.heap.size) (h : Inv E K) (hK : K ≤ 2199023255551) (o : Opx) (bs xs : List Int) (hbb : ∀ w', Below B w w' → Rd w' o.ba o.bn o.bc bs) (hss : ∀ w', Below B w w' → RdI w' o.sa o.sn o.sc xs) (hbn : o.bn ≤ 140737488351232) (hsn : o.sn ≤ 17592186043904) (h63 : o.n ≤ 9223372036854775807) (hk : o.k = 5) : Calls Try.prog 20 #[.pointer (some ⟨E.b, 0, none⟩), .agg o.cs] w fun e w' => e = .returned (.tuple #[]) ∧ Goes w w' E B K := by
  generalize hW : w.alloc (.cells o.cs 46) = W
  have hbW : Below w.heap.size w W := by rw [← hW]; exact balloc (Below.refl _ w)
  have hblk : W.heap[w.heap.size]? = some (.cells o.cs 46 (0, 0)) := by rw [← hW]; exact heap_alloc_new w _
  have hWs : w.heap.size < W.heap.size := lt_heap hblk
  obtain ⟨d0, d1, d2, d3, d4, d5⟩ := op_cells hblk
  have Hb : Hid (Below w.heap.size w W) := hbW
  have heW := he.still hbW
  have hBW : B ≤ W.heap.size := Nat.le_trans hB hbW.size
  have hlow : Below B w W := hbW.mono hB
  have HC : Hid (Calls Try.prog 37 #[.pointer (some ⟨E.b, 0, none⟩), .int .i64 o.p] W fun e w1 => (∃ x y, e = .returned (.tuple #[.int .i64 x, .int .i64 y])) ∧ Goes W w1 E B K) := tick_goes heW h o.p
  unfold Opx.cs at hW ⊢
  rw [hk] at hW d0 ⊢
  clear he heW h hbW hblk hbb hss
  go_enter Try.func20, Try.ntmps20
  go_wp2_with (first | (go_at_call 37; refine HC.out.mono ?_; rintro e w1 ⟨⟨x, y, rfl⟩, hg⟩) | fail)
  all_goals first | (exfalso; omega) | ((first | go_end0 | ((try simp only [Exit.inBlock, Exit.then]); refine bodyPost_ret (results_none rfl _ _ _) rfl ?_)); exact ⟨rfl, hg.pre Hb.out⟩)
set_option maxHeartbeats 400000 in
theorem play_crash (he : E.Ok w B (256 * K)) (hB : B ≤ w.heap.size) (h : Inv E K) (hK : K ≤ 2199023255551) (o : Opx) (bs xs : List Int) (hbb : ∀ w', Below B w w' → Rd w' o.ba o.bn o.bc bs) (hss : ∀ w', Below B w w' → RdI w' o.sa o.sn o.sc xs) (hbn : o.bn ≤ 140737488351232) (hsn : o.sn ≤ 17592186043904) (h63 : o.n ≤ 9223372036854775807) (hk : o.k = 6) : Calls Try.prog 20 #[.pointer (some ⟨E.b, 0, none⟩), .agg o.cs] w fun e w' => e = .returned (.tuple #[]) ∧ Goes w w' E B K := by
  generalize hW : w.alloc (.cells o.cs 46) = W
  have hbW : Below w.heap.size w W := by rw [← hW]; exact balloc (Below.refl _ w)
  have hblk : W.heap[w.heap.size]? = some (.cells o.cs 46 (0, 0)) := by rw [← hW]; exact heap_alloc_new w _
  have hWs : w.heap.size < W.heap.size := lt_heap hblk
  obtain ⟨d0, d1, d2, d3, d4, d5⟩ := op_cells hblk
  have Hb : Hid (Below w.heap.size w W) := hbW
  have heW := he.still hbW
  have hBW : B ≤ W.heap.size := Nat.le_trans hB hbW.size
  have hlow : Below B w W := hbW.mono hB
  have HC : Hid (Calls Try.prog 38 #[.pointer (some ⟨E.b, 0, none⟩), .int .i64 o.p] W fun e w1 => (∃ x, e = .returned (.int .i64 x)) ∧ Goes W w1 E B K) := crash_goes heW h o.p
  unfold Opx.cs at hW ⊢
  rw [hk] at hW d0 ⊢
  clear he heW h hbW hblk hbb hss
  go_enter Try.func20, Try.ntmps20
  go_wp2_with (first | (go_at_call 38; refine HC.out.mono ?_; rintro e w1 ⟨⟨x, rfl⟩, hg⟩) | fail)
  all_goals first | (exfalso; omega) | ((first | go_end0 | ((try simp only [Exit.inBlock, Exit.then]); refine bodyPost_ret (results_none rfl _ _ _) rfl ?_)); exact ⟨rfl, hg.pre Hb.out⟩)
set_option maxHeartbeats 400000 in
theorem play_restart (he : E.Ok w B (256 * K)) (hB : B ≤ w.heap.size) (h : Inv E K) (hK : K ≤ 2199023255551) (o : Opx) (bs xs : List Int) (hbb : ∀ w', Below B w w' → Rd w' o.ba o.bn o.bc bs) (hss : ∀ w', Below B w w' → RdI w' o.sa o.sn o.sc xs) (hbn : o.bn ≤ 140737488351232) (hsn : o.sn ≤ 17592186043904) (h63 : o.n ≤ 9223372036854775807) (hk : o.k = 7) : Calls Try.prog 20 #[.pointer (some ⟨E.b, 0, none⟩), .agg o.cs] w fun e w' => e = .returned (.tuple #[]) ∧ Goes w w' E B K := by
  generalize hW : w.alloc (.cells o.cs 46) = W
  have hbW : Below w.heap.size w W := by rw [← hW]; exact balloc (Below.refl _ w)
  have hblk : W.heap[w.heap.size]? = some (.cells o.cs 46 (0, 0)) := by rw [← hW]; exact heap_alloc_new w _
  have hWs : w.heap.size < W.heap.size := lt_heap hblk
  obtain ⟨d0, d1, d2, d3, d4, d5⟩ := op_cells hblk
  have Hb : Hid (Below w.heap.size w W) := hbW
  have heW := he.still hbW
  have hBW : B ≤ W.heap.size := Nat.le_trans hB hbW.size
  have hlow : Below B w W := hbW.mono hB
  have HC : Hid (Calls Try.prog 12 #[.pointer (some ⟨E.b, 0, none⟩), .int .i64 o.p] W fun e w1 => (∃ x y, e = .returned (.tuple #[.int .i64 x, .int .i64 y])) ∧ Goes W w1 E B K) := restart_goes heW h o.p
  unfold Opx.cs at hW ⊢
  rw [hk] at hW d0 ⊢
  clear he heW h hbW hblk hbb hss
  go_enter Try.func20, Try.ntmps20
  go_wp2_with (first | (go_at_call 12; refine HC.out.mono ?_; rintro e w1 ⟨⟨x, y, rfl⟩, hg⟩) | fail)
  all_goals first | (exfalso; omega) | ((first | go_end0 | ((try simp only [Exit.inBlock, Exit.then]); refine bodyPost_ret (results_none rfl _ _ _) rfl ?_)); exact ⟨rfl, hg.pre Hb.out⟩)
set_option maxHeartbeats 400000 in
theorem play_post (he : E.Ok w B (256 * K)) (hB : B ≤ w.heap.size) (h : Inv E K) (hK : K ≤ 2199023255551) (o : Opx) (bs xs : List Int) (hbb : ∀ w', Below B w w' → Rd w' o.ba o.bn o.bc bs) (hss : ∀ w', Below B w w' → RdI w' o.sa o.sn o.sc xs) (hbn : o.bn ≤ 140737488351232) (hsn : o.sn ≤ 17592186043904) (h63 : o.n ≤ 9223372036854775807) (hk : o.k = 10) : Calls Try.prog 20 #[.pointer (some ⟨E.b, 0, none⟩), .agg o.cs] w fun e w' => e = .returned (.tuple #[]) ∧ Goes w w' E B K := by
  generalize hW : w.alloc (.cells o.cs 46) = W
  have hbW : Below w.heap.size w W := by rw [← hW]; exact balloc (Below.refl _ w)
  have hblk : W.heap[w.heap.size]? = some (.cells o.cs 46 (0, 0)) := by rw [← hW]; exact heap_alloc_new w _
  have hWs : w.heap.size < W.heap.size := lt_heap hblk
  obtain ⟨d0, d1, d2, d3, d4, d5⟩ := op_cells hblk
  have Hb : Hid (Below w.heap.size w W) := hbW
  have heW := he.still hbW
  have hBW : B ≤ W.heap.size := Nat.le_trans hB hbW.size
  have hlow : Below B w W := hbW.mono hB
  have HC : Hid (Calls Try.prog 7 #[.pointer (some ⟨E.b, 0, none⟩), .int .i64 o.p, .int .i64 o.q, .slice o.ba o.bn o.bc] W fun e w1 => (∃ x y, e = .returned (.tuple #[.int .i64 x, .int .i64 y])) ∧ Goes W w1 E B K) := (post_goes heW hBW h hK o.p o.q o.bn bs o.ba o.bc (hbb W hlow)).mono fun e w1 ⟨x, y, x1, x2⟩ => ⟨⟨x, y, x1⟩, x2⟩
  unfold Opx.cs at hW ⊢
  rw [hk] at hW d0 ⊢
  clear he heW h hbW hblk hbb hss
  go_enter Try.func20, Try.ntmps20
  go_wp2_with (first | (go_at_call 7; refine HC.out.mono ?_; rintro e w1 ⟨⟨x, y, rfl⟩, hg⟩) | fail)
  all_goals first | (exfalso; omega) | ((first | go_end0 | ((try simp only [Exit.inBlock, Exit.then]); refine bodyPost_ret (results_none rfl _ _ _) rfl ?_)); exact ⟨rfl, hg.pre Hb.out⟩)
set_option maxHeartbeats 400000 in
theorem play_round (he : E.Ok w B (256 * K)) (hB : B ≤ w.heap.size) (h : Inv E K) (hK : K ≤ 2199023255551) (o : Opx) (bs xs : List Int) (hbb : ∀ w', Below B w w' → Rd w' o.ba o.bn o.bc bs) (hss : ∀ w', Below B w w' → RdI w' o.sa o.sn o.sc xs) (hbn : o.bn ≤ 140737488351232) (hsn : o.sn ≤ 17592186043904) (h63 : o.n ≤ 9223372036854775807) (hk : o.k = 11) : Calls Try.prog 20 #[.pointer (some ⟨E.b, 0, none⟩), .agg o.cs] w fun e w' => e = .returned (.tuple #[]) ∧ Goes w w' E B K := by
  generalize hW : w.alloc (.cells o.cs 46) = W
  have hbW : Below w.heap.size w W := by rw [← hW]; exact balloc (Below.refl _ w)
  have hblk : W.heap[w.heap.size]? = some (.cells o.cs 46 (0, 0)) := by rw [← hW]; exact heap_alloc_new w _
  have hWs : w.heap.size < W.heap.size := lt_heap hblk
  obtain ⟨d0, d1, d2, d3, d4, d5⟩ := op_cells hblk
  have Hb : Hid (Below w.heap.size w W) := hbW
  have heW := he.still hbW
  have hBW : B ≤ W.heap.size := Nat.le_trans hB hbW.size
  have hlow : Below B w W := hbW.mono hB
  have HC : Hid (Calls Try.prog 9 #[.pointer (some ⟨E.b, 0, none⟩)] W fun e w1 => (∃ a n c, e = .returned (.slice a n c)) ∧ Goes W w1 E B K) := round_goes heW hBW h hK
  unfold Opx.cs at hW ⊢
  rw [hk] at hW d0 ⊢
  clear he heW h hbW hblk hbb hss
  go_enter Try.func20, Try.ntmps20
  go_wp2_with (first | (go_at_call 9; refine HC.out.mono ?_; rintro e w1 ⟨⟨a, n, c, rfl⟩, hg⟩) | fail)
  all_goals first | (exfalso; omega) | ((first | go_end0 | ((try simp only [Exit.inBlock, Exit.then]); refine bodyPost_ret (results_none rfl _ _ _) rfl ?_)); exact ⟨rfl, hg.pre Hb.out⟩)
set_option maxHeartbeats 400000 in
theorem play_take (he : E.Ok w B (256 * K)) (hB : B ≤ w.heap.size) (h : Inv E K) (hK : K ≤ 2199023255551) (o : Opx) (bs xs : List Int) (hbb : ∀ w', Below B w w' → Rd w' o.ba o.bn o.bc bs) (hss : ∀ w', Below B w w' → RdI w' o.sa o.sn o.sc xs) (hbn : o.bn ≤ 140737488351232) (hsn : o.sn ≤ 17592186043904) (h63 : o.n ≤ 9223372036854775807) (hk : o.k = 12) : Calls Try.prog 20 #[.pointer (some ⟨E.b, 0, none⟩), .agg o.cs] w fun e w' => e = .returned (.tuple #[]) ∧ Goes w w' E B K := by
  generalize hW : w.alloc (.cells o.cs 46) = W
  have hbW : Below w.heap.size w W := by rw [← hW]; exact balloc (Below.refl _ w)
  have hblk : W.heap[w.heap.size]? = some (.cells o.cs 46 (0, 0)) := by rw [← hW]; exact heap_alloc_new w _
  have hWs : w.heap.size < W.heap.size := lt_heap hblk
  obtain ⟨d0, d1, d2, d3, d4, d5⟩ := op_cells hblk
  have Hb : Hid (Below w.heap.size w W) := hbW
  have heW := he.still hbW
  have hBW : B ≤ W.heap.size := Nat.le_trans hB hbW.size
  have hlow : Below B w W := hbW.mono hB
  have HC : Hid (Calls Try.prog 19 #[.pointer (some ⟨E.b, 0, none⟩), .int .i64 o.p] W fun e w1 => (∃ x0 x1 x2 x3 a n c y, e = .returned (.tuple #[.agg #[.int .i64 x0, .int .i64 x1, .int .i64 x2, .int .i64 x3, .slice a n c], .int .i64 y])) ∧ Goes W w1 E B K) := take_goes heW h o.p
  unfold Opx.cs at hW ⊢
  rw [hk] at hW d0 ⊢
  clear he heW h hbW hblk hbb hss
  go_enter Try.func20, Try.ntmps20
  go_wp2_with (first | (go_at_call 19; refine HC.out.mono ?_; rintro e w1 ⟨⟨x0, x1, x2, x3, a, n, c, y, rfl⟩, hg⟩) | fail)
  all_goals first | (exfalso; omega) | ((first | go_end0 | ((try simp only [Exit.inBlock, Exit.then]); refine bodyPost_ret (results_none rfl _ _ _) rfl ?_)); exact ⟨rfl, hg.pre Hb.out⟩)
set_option maxHeartbeats 400000 in
theorem play_do (he : E.Ok w B (256 * K)) (hB : B ≤ w.heap.size) (h : Inv E K) (hK : K ≤ 2199023255551) (o : Opx) (bs xs : List Int) (hbb : ∀ w', Below B w w' → Rd w' o.ba o.bn o.bc bs) (hss : ∀ w', Below B w w' → RdI w' o.sa o.sn o.sc xs) (hbn : o.bn ≤ 140737488351232) (hsn : o.sn ≤ 17592186043904) (h63 : o.n ≤ 9223372036854775807) (h1 : 20 < o.k) (h2 : o.k ≤ 60) : Calls Try.prog 20 #[.pointer (some ⟨E.b, 0, none⟩), .agg o.cs] w fun e w' => e = .returned (.tuple #[]) ∧ Goes w w' E B K := by
  generalize hW : w.alloc (.cells o.cs 46) = W
  have hbW : Below w.heap.size w W := by rw [← hW]; exact balloc (Below.refl _ w)
  have hblk : W.heap[w.heap.size]? = some (.cells o.cs 46 (0, 0)) := by rw [← hW]; exact heap_alloc_new w _
  have hWs : w.heap.size < W.heap.size := lt_heap hblk
  obtain ⟨d0, d1, d2, d3, d4, d5⟩ := op_cells hblk
  have Hb : Hid (Below w.heap.size w W) := hbW
  have heW := he.still hbW
  have hBW : B ≤ W.heap.size := Nat.le_trans hB hbW.size
  have hlow : Below B w W := hbW.mono hB
  have hr0 := hbb w (Below.refl _ _)
  have hx0 := hss w (Below.refl _ _)
  have hbl := hr0.1
  have hxl := hx0.1
  have HEv : Hid (Calls Try.prog 33 #[.agg #[.int .i64 o.k, .int .i64 o.p, .int .i64 o.q, .int .i64 o.n, .slice o.ba o.bn o.bc, .slice o.sa o.sn o.sc]] W fun e w2 => ∃ gb cb gs cs, e = .returned (.agg #[.int .i64 (o.k - 20), .int .i64 o.p, .int .i64 o.q, .int .i64 o.n, .slice (some ⟨gb, 0, none⟩) o.bn cb, .int .i64 0, .int .i64 0, .int .i64 0, .int .i64 0, .string ByteArray.empty, .string ByteArray.empty, .string ByteArray.empty, .slice (some ⟨gs, 0, none⟩) o.sn cs]) ∧ Marked w2 W.heap.size gb o.bn cb bs ∧ MarkedI w2 W.heap.size gs o.sn cs xs ∧ Below W.heap.size W w2) := event_any o bs xs (hbb W hlow) (hss W hlow) hbn hsn h1 h2
  have HDo : Hid (∀ w1 gb cb gs cs, Below W.heap.size W w1 → Marked w1 W.heap.size gb o.bn cb bs → MarkedI w1 W.heap.size gs o.sn cs xs → Calls Try.prog 32 #[.pointer (some ⟨E.b, 0, none⟩), .agg #[.int .i64 (o.k - 20), .int .i64 o.p, .int .i64 o.q, .int .i64 o.n, .slice (some ⟨gb, 0, none⟩) o.bn cb, .int .i64 0, .int .i64 0, .int .i64 0, .int .i64 0, .string ByteArray.empty, .string ByteArray.empty, .string ByteArray.empty, .slice (some ⟨gs, 0, none⟩) o.sn cs]] w1 fun e w2 => (∃ x, e = .returned (.int .i64 x)) ∧ Goes W w2 E B K) := by
    intro w1 gb cb gs cs hb1 hm hmi
    have hgs : ¬ E.own gs := fun e => by
      have q1 := he.ltOwn e
      have q2 := (World.ownsRow.lt hmi gs rfl).1
      omega
    exact (do_goes (heW.still hb1) (Nat.le_trans hBW hb1.size) h hK (evC o gb cb gs cs) bs xs h63 (hm.rd hbl hr0.2.2.2) hxl gs rfl (fun i hi => hmi.cells hxl hi) hgs).mono fun e w2 ⟨x, x1, x2⟩ => ⟨⟨x, x1⟩, x2.pre hb1⟩
  unfold Opx.cs at hW ⊢
  clear he heW h hbW hblk hbb hss hr0 hx0
  go_enter Try.func20, Try.ntmps20
  go_wp2_with (fail)
  all_goals first | (exfalso; omega) | skip
  refine HEv.out.mono ?_
  rintro e w1 ⟨gb, cb, gs, cs, rfl, hm, hmi, hb1⟩
  have HP := HDo.out w1 gb cb gs cs hb1 hm hmi
  clear hm hmi hb1 HDo
  go_wp2_with (first | (go_at_call 32; refine HP.mono ?_; rintro e w2 ⟨⟨x, rfl⟩, hg⟩) | fail)
  all_goals first | ((first | go_end0 | ((try simp only [Exit.inBlock, Exit.then]); refine bodyPost_ret (results_none rfl _ _ _) rfl ?_)); exact ⟨rfl, hg.pre Hb.out⟩)
set_option maxHeartbeats 400000 in
theorem play_else (he : E.Ok w B (256 * K)) (hB : B ≤ w.heap.size) (h : Inv E K) (hK : K ≤ 2199023255551) (o : Opx) (bs xs : List Int) (hbb : ∀ w', Below B w w' → Rd w' o.ba o.bn o.bc bs) (hss : ∀ w', Below B w w' → RdI w' o.sa o.sn o.sc xs) (hbn : o.bn ≤ 140737488351232) (hsn : o.sn ≤ 17592186043904) (h63 : o.n ≤ 9223372036854775807) (h1 : o.k ≠ 5 ∧ o.k ≠ 6 ∧ o.k ≠ 7 ∧ o.k ≠ 10 ∧ o.k ≠ 11 ∧ o.k ≠ 12) (h2 : ¬ (20 < o.k ∧ o.k ≤ 60)) : Calls Try.prog 20 #[.pointer (some ⟨E.b, 0, none⟩), .agg o.cs] w fun e w' => e = .returned (.tuple #[]) ∧ Goes w w' E B K := by
  generalize hW : w.alloc (.cells o.cs 46) = W
  have hbW : Below w.heap.size w W := by rw [← hW]; exact balloc (Below.refl _ w)
  have hblk : W.heap[w.heap.size]? = some (.cells o.cs 46 (0, 0)) := by rw [← hW]; exact heap_alloc_new w _
  have hWs : w.heap.size < W.heap.size := lt_heap hblk
  obtain ⟨d0, d1, d2, d3, d4, d5⟩ := op_cells hblk
  have Hb : Hid (Below w.heap.size w W) := hbW
  have heW := he.still hbW
  have hBW : B ≤ W.heap.size := Nat.le_trans hB hbW.size
  have hlow : Below B w W := hbW.mono hB
  obtain ⟨j1, j2, j3, j4, j5, j6⟩ := h1
  have HG : Hid (Goes w W E B K) := goes_none he h hbW
  unfold Opx.cs at hW ⊢
  clear he heW h hbW hblk hbb hss
  go_enter Try.func20, Try.ntmps20
  go_wp2
  all_goals first | (exfalso; omega) | ((first | go_end0 | ((try simp only [Exit.inBlock, Exit.then]); refine bodyPost_ret (results_none rfl _ _ _) rfl ?_)); exact ⟨rfl, HG.out⟩)
theorem play_any (he : E.Ok w B (256 * K)) (hB : B ≤ w.heap.size) (h : Inv E K) (hK : K ≤ 2199023255551) (o : Opx) (bs xs : List Int) (hbb : ∀ w', Below B w w' → Rd w' o.ba o.bn o.bc bs) (hss : ∀ w', Below B w w' → RdI w' o.sa o.sn o.sc xs) (hbn : o.bn ≤ 140737488351232) (hsn : o.sn ≤ 17592186043904) (h63 : o.n ≤ 9223372036854775807) : Calls Try.prog 20 #[.pointer (some ⟨E.b, 0, none⟩), .agg o.cs] w fun e w' => e = .returned (.tuple #[]) ∧ Goes w w' E B K := by
  by_cases k5 : o.k = 5
  · exact play_tick he hB h hK o bs xs hbb hss hbn hsn h63 k5
  by_cases k6 : o.k = 6
  · exact play_crash he hB h hK o bs xs hbb hss hbn hsn h63 k6
  by_cases k7 : o.k = 7
  · exact play_restart he hB h hK o bs xs hbb hss hbn hsn h63 k7
  by_cases k10 : o.k = 10
  · exact play_post he hB h hK o bs xs hbb hss hbn hsn h63 k10
  by_cases k11 : o.k = 11
  · exact play_round he hB h hK o bs xs hbb hss hbn hsn h63 k11
  by_cases k12 : o.k = 12
  · exact play_take he hB h hK o bs xs hbb hss hbn hsn h63 k12
  by_cases k20 : 20 < o.k ∧ o.k ≤ 60
  · exact play_do he hB h hK o bs xs hbb hss hbn hsn h63 k20.1 k20.2
  exact play_else he hB h hK o bs xs hbb hss hbn hsn h63 ⟨k5, k6, k7, k10, k11, k12⟩ k20
end
end Go.Proofs.Ytnhhjelplmdloaa.Et
