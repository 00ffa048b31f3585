import Derived.Test.YthogcanfinjfdaaIb
namespace Go.Proofs.Ythogcanfinjfdaa.Et
open Go.RowKit Go.Maps
set_option linter.unusedVariables false
set_option linter.unusedSimpArgs false
set_option maxRecDepth 100000
def cnt (ds : List Fd) (i : Int) : Nat := (ds.filter fun d => decide (d.id = i)).length
theorem cnt_next {ds : List Fd} {k : Nat} {f : Fd} (h : ds[k]? = some f) (i : Int) : cnt (ds.take (k + 1)) i = cnt (ds.take k) i + (if f.id = i then 1 else 0) := by
  obtain ⟨hk, rfl⟩ := List.getElem?_eq_some_iff.1 h
  unfold cnt
  rw [List.take_succ_eq_append_getElem hk, List.filter_append, List.length_append]
  congr 1
  by_cases e : ds[k].id = i <;> simp [List.filter_cons, e]
theorem cnt_le (ds : List Fd) (i : Int) (k : Nat) : cnt (ds.take k) i ≤ k := by
  unfold cnt
  exact Nat.le_trans (List.length_filter_le _ _) (by rw [List.length_take]; omega)
section
variable {E E1 E' : En} {w w' w1 w2 w3 : World} {B K m : Nat} {i due : Int}
set_option maxHeartbeats 400000 in
theorem count_any {a : Option Addr} {n c : Nat} {ds : List Fd} (h : RdF w a n ds) (hn : n ≤ 2199023255552) (i : Int) : Calls Try.prog 16 #[.slice a n c, .int .i64 i] w fun e w' => e = .returned (.int .i64 (cnt ds i : Nat)) ∧ w = w' := by
  have H : Hid (RdF w a n ds) := h
  have hl := h.len
  clear h
  go_enter Try.func16, Try.ntmps16
  go_wp2
  go_loopw [5, 6] (fun v i' wr => ∃ k : Nat, k ≤ n ∧ i' = .int .i64 k ∧ v = .int .i64 (cnt (ds.take k) i : Nat) ∧ w = wr) (fun _ i _ => n - (intOf i).toNat)
  case atStart => exact ⟨0, Nat.zero_le _, rfl, by simp [cnt], rfl⟩
  case round =>
    obtain ⟨k, hk, rfl, rfl, rfl⟩ := hrel
    by_cases hlt : k < n
    · obtain ⟨g, f, hg, hd, _, y0, _, _, _, _⟩ := H.out.at hlt
      have hnx := cnt_next hd i
      have hle := cnt_le ds i k
      have hid : (f.d).id = f.id := rfl
      rw [hid] at hnx
      have i1 : (0 : Int) ≤ (k : Int) := Int.natCast_nonneg _
      have i2 : (k : Int) < (n : Int) := by omega
      have HNx : Hid (cnt (ds.take (k + 1)) i = cnt (ds.take k) i + (if f.id = i then 1 else 0)) := hnx
      clear hd hid hnx
      subst hg
      generalize cnt (ds.take k) i = q at hle HNx
      by_cases e : f.id = i
      · have e2 : (f.id == i) = true := by simp [e]
        have HE : Hid (f.id = i) := e
        clear e
        go_wp2
        all_goals first
          | (exfalso; simp_all; done)
          | (go_roundw
             case rel => exact ⟨k + 1, by omega, by go_num, by rw [HNx.out, if_pos HE.out]; go_num, (by first | trivial | rfl)⟩
             case measure => simp [intOf]; omega)
      · have e2 : (f.id == i) = false := by simp [e]
        have HE : Hid (¬ f.id = i) := e
        go_wp2
        all_goals first
          | (exfalso; simp_all; done)
          | (go_roundw
             case rel => exact ⟨k + 1, by omega, by go_num, by rw [HNx.out, if_neg HE.out]; rfl, (by first | trivial | rfl)⟩
             case measure => simp [intOf]; omega)
    · obtain rfl : k = n := by omega
      go_wp2
      go_ret
      rw [List.take_of_length_le (by omega)]
      exact ⟨rfl, rfl⟩
def Has (E : En) (i due : Int) : Prop := ∃ f ∈ E.fs, f.id = i ∧ f.due = due ∧ f.src = 0 ∧ f.dst = 1
def Hasnt (E : En) (i : Int) : Prop := ∀ f ∈ E.fs, f.id ≠ i
theorem uniq {L : List Fx} (h : (L.map Fx.id).Pairwise (fun a b => a < b)) {f g : Fx} (hf : f ∈ L) (hg : g ∈ L) (e : f.id = g.id) : f = g := by
  obtain ⟨p, hp, rfl⟩ := List.getElem_of_mem hf
  obtain ⟨q, hq, rfl⟩ := List.getElem_of_mem hg
  have hh := List.pairwise_iff_getElem.1 h
  have l1 : p < (L.map Fx.id).length := by simpa using hp
  have l2 : q < (L.map Fx.id).length := by simpa using hq
  rcases Nat.lt_trichotomy p q with hc | hc | hc
  · have := hh p q l1 l2 hc; simp at this; omega
  · subst hc; rfl
  · have := hh q p l2 l1 hc; simp at this; omega
theorem cnt_zero {L : List Fx} (h : ∀ f ∈ L, f.id ≠ i) : cnt (L.map Fx.d) i = 0 := by
  unfold cnt
  rw [List.length_eq_zero_iff, List.filter_eq_nil_iff]
  intro d hd
  obtain ⟨f, hf, rfl⟩ := List.mem_map.1 hd
  have := h f hf
  simp only [decide_eq_true_eq]
  exact this
theorem cnt_one {L : List Fx} (h : (L.map Fx.id).Pairwise (fun a b => a < b)) {f : Fx} (hf : f ∈ L) (e : f.id = i) : cnt (L.map Fx.d) i = 1 := by
  induction L with
  | nil => cases hf
  | cons g L ih =>
    rw [List.map_cons, List.pairwise_cons] at h
    rcases List.mem_cons.1 hf with rfl | hf2
    · have h0 : cnt (L.map Fx.d) i = 0 := cnt_zero (fun x hx e2 => by have := h.1 x.id (List.mem_map.2 ⟨x, hx, rfl⟩); omega)
      unfold cnt at h0 ⊢
      rw [List.map_cons, List.filter_cons, if_pos (decide_eq_true (show (f.d).id = i from e)), List.length_cons, h0]
    · have h1 := ih h.2 hf2
      have h2 : g.id ≠ i := by have := h.1 f.id (List.mem_map.2 ⟨f, hf2, rfl⟩); omega
      unfold cnt at h1 ⊢
      rw [List.map_cons, List.filter_cons, if_neg (by rw [decide_eq_true_eq]; exact h2), h1]
theorem come_cnt (h : Inv E K) (hc : E.cut 0 1 = false) (hu : E.up 1 = true) (hh : Has E i due) : cnt ((E.fs.filter (comes E)).map Fx.d) i = if due = ckN E then 1 else 0 := by
  obtain ⟨f, hf, e1, e2, e3, e4⟩ := hh
  by_cases e : due = ckN E
  · rw [if_pos e]
    refine cnt_one (h.ids.sublist (List.filter_sublist.map _)) (f := f) (List.mem_filter.2 ⟨hf, ?_⟩) e1
    unfold comes barE
    rw [e2, e, e3, e4]
    simp [hc, hu]
  · rw [if_neg e]
    refine cnt_zero (fun g hg eg => ?_)
    obtain ⟨g1, g2⟩ := List.mem_filter.1 hg
    obtain rfl := uniq h.ids hf g1 (by rw [e1, eg])
    unfold comes at g2
    rw [Bool.and_eq_true] at g2
    have := of_decide_eq_true g2.1
    omega
theorem come_none (hh : Hasnt E i) : cnt ((E.fs.filter (comes E)).map Fx.d) i = 0 := cnt_zero (fun g hg => hh g (List.mem_filter.1 hg).1)
theorem round_has (hh : Has E i due) (e : due ≠ ckN E) : Has { E with clock := ckN E, fs := E.fs.filter (stays E) } i due := by
  obtain ⟨f, hf, e1, e2, e3, e4⟩ := hh
  exact ⟨f, List.mem_filter.2 ⟨hf, decide_eq_true (by rw [e2]; exact e)⟩, e1, e2, e3, e4⟩
theorem round_gone (h : Inv E K) (hh : Has E i due) (e : due = ckN E) : Hasnt { E with clock := ckN E, fs := E.fs.filter (stays E) } i := by
  obtain ⟨f, hf, e1, e2, e3, e4⟩ := hh
  intro g hg eg
  obtain ⟨g1, g2⟩ := List.mem_filter.1 hg
  obtain rfl := uniq h.ids hf g1 (by rw [e1, eg])
  have : f.due ≠ ckN E := of_decide_eq_true g2
  exact this (by rw [e2, e])
theorem round_hasnt (hh : Hasnt E i) : Hasnt { E with clock := ckN E, fs := E.fs.filter (stays E) } i := fun g hg => hh g (List.mem_filter.1 hg).1
theorem add_has {f : Fx} {a : Option Addr} {c : Nat} (hh : Has E i due) : Has (added E f a c) i due := by
  obtain ⟨g, hg, e⟩ := hh
  exact ⟨g, List.mem_append_left _ hg, e⟩
theorem add_hasnt {f : Fx} {a : Option Addr} {c : Nat} (hh : Hasnt E i) (hf : f.id ≠ i) : Hasnt (added E f a c) i := by
  intro g hg
  rcases List.mem_append.1 hg with hg | hg
  · exact hh g hg
  · obtain rfl := List.mem_singleton.1 hg; exact hf
theorem restart_up (he : E.Ok w B (256 * K)) (h : Inv E K) (p : Nat) (hp : p < E.nn) : Calls Try.prog 11 (aN E.b p) w fun e w1 => ∃ x y, e = .returned (tup x y) ∧ ∃ E1, Step w w1 E E1 B (256 * K) ∧ Nx E E1 K ∧ E1.up p = true ∧ ∀ q, E.up q = true → E1.up q = true := by
  cases hu : E.up p with
  | false =>
    exact (restart_ok he p hp hu).mono fun e w1 ⟨x1, st⟩ => ⟨_, _, x1, _, st, ⟨h.cong rfl rfl rfl rfl, rfl, rfl, rfl⟩, by simp [upd1], fun q hq => by simp only [upd1]; split <;> first | rfl | exact hq⟩
  | true =>
    have hc : rstE E p ≠ 0 := by
      unfold rstE
      rw [isN_nat hp]
      simp [hu]
    exact (restart_no he p hc).mono fun e w1 ⟨x1, x2⟩ => ⟨_, _, x1, E, by subst x2; exact Step.same he, nx_none h, hu, fun q hq => hq⟩
theorem heal01 (he : E.Ok w B (256 * K)) (h : Inv E K) (hK : K ≤ 2199023255551) (hn : 2 ≤ E.nn) : Calls Try.prog 13 (aD E.b ⟨9, 0, 1, 0, none, 0, 0, none, 0, 0⟩) w fun e w1 => e = .returned (.int .i64 0) ∧ ∃ E1, Step w w1 E E1 B (256 * (K + 1)) ∧ Nx E E1 K ∧ E1.cut 0 1 = false ∧ E1.up = E.up := by
  refine do_path E.b ⟨9, 0, 1, 0, none, 0, 0, none, 0, 0⟩ (.inr (.inl rfl)) _ (fun w2 hb2 => ?_)
  refine (doPath_open (he.still hb2) ⟨9, 0, 1, 0, none, 0, 0, none, 0, 0⟩ 0 1 rfl rfl (by omega) (by omega) (by omega) (by decide) (by unfold maxLen; omega)).mono ?_
  rintro e w3 ⟨rfl, st⟩
  exact ⟨⟨_, rfl⟩, rfl, _, ⟨(st.pre hb2).ok.mono (by omega), (st.pre hb2).kept, (st.pre hb2).own⟩, ⟨h.cong rfl rfl rfl rfl, rfl, rfl, rfl⟩, by simp [upd2], rfl⟩
theorem delay01 (he : E.Ok w B (256 * K)) (h : Inv E K) (hK : K ≤ 2199023255551) (hn : 2 ≤ E.nn) (d : Int) (h1 : 1 ≤ d) (h2 : d ≤ 16) : Calls Try.prog 13 (aD E.b ⟨10, 0, 1, d, none, 0, 0, none, 0, 0⟩) w fun e w1 => e = .returned (.int .i64 0) ∧ ∃ E1, Step w w1 E E1 B (256 * (K + 1)) ∧ Nx E E1 K ∧ E1.cut = E.cut ∧ E1.up = E.up ∧ E1.dl 0 1 = d := by
  refine do_path E.b ⟨10, 0, 1, d, none, 0, 0, none, 0, 0⟩ (.inr (.inr rfl)) _ (fun w2 hb2 => ?_)
  refine (doPath_dly (he.still hb2) ⟨10, 0, 1, d, none, 0, 0, none, 0, 0⟩ 0 1 rfl rfl (by omega) (by omega) (by omega) rfl h1 h2 (by unfold maxLen; omega)).mono ?_
  rintro e w3 ⟨rfl, st⟩
  exact ⟨⟨_, rfl⟩, rfl, _, ⟨(st.pre hb2).ok.mono (by omega), (st.pre hb2).kept, (st.pre hb2).own⟩, ⟨h.cong rfl rfl rfl rfl, rfl, rfl, rfl⟩, rfl, rfl, by simp [upd2]⟩
theorem delay01_no (he : E.Ok w B (256 * K)) (hn : 2 ≤ E.nn) (d : Int) (hd : d < 1 ∨ 16 < d) : Calls Try.prog 13 (aD E.b ⟨10, 0, 1, d, none, 0, 0, none, 0, 0⟩) w fun e w1 => e = .returned (.int .i64 1) ∧ Below w.heap.size w w1 := by
  refine do_path E.b ⟨10, 0, 1, d, none, 0, 0, none, 0, 0⟩ (.inr (.inr rfl)) _ (fun w2 hb2 => ?_)
  refine (doPath_dno (he.still hb2) ⟨10, 0, 1, d, none, 0, 0, none, 0, 0⟩ 0 1 rfl rfl (by omega) (by omega) (by omega) rfl hd).mono ?_
  rintro e w3 ⟨rfl, hb3⟩
  exact ⟨⟨_, rfl⟩, rfl, bstep hb2 hb3⟩
theorem post01 (he : E.Ok w B (256 * K)) (hB : B ≤ w.heap.size) (h : Inv E K) (hK : K ≤ 2199023255551) (hn : 2 ≤ E.nn) (hu : E.up 0 = true) (hc : E.cut 0 1 = false) (hl : (E.fs.length : Int) < E.room) (n : Nat) (hn2 : n ≤ 40000) (bs : List Int) (ea : Option Addr) (ec : Nat) (hr : Rd w ea n ec bs) : Calls Try.prog 14 (aQ E.b 0 1 ea n ec) w fun e w1 => e = .returned (tup (E.last + 1) 0) ∧ ∃ f a c, Step w w1 E (added E f a c) B (256 * K) ∧ Nx E (added E f a c) K ∧ f.id = E.last + 1 ∧ f.due = E.clock + E.dl 0 1 ∧ f.src = 0 ∧ f.dst = 1 := by
  have hn16 := he.n16
  have hno : (isP E ((0 : Nat) : Int) ((1 : Nat) : Int) && decide ((n : Int) ≤ 40000)) = true := by
    rw [isP_nat (by omega) (by omega) (by omega), decide_eq_true (by omega)]
    rfl
  refine post_go he 0 ((1 : Nat) : Int) ea n ec (by omega) hno hu _ (fun w2 hb2 => ?_)
  refine (launch_ok (he.still hb2) (Nat.le_trans hB hb2.size) 0 1 (by omega) (by omega) (by omega) hc ea n ec bs (hr.still hb2) (by omega) hl h.r1.2).mono ?_
  rintro e w3 ⟨rfl, g, a, c', st⟩
  have hw := wN_is h hK
  have hd := he.dly 0 1 (by omega) (by omega)
  have hck := h.ck
  have hwd : IntKind.i64.wrap (E.clock + E.dl 0 1) = E.clock + E.dl 0 1 := wrap_id (by omega) (by omega)
  refine ⟨⟨_, _, rfl⟩, by rw [hw]; rfl, nf E 0 1 n bs g, a, c', st.pre hb2, nx_added h hK _ _ _ rfl hn2 ?_ ?_ hl, hw, hwd, rfl, rfl⟩
  · show E.clock < IntKind.i64.wrap (E.clock + E.dl 0 1)
    omega
  · show IntKind.i64.wrap (E.clock + E.dl 0 1) ≤ _
    omega
end
end Go.Proofs.Ythogcanfinjfdaa.Et
