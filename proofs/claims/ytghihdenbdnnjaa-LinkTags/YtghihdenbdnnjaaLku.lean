import Derived.Test.YtghihdenbdnnjaaLkt
namespace Go.Proofs.Ytghihdenbdnnjaa.Ln
open Go.RowKit Mb
set_option linter.unusedVariables false
set_option maxRecDepth 100000
set_option linter.unusedSimpArgs false
section
variable {w w' W : World} {B : Nat} {X X' : Wr}
def nonE (bs : List Int) : List Int := if bs.length = 0 then [1] else bs
def cutB (bs : List Int) : List Int := (nonE bs).take 20
theorem cutB_len (bs : List Int) : 0 < (cutB bs).length ∧ (cutB bs).length ≤ 20 := by
  unfold cutB nonE
  split
  · simp
  · rw [List.length_take]; omega
theorem nonE_by {bs : List Int} (h : By bs) : By (nonE bs) := by
  unfold nonE
  split
  · exact By.of (by simp)
  · exact h
theorem cutB_by {bs : List Int} (h : By bs) : By (cutB bs) := (nonE_by h).take 20
theorem qat (h : X.Ok w B) {s : Nat} (hs : s < 2) : (X.m s).at (2 + 3 * (1 - (s : Int))) = some (X.e s) := by
  have e : (2 + 3 * (1 - (s : Int))) = ((pid (1 - s) : Nat) : Int) := by unfold pid; omega
  rw [e]
  exact at_some (h.mo s hs) (h.me s hs)
structure XO (w w' : World) (X : Wr) (B : Nat) (P' : Px) (e : Ending) : Prop where
  ret : e = .returned (.bool true)
  out : ∃ X', Xstep w w' X X' B ∧ X'.pu = P'
theorem upd_comp {α β : Type} (g : α → β) (f : Nat → α) (s : Nat) (x : α) : (fun t => g (upd f s x t)) = upd (fun t => g (f t)) s (g x) := by
  funext t
  by_cases e : t = s
  · rw [e, upd_same, upd_same]
  · rw [upd_ne _ _ e, upd_ne _ _ e]
theorem setE_pu (X : Wr) (s : Nat) (e' : En) : (X.setE s e').pu = X.pu.setE s e'.pu := by
  unfold Wr.setE Wr.pu Px.setE
  simp only [upd_comp]
theorem setE_b (X : Wr) (s t : Nat) (e' : En) : ((X.setE s e').m t).b = (X.m t).b := by
  by_cases e : t = s
  · subst e; simp only [Wr.setE, upd_same]; rfl
  · simp only [Wr.setE, upd_ne _ _ e]
def Wr.addP (X : Wr) (s : Nat) (v : Value) (y : Bn) : Wr := { X with v := upd X.v (4 + s) v, p := upd X.p s (X.p s ++ [y]) }
theorem addP_step {D w5 w6 : World} (h : X.Ok D B) {s : Nat} (hs : s < 2) (hb : Below D.heap.size D w5) {y : Bn} (hy : y.Ok w5 D.heap.size) (hB : B ≤ D.heap.size) {g cap n : Nat} (hn : n = (X.p s).length) (hrow : w6.ownsRow B 25 1 (.slice (some ⟨g, 0, none⟩) (n + 1) cap) (n + 1) ((X.p s).map Bn.v ++ [y.v])) (k : Kept w5 w6 (fun q => (X.v (4 + s)).ownBlock = some q)) (hl : (X.v (4 + s)).ownBlock = some g ∨ w5.heap.size ≤ g) : Xstep D (w6.setCell ⟨X.b, 4 + s, none⟩ (.slice (some ⟨g, 0, none⟩) (n + 1) cap)) X (X.addP s (.slice (some ⟨g, 0, none⟩) (n + 1) cap) y) B := by
  subst hn
  have hd := hb.size
  have kD : Kept D w6 (fun q => (X.v (4 + s)).ownBlock = some q) := (Kept.ofBelow hb _).trans k
  have h5 := h.still hb
  have hyk : ¬ (X.v (4 + s)).ownBlock = some y.k := fun e => by
    have := h.lt (own_r (by omega) (by omega) e); have := hy.lo; omega
  refine h.grow (i := 4 + s) (by omega) (by omega) rfl rfl rfl rfl rfl rfl ?_ (fun j j4 j12 hj => ?_) kD (fun q hq => ?_) (fun z hz => ?_)
  · have e1 : rowT (4 + s) = 25 := by unfold rowT; rw [if_pos (by omega)]
    have e2 : rowS (4 + s) = 1 := by unfold rowS; rw [if_pos (by omega)]
    have e3 : (X.addP s (.slice (some ⟨g, 0, none⟩) ((X.p s).length + 1) cap) y).rowN (4 + s) = (X.p s).length + 1 := by unfold Wr.rowN Wr.addP; rw [if_pos (by omega), Nat.add_sub_cancel_left]; show (upd X.p s _ s).length = _; rw [upd_same]; simp
    have e4 : (X.addP s (.slice (some ⟨g, 0, none⟩) ((X.p s).length + 1) cap) y).rowC (4 + s) = (X.p s).map Bn.v ++ [y.v] := by unfold Wr.rowC Wr.addP; rw [if_pos (by omega), Nat.add_sub_cancel_left]; show (upd X.p s _ s).map Bn.v = _; rw [upd_same]; simp
    rw [e1, e2, e3, e4]; exact hrow
  · unfold Wr.rowN Wr.rowC Wr.addP
    by_cases c : j < 6
    · simp only [c, if_true]; rw [upd_ne _ _ (show j - 4 ≠ s by omega)]; exact ⟨rfl, rfl⟩
    · simp only [c, if_false]; exact ⟨trivial, trivial⟩
  · simp [Value.ownBlock] at hq
    subst hq
    exact hl.imp id (fun hh => by omega)
  · obtain ⟨t, ht, hz⟩ := hz
    simp only [Wr.addP] at hz
    rcases hz with hz | hz | hz
    · by_cases e : t = s
      · subst e
        rw [upd_same] at hz
        rcases List.mem_append.1 hz with hz | hz
        · exact .inl ⟨t, ht, .inl hz⟩
        · simp at hz; subst hz
          refine .inr ⟨.inl ⟨(⟨(hy.keep k hyk).blk, hy.by_, hy.cap, by have := hy.lo; omega, hy.pos, hy.le⟩ : Bn.Ok _ _ _), hy.lo⟩, fun e => ?_, fun e => ?_⟩
          · have := h.lt (own_m (s := 0) (by omega) e); have := hy.lo; omega
          · have := h.lt (own_m (s := 1) (by omega) e); have := hy.lo; omega
      · rw [upd_ne _ _ e] at hz; exact .inl ⟨t, ht, .inl hz⟩
    · exact .inl ⟨t, ht, .inr (.inl hz)⟩
    · exact .inl ⟨t, ht, .inr (.inr hz)⟩
theorem Rd.cut {ao : Option Addr} {n c m : Nat} {bs : List Int} (h : Rd w ao n c bs) (hm : m ≤ n) : Rd w ao m c (bs.take m) := by
  refine ⟨by rw [List.length_take, h.len]; omega, Nat.le_trans hm h.cap, h.nil, ?_, h.by_.take m⟩
  rcases h.at_ with h0 | ⟨b, off, e, hc⟩
  · left; omega
  · refine .inr ⟨b, off, e, fun i hi => ?_⟩
    rw [hc i (by omega)]
    congr 2
    simp [List.getD, List.getElem?_take, hi]
theorem addP_pu (X : Wr) (s : Nat) (v : Value) (y : Bn) : (X.addP s v y).pu = { X.pu with p := upd X.pu.p s (X.pu.p s ++ [y.bs]) } := by
  unfold Wr.addP Wr.pu
  simp only [upd_comp (fun l : List Bn => l.map Bn.bs), List.map_append, List.map_cons, List.map_nil]
theorem Wr.Ok.space (h : X.Ok w B) {s : Nat} (hs : s < 2) : (X.m s).room = X.space := (h.mt s hs).2.2
theorem row_shape {t sz n : Nat} {v : Value} {l : List Value} (h : w.ownsRow B t sz v n l) : ∃ a c, v = .slice a n c := by
  rcases h.2 with ⟨h1, h2⟩ | ⟨g, cap, cur, hv, _⟩
  · exact ⟨none, 0, by rw [h1, h2]⟩
  · exact ⟨_, _, hv⟩
theorem Wr.Ok.rowp (h : X.Ok w B) {s : Nat} (hs : s < 2) : w.ownsRow B 25 1 (X.v (4 + s)) (X.p s).length ((X.p s).map Bn.v) := by
  have := h.row (4 + s) (by omega) (by omega)
  have e1 : rowT (4 + s) = 25 := by unfold rowT; rw [if_pos (by omega)]
  have e2 : rowS (4 + s) = 1 := by unfold rowS; rw [if_pos (by omega)]
  have e3 : X.rowN (4 + s) = (X.p s).length := by unfold Wr.rowN; rw [if_pos (by omega), Nat.add_sub_cancel_left]
  have e4 : X.rowC (4 + s) = (X.p s).map Bn.v := by unfold Wr.rowC; rw [if_pos (by omega), Nat.add_sub_cancel_left]
  rw [e1, e2, e3, e4] at this
  exact this
theorem rd_keep_x {ao : Option Addr} {n c : Nat} {bs : List Int} (hr : Rd w ao n c bs) (hap : In ao fun b => ¬ X.own b) (st : Xstep w w' X X' B) : Rd w' ao n c bs := hr.keep st.kept hap
theorem in_step {ao : Option Addr} (hap : In ao fun b => ¬ X.own b ∧ b < w.heap.size) (st : Xstep w w' X X' B) : In ao fun b => ¬ X'.own b ∧ b < w'.heap.size := fun b off e => by
  obtain ⟨h1, h2⟩ := hap b off e
  exact ⟨fun hj => (st.own b hj).elim h1 (fun hh => by omega), Nat.lt_of_lt_of_le h2 st.kept.size⟩
set_option maxHeartbeats 4000000 in
theorem wpush_any (h : X.Ok w B) (hI : X.pu.Inv) {T : Nat} (hT : X.pu.Sz T) (hT2 : T ≤ 1000) {s : Nat} (hs : s < 2) {ao : Option Addr} {n c : Nat} {bs : List Int} (hr : Rd w ao n c bs) (hap : 0 < n → In ao fun b => ¬ X.own b) (hB : B ≤ w.heap.size) : Calls Try.prog 8 #[.pointer (some ⟨X.b, 0, none⟩), .int .i64 (s : Int), .slice ao n c] w fun e w' => XO w w' X B (X.pu.push s (cutB bs)) e := by
  have i1 : (0 : Int) ≤ (s : Int) := Int.natCast_nonneg _
  have i2 : (s : Int) < 2 := by omega
  have j1 : (0 : Int) ≤ 1 - (s : Int) := by omega
  have j2 : 1 - (s : Int) ≤ 1 := by omega
  have Hh : Hid (X.Ok w B) := h
  have HI : Hid (X.pu.Inv) := hI
  have HBs : Hid (B ≤ w.heap.size) := hB
  have Hr : Hid (Rd w ao n c bs) := hr
  have Hap : Hid (0 < n → In ao fun b => ¬ X.own b) := hap
  have Hl : Hid (bs.length = n) := hr.len
  have hcap := hr.cap
  have Hby := hr.by_
  have HT : Hid ((X.p s).length ≤ T) := (show (X.p s).length ≤ T from by have := (hT s hs).1; simpa [Wr.pu] using this)
  clear h hI hB hr hap hT
  go_enter Try.func8, Try.ntmps8
  go_upto_if 12 with (fail)
  go_cut [2, 13] (fun v2 _ wx => ∃ (a1 : Option Addr) (n1 c1 : Nat), v2 = .slice a1 n1 c1 ∧ Hid (Rd wx a1 n1 c1 (nonE bs)) ∧ 0 < n1 ∧ n1 ≤ c1 ∧ Hid (In a1 fun b => ¬ X.own b) ∧ Hid (Below w.heap.size w wx))
  case first =>
    by_cases e0 : n = 0
    · have z0 : ((n : Int) == 0) = true := by rw [beq_iff_eq]; omega
      have HX1 : Hid (Rd (w.alloc (.cells #[.int .u8 1] 5)) (some ⟨w.heap.size, 0, none⟩) 1 1 (nonE bs)) := (show Rd _ _ _ _ _ from by
        have e1 : nonE bs = [1] := by unfold nonE; rw [if_pos (by rw [Hl.out]; exact e0)]
        rw [e1]
        refine ⟨rfl, Nat.le_refl _, by simp, .inr ⟨w.heap.size, 0, rfl, fun i hi => ?_⟩, By.of (by simp)⟩
        obtain rfl : i = 0 := by omega
        exact (blk_cell (heap_alloc_new w _) 0))
      have HX2 : Hid (In (some ⟨w.heap.size, 0, none⟩) fun b => ¬ X.own b) := (show In _ _ from fun b off e hb => by cases e; have := Hh.out.lt hb; omega)
      clear e0
      go_wp2_with (fail)
      go_meet
      exact ⟨_, 1, 1, rfl, HX1, by omega, by omega, HX2, balloc (Below.refl _ _)⟩
    · have z0 : ((n : Int) == 0) = false := by rw [beq_eq_false_iff_ne]; omega
      have e1 : nonE bs = bs := by unfold nonE; rw [if_neg (by rw [Hl.out]; exact e0)]
      have HX1 : Hid (Rd w ao n c (nonE bs)) := (show Rd _ _ _ _ _ from by rw [e1]; exact Hr.out)
      have hn0 : 0 < n := by omega
      clear e0 e1
      go_wp2_with (fail)
      go_meet
      exact ⟨ao, n, c, rfl, HX1, hn0, hcap, Hap.out hn0, Below.refl _ _⟩
  case rest =>
  obtain ⟨a1, n1, c1, rfl, Hr1, hn1, hcap1, Hap1, HBc⟩ := hcut
  go_upto_if 16 with (fail)
  go_cut [2] (fun v2 wx => ∃ (a2 : Option Addr) (c2 : Nat), v2 = .slice a2 (cutB bs).length c2 ∧ Hid (Rd wx a2 (cutB bs).length c2 (cutB bs)) ∧ Hid (In a2 fun b => ¬ X.own b) ∧ wc = wx)
  case first =>
    have hln := Hr1.out.len
    by_cases e0 : 20 < n1
    · have z0 : (20 : Int) < (n1 : Int) := by omega
      have q20 : (20 : Int) ≤ (c1 : Int) := by omega
      have e1 : (cutB bs).length = 20 := by unfold cutB; rw [List.length_take]; omega
      have HX1 : Hid (Rd wc a1 20 c1 (cutB bs)) := (show Rd _ _ _ _ _ from Hr1.out.cut (by omega))
      have He1 : Hid ((cutB bs).length = 20) := e1
      clear e0 e1 hln
      go_wp2_with (fail)
      go_meet
      exact ⟨a1, c1, by rw [He1.out], (show Rd _ _ _ _ _ from by rw [He1.out]; exact HX1.out), Hap1, rfl⟩
    · have z0 : ¬ (20 : Int) < (n1 : Int) := by omega
      have e2 : cutB bs = nonE bs := by unfold cutB; rw [List.take_of_length_le (by omega)]
      have e1 : (cutB bs).length = n1 := by rw [e2]; exact hln
      have HX1 : Hid (Rd wc a1 n1 c1 (cutB bs)) := (show Rd _ _ _ _ _ from by rw [e2]; exact Hr1.out)
      have He1 : Hid ((cutB bs).length = n1) := e1
      clear e0 e1 e2 hln
      go_wp2_with (fail)
      go_meet
      exact ⟨a1, c1, by rw [He1.out], (show Rd _ _ _ _ _ from by rw [He1.out]; exact HX1.out), Hap1, rfl⟩
  case rest =>
  obtain ⟨a2, c2, rfl, Hr2, Hap2, rfl⟩ := hcut
  have hcl := cutB_len bs
  have Hcb := cutB_by Hby
  clear Hr1 Hap1 Hby Hl Hr Hap hn1 hcap1 hcap
  generalize hb2 : cutB bs = b2 at *
  have Hb2 : Hid (cutB bs = b2) := hb2
  clear hb2
  have hXc := Hh.out.still HBc.out
  have hsp0 := hXc.space hs
  have Hsp : Hid ((X.m s).room = X.space) := hsp0
  clear hsp0
  have hEc := (hXc.mo s hs).el _ _ (hXc.me s hs)
  have hs1 := hEc.s1
  have hs2 := hEc.s2
  have hs6 := hEc.s62
  have hw1 := (hXc.mo s hs).w1
  have cm := hXc.cm hs
  have HRoom : Hid (Calls Try.prog 19 #[.pointer (some ⟨(X.m s).b, 0, none⟩), .int .i64 (2 + 3 * (1 - (s : Int)))] wc fun e w' => e = .returned (.int .i64 (((X.m s).room : Int) - (((X.e s).sent : Int) - ((X.e s).o.p : Int)))) ∧ Below wc.heap.size wc w') := room_yes (hXc.mo s hs) (qat hXc hs)
  have HIs := HI.out s hs
  have hsn : (X.e s).sent = (X.p s).length := by have := HIs.sent; simpa [Wr.pu, En.pu] using this
  have hsT := HT.out
  have HXc : Hid (X.Ok wc B) := hXc
  obtain ⟨rm, hrm⟩ : ∃ rm : Int, ((X.m s).room : Int) - (((X.e s).sent : Int) - ((X.e s).o.p : Int)) = rm := ⟨_, rfl⟩
  rw [hrm] at HRoom
  have Hrm : Hid (((X.m s).room : Int) - (((X.e s).sent : Int) - ((X.e s).o.p : Int)) = rm) := hrm
  obtain ⟨ra, rc, hrv⟩ := row_shape (hXc.rowp hs)
  obtain ⟨rn, hrn⟩ : ∃ rn, (X.p s).length = rn := ⟨_, rfl⟩
  rw [hrn] at hrv hsn hsT
  have Hrv : Hid (X.v (4 + s) = .slice ra rn rc) := hrv
  have Hrn : Hid ((X.p s).length = rn) := hrn
  have Hsn : Hid ((X.e s).sent = rn) := hsn
  have hsT2 : (X.e s).sent ≤ 1000 := by omega
  clear hsn
  have hrm0 : 0 ≤ rm ∧ rm ≤ 20000 := by omega
  have HP : Hid (X.pu.push s b2 = if (X.e s).sent < (X.e s).o.p + X.space then { X.pu with E := upd X.pu.E s ((X.pu.E s).push b2), p := upd X.pu.p s (X.pu.p s ++ [b2]) } else X.pu) := (show _ = _ from rfl)
  have HC : Hid (∀ D, Below wc.heap.size wc D → Calls Try.prog 29 #[.slice a2 b2.length c2] D fun e w' => CpO D w' b2 e) := fun D hb => copied_any (Hr2.out.still hb) (by omega) (by omega)
  by_cases hroom : (X.e s).sent < (X.e s).o.p + (X.m s).room
  · have HPu : Hid (∀ D w3 (y1 : Bn), Below wc.heap.size wc D → Below D.heap.size D w3 → y1.bs = b2 → y1.Ok w3 D.heap.size → Calls Try.prog 28 #[.pointer (some ⟨(X.m s).b, 0, none⟩), .int .i64 (2 + 3 * (1 - (s : Int))), .slice (some ⟨y1.k, 0, none⟩) b2.length y1.c] w3 fun e w' => e = .returned (.int .i64 0) ∧ PushO w3 w' B (X.m s) 0 (X.e s) b2) := fun D w3 y1 hbD hb3 hy hok => by
      have h3 := HXc.out.still (bstep hbD hb3)
      have e1 := hok.rd
      rw [hy] at e1
      exact push_ok (h3.mo s hs) (by have := (bstep hbD hb3).size; have := HBc.out.size; have := HBs.out; omega) (qat h3 hs) e1 (inR_t (by omega) (by omega)) (by omega) (by omega)
    have hrm1 : decide ((0 : Int) < rm) = true := by rw [decide_eq_true_eq]; omega
    have Hroom : Hid ((X.e s).sent < (X.e s).o.p + (X.m s).room) := hroom
    clear hEc HIs hrn hrv hrm hXc
    go_wp2_with (first | (go_at_call 15; refine (pid_any j1 j2).mono ?_; rintro e w' ⟨rfl, rfl⟩) | (go_at_call 19; refine HRoom.out.mono ?_) | fail)
    rintro e w2 ⟨rfl, hbc2⟩
    have m2 := below_at hbc2 cm
    have HB2 : Hid (Below wc.heap.size wc w2) := hbc2
    clear hbc2 cm HRoom
    go_wp2
    refine wp_region_held_drew (S := (fun w' => w'.cell? ⟨X.b, s, none⟩ = some (.pointer (some ⟨(X.m s).b, 0, none⟩)))) (by kernel_rfl) (below_at (drew_bel _) m2) (fun hHeld => ?_)
    simp only [Act.put, List.size_toArray, List.length_cons, List.length_nil, Nat.zero_add]
    refine wpAnyH_take (i := 0) (v := .pointer (some ⟨X.b, 0, none⟩)) rfl (by kernel_rfl) (by kernel_rfl) (by kernel_rfl) (fun _ _ _ h => h) (Or.inl ⟨by rfl, fun w' hS => by go_simp⟩) hHeld ?_
    simp only [Act.put, List.getElem_toArray, List.getElem_cons_zero, List.getElem_cons_succ, List.setIfInBounds_toArray, List.set_cons_zero, List.set_cons_succ]
    refine wpAnyH_take (i := 1) (v := .int .i64 (s : Int)) rfl (by kernel_rfl) (by kernel_rfl) (by kernel_rfl) (fun _ _ _ h => h) (Or.inl ⟨by rfl, fun w' hS => by go_simp⟩) hHeld ?_
    simp only [Act.put, List.getElem_toArray, List.getElem_cons_zero, List.getElem_cons_succ, List.setIfInBounds_toArray, List.set_cons_zero, List.set_cons_succ]
    refine wpAnyH_take (i := 2) (v := .pointer (some ⟨X.b, 0, none⟩)) rfl (by kernel_rfl) (by kernel_rfl) (by kernel_rfl) (fun _ _ _ h => h) (Or.inl ⟨by rfl, fun w' hS => by go_simp⟩) hHeld ?_
    simp only [Act.put, List.getElem_toArray, List.getElem_cons_zero, List.getElem_cons_succ, List.setIfInBounds_toArray, List.set_cons_zero, List.set_cons_succ]
    refine wpAnyH_take (i := 3) (v := .pointer (some ⟨X.b, 0, none⟩)) rfl (by kernel_rfl) (by kernel_rfl) (by kernel_rfl) (fun _ _ _ h => h) (Or.inl ⟨by rfl, fun w' hS => by go_simp⟩) hHeld ?_
    simp only [Act.put, List.getElem_toArray, List.getElem_cons_zero, List.getElem_cons_succ, List.setIfInBounds_toArray, List.set_cons_zero, List.set_cons_succ]
    refine wpAnyH_take (i := 4) (v := .pointer (some ⟨X.b, s, none⟩)) rfl (by kernel_rfl) (by kernel_rfl) (by kernel_rfl) (fun _ _ _ h => h) (Or.inl ⟨by rfl, fun w' hS => by go_simp⟩) hHeld ?_
    simp only [Act.put, List.getElem_toArray, List.getElem_cons_zero, List.getElem_cons_succ, List.setIfInBounds_toArray, List.set_cons_zero, List.set_cons_succ]
    refine wpAnyH_take (i := 5) (v := .pointer (some ⟨(X.m s).b, 0, none⟩)) rfl (by kernel_rfl) (by kernel_rfl) (by kernel_rfl) (fun _ _ _ h => h) (Or.inl ⟨by rfl, fun w' hS => by (have s0 := hS; go_simp)⟩) hHeld ?_
    simp only [Act.put, List.getElem_toArray, List.getElem_cons_zero, List.getElem_cons_succ, List.setIfInBounds_toArray, List.set_cons_zero, List.set_cons_succ]
    refine wpAnyH_take (i := 6) (v := .int .i64 (2 + 3 * (1 - (s : Int)))) rfl (by kernel_rfl) (by kernel_rfl) (by kernel_rfl) (fun _ _ _ h => h) (Or.inl ⟨by rfl, fun w' hS => by go_simp⟩) hHeld ?_
    simp only [Act.put, List.getElem_toArray, List.getElem_cons_zero, List.getElem_cons_succ, List.setIfInBounds_toArray, List.set_cons_zero, List.set_cons_succ]
    refine wpAnyH_take (i := 7) (v := .slice a2 b2.length c2) rfl (by kernel_rfl) (by kernel_rfl) (by kernel_rfl) (fun _ _ _ h => h) (Or.inl ⟨by rfl, fun w' hS => by go_simp⟩) hHeld ?_
    simp only [Act.put, List.getElem_toArray, List.getElem_cons_zero, List.getElem_cons_succ, List.setIfInBounds_toArray, List.set_cons_zero, List.set_cons_succ]
    have hbD : Below w2.heap.size w2 w2.drew := drew_bel w2
    have q2 := below_at hbD m2
    generalize w2.drew = D at *
    refine wpAnyH_ready (rs := [8]) (by kernel_rfl) (by simp) ?_
    refine AllReadyH.cons rfl (fun K hK => ?_) AllReadyH.nil
    go_simp
    refine (HC.out D (bstep HB2.out hbD)).mono ?_
    rintro e w3 ⟨⟨y1, rfl, hy1, hok1⟩, hb3⟩
    unfold Bn.v
    rw [hy1]
    refine hK.out _ _ (below_at hb3 q2) (fun hHeld => ?_)
    clear hK K
    refine wpAnyH_ready (rs := [9]) (by kernel_rfl) (by simp) ?_
    refine AllReadyH.cons rfl (fun K hK => ?_) AllReadyH.nil
    go_simp
    refine (HPu.out D w3 y1 (bstep HB2.out hbD) hb3 hy1 hok1).mono ?_
    rintro e w4 ⟨rfl, ⟨e1, hst1, hpu1⟩⟩
    have hX3 := HXc.out.still (bstep (bstep HB2.out hbD) hb3)
    have hx1 := hX3.mux hs hst1
    refine hK.out _ _ (show w4.cell? ⟨X.b, s, none⟩ = _ from by have e2 := hx1.ok.cm hs; rw [setE_b] at e2; exact e2) (fun hHeld => ?_)
    clear hK K
    refine wpAnyH_ready (rs := [10]) (by kernel_rfl) (by simp) ?_
    refine AllReadyH.cons rfl (fun K hK => ?_) AllReadyH.nil
    go_simp
    refine (num_any 0).mono ?_
    rintro e w5 ⟨rfl, rfl⟩
    refine hK.out _ _ (show w4.cell? ⟨X.b, s, none⟩ = _ from by have e2 := hx1.ok.cm hs; rw [setE_b] at e2; exact e2) (fun hHeld => ?_)
    clear hK K
    refine wpAnyH_take (i := 11) (v := .int .i64 0) rfl (by kernel_rfl) (by kernel_rfl) (by kernel_rfl) (fun _ _ _ h => h) (Or.inl ⟨by rfl, fun w' hS => by go_simp⟩) hHeld ?_
    simp only [Act.put, List.getElem_toArray, List.getElem_cons_zero, List.getElem_cons_succ, List.setIfInBounds_toArray, List.set_cons_zero, List.set_cons_succ]
    refine wpAnyH_done (by kernel_rfl) ?_ _
    clear hHeld
    have HB03 : Hid (Below w.heap.size w w3) := (show Below _ _ _ from bstep (bstep HBc.out (bstep HB2.out hbD)) hb3)
    have HB3 : Hid (B ≤ w3.heap.size) := (show B ≤ w3.heap.size from Nat.le_trans HBs.out HB03.out.size)
    have HC9 : Hid (∀ D, Xstep w3 D X (X.setE s e1) B → Calls Try.prog 29 #[.slice a2 b2.length c2] D fun e w' => CpO D w' b2 e) := fun D st => copied_any (rd_keep_x (Hr2.out.still (bstep (bstep HB2.out hbD) hb3)) Hap2.out st) (by omega) (by omega)
    have HPe : Hid (X.pu.push s b2 = { X.pu with E := upd X.pu.E s ((X.pu.E s).push b2), p := upd X.pu.p s (X.pu.p s ++ [b2]) }) := (show _ = _ from by rw [HP.out, if_pos (by rw [← Hsp.out]; exact Hroom.out)])
    clear hX3 hok1 hb3 hbD HC HPu HP hst1 q2
    go_wp2
    refine wp_region_held_drew (S := (fun w' => True)) (by kernel_rfl) trivial (fun hHeld => ?_)
    simp only [Act.put, List.size_toArray, List.length_cons, List.length_nil, Nat.zero_add]
    refine wpAnyH_take (i := 0) (v := .pointer (some ⟨X.b, 0, none⟩)) rfl (by kernel_rfl) (by kernel_rfl) (by kernel_rfl) (fun _ _ _ h => h) (Or.inl ⟨by rfl, fun w' hS => by go_simp⟩) hHeld ?_
    simp only [Act.put, List.getElem_toArray, List.getElem_cons_zero, List.getElem_cons_succ, List.setIfInBounds_toArray, List.set_cons_zero, List.set_cons_succ]
    refine wpAnyH_take (i := 1) (v := .int .i64 (s : Int)) rfl (by kernel_rfl) (by kernel_rfl) (by kernel_rfl) (fun _ _ _ h => h) (Or.inl ⟨by rfl, fun w' hS => by go_simp⟩) hHeld ?_
    simp only [Act.put, List.getElem_toArray, List.getElem_cons_zero, List.getElem_cons_succ, List.setIfInBounds_toArray, List.set_cons_zero, List.set_cons_succ]
    refine wpAnyH_take (i := 2) (v := .pointer (some ⟨X.b, 0, none⟩)) rfl (by kernel_rfl) (by kernel_rfl) (by kernel_rfl) (fun _ _ _ h => h) (Or.inl ⟨by rfl, fun w' hS => by go_simp⟩) hHeld ?_
    simp only [Act.put, List.getElem_toArray, List.getElem_cons_zero, List.getElem_cons_succ, List.setIfInBounds_toArray, List.set_cons_zero, List.set_cons_succ]
    refine wpAnyH_take (i := 3) (v := .int .i64 (s : Int)) rfl (by kernel_rfl) (by kernel_rfl) (by kernel_rfl) (fun _ _ _ h => h) (Or.inl ⟨by rfl, fun w' hS => by go_simp⟩) hHeld ?_
    simp only [Act.put, List.getElem_toArray, List.getElem_cons_zero, List.getElem_cons_succ, List.setIfInBounds_toArray, List.set_cons_zero, List.set_cons_succ]
    refine wpAnyH_take (i := 4) (v := .pointer (some ⟨X.b, 0, none⟩)) rfl (by kernel_rfl) (by kernel_rfl) (by kernel_rfl) (fun _ _ _ h => h) (Or.inl ⟨by rfl, fun w' hS => by go_simp⟩) hHeld ?_
    simp only [Act.put, List.getElem_toArray, List.getElem_cons_zero, List.getElem_cons_succ, List.setIfInBounds_toArray, List.set_cons_zero, List.set_cons_succ]
    refine wpAnyH_take (i := 5) (v := .pointer (some ⟨X.b, 4, none⟩)) rfl (by kernel_rfl) (by kernel_rfl) (by kernel_rfl) (fun _ _ _ h => h) (Or.inl ⟨by rfl, fun w' hS => by go_simp⟩) hHeld ?_
    simp only [Act.put, List.getElem_toArray, List.getElem_cons_zero, List.getElem_cons_succ, List.setIfInBounds_toArray, List.set_cons_zero, List.set_cons_succ]
    refine wpAnyH_take (i := 6) (v := .pointer (some ⟨X.b, 4 + s, none⟩)) rfl (by kernel_rfl) (by kernel_rfl) (by kernel_rfl) (fun _ _ _ h => h) (Or.inl ⟨by rfl, fun w' hS => by go_simp⟩) hHeld ?_
    simp only [Act.put, List.getElem_toArray, List.getElem_cons_zero, List.getElem_cons_succ, List.setIfInBounds_toArray, List.set_cons_zero, List.set_cons_succ]
    refine wpAnyH_take (i := 8) (v := .slice a2 b2.length c2) rfl (by kernel_rfl) (by kernel_rfl) (by kernel_rfl) (fun _ _ _ h => h) (Or.inl ⟨by rfl, fun w' hS => by go_simp⟩) hHeld ?_
    simp only [Act.put, List.getElem_toArray, List.getElem_cons_zero, List.getElem_cons_succ, List.setIfInBounds_toArray, List.set_cons_zero, List.set_cons_succ]
    refine wpAnyH_take (i := 12) (v := .pointer (some ⟨X.b, 0, none⟩)) rfl (by kernel_rfl) (by kernel_rfl) (by kernel_rfl) (fun _ _ _ h => h) (Or.inl ⟨by rfl, fun w' hS => by go_simp⟩) hHeld ?_
    simp only [Act.put, List.getElem_toArray, List.getElem_cons_zero, List.getElem_cons_succ, List.setIfInBounds_toArray, List.set_cons_zero, List.set_cons_succ]
    refine wpAnyH_take (i := 13) (v := .pointer (some ⟨X.b, 4, none⟩)) rfl (by kernel_rfl) (by kernel_rfl) (by kernel_rfl) (fun _ _ _ h => h) (Or.inl ⟨by rfl, fun w' hS => by go_simp⟩) hHeld ?_
    simp only [Act.put, List.getElem_toArray, List.getElem_cons_zero, List.getElem_cons_succ, List.setIfInBounds_toArray, List.set_cons_zero, List.set_cons_succ]
    have hbD : Below w4.heap.size w4 w4.drew := drew_bel w4
    have hx1D := hx1.post hbD
    have rv := hx1D.ok.cr (i := 4 + s) (by omega) (by omega)
    have rv1 : w4.drew.cell? ⟨X.b, 4 + s, none⟩ = some (.slice ra rn rc) := by rw [← Hrv.out]; exact rv
    clear rv
    generalize w4.drew = D9 at *
    refine wpAnyH_ready (rs := [7, 9]) (by kernel_rfl) (by simp) ?_
    refine AllReadyH.cons rfl (fun K hK => ?_) (AllReadyH.cons rfl (fun K hK => ?_) AllReadyH.nil)
    · go_simp
      refine hK.out _ _ trivial (fun hHeld => ?_)
      clear hK K
      refine wpAnyH_ready (rs := [9]) (by kernel_rfl) (by simp) ?_
      refine AllReadyH.cons rfl (fun K hK => ?_) AllReadyH.nil
      go_simp
      refine (HC9.out D9 hx1D).mono ?_
      rintro e w5 ⟨⟨y2, rfl, hy2, hok2⟩, hb5⟩
      refine hK.out _ _ trivial (fun hHeld => ?_)
      clear hK K
      refine wpAnyH_ready (rs := [10]) (by kernel_rfl) (by simp) ?_
      refine AllReadyH.cons rfl (fun K hK => ?_) AllReadyH.nil
      unfold Bn.v
      go_simp
      refine hK.out _ _ trivial (fun hHeld => ?_)
      clear hK K
      refine wpAnyH_ready (rs := [11]) (by kernel_rfl) (by simp) ?_
      refine AllReadyH.cons rfl (fun K hK => ?_) AllReadyH.nil
      have hx5 := hx1D.ok.still hb5
      refine step_push rfl (.tmp 50) (.tmp 53) rfl w5 B (.slice ra rn rc) ((X.p s).map Bn.v) (.slice (some ⟨y2.k, 0, none⟩) b2.length y2.c) rfl rn (show w5.ownsRow B 25 1 (.slice ra rn rc) rn _ from by have e2 := hx5.rowp hs; rw [show (X.setE s e1).v (4 + s) = .slice ra rn rc from Hrv.out, show ((X.setE s e1).p s).length = rn from Hrn.out] at e2; exact e2) rfl rfl rfl (by omega) (Nat.le_trans HB3.out (Nat.le_trans hx1D.kept.size hb5.size)) (fun g cap w6 ho6 hk6 hg6 _ => ?_)
      have hx2 := addP_step (y := y2) hx1D.ok hs hb5 hok2 (Nat.le_trans HB3.out hx1D.kept.size) (n := rn) Hrn.out.symm (show w6.ownsRow _ _ _ _ _ _ from by unfold Bn.v; rw [hy2]; exact ho6) (by rw [show (X.setE s e1).v (4 + s) = .slice ra rn rc from Hrv.out]; exact hk6) (by rw [show (X.setE s e1).v (4 + s) = .slice ra rn rc from Hrv.out]; exact hg6)
      have hne6 : ¬ (Value.slice ra rn rc).ownBlock = some X.b := fun e => hx5.row_b (i := 4 + s) (by omega) (by omega) (by rw [show (X.setE s e1).v (4 + s) = .slice ra rn rc from Hrv.out]; exact e) rfl
      have hov : w6.cell? ⟨X.b, 4 + s, none⟩ = some (.slice ra rn rc) := kept_cell hk6 hne6 (by have e2 := hx5.cr (i := 4 + s) (by omega) (by omega); rw [show (X.setE s e1).v (4 + s) = .slice ra rn rc from Hrv.out] at e2; exact e2)
      have fv := frozen_of_row w6 X.b (4 + s) _ _ (hk6.obj hx5.blk hne6)
      refine hK.out _ _ trivial (fun hHeld => ?_)
      clear hK K
      simp only [Act.put, List.getElem_toArray, List.getElem_cons_zero, List.getElem_cons_succ, List.setIfInBounds_toArray, List.set_cons_zero, List.set_cons_succ]
      refine wpAnyH_take (i := 14) (v := .pointer (some ⟨X.b, 4 + s, none⟩)) rfl (by kernel_rfl) (by kernel_rfl) (by kernel_rfl) (fun _ _ _ h => h) (Or.inl ⟨by rfl, fun w' hS => by go_simp⟩) hHeld ?_
      simp only [Act.put, List.getElem_toArray, List.getElem_cons_zero, List.getElem_cons_succ, List.setIfInBounds_toArray, List.set_cons_zero, List.set_cons_succ]
      refine wpAnyH_ready (rs := [15]) (by kernel_rfl) (by simp) ?_
      refine AllReadyH.cons rfl (fun K hK => ?_) AllReadyH.nil
      go_simp
      refine hK.out _ _ trivial (fun hHeld => ?_)
      clear hK K
      refine wpAnyH_done (by kernel_rfl) ?_ _
      clear hHeld
      try simp only [Act.put]
      change Xstep D9 (w6.setCell ⟨X.b, 4 + s, none⟩ (.slice (some ⟨g, 0, none⟩) (rn + 1) cap)) (X.setE s e1) ((X.setE s e1).addP s (.slice (some ⟨g, 0, none⟩) (rn + 1) cap) y2) B at hx2
      generalize hw7 : w6.setCell ⟨X.b, 4 + s, none⟩ (.slice (some ⟨g, 0, none⟩) (rn + 1) cap) = w7 at *
      have hk7 := hx2.ok
      have hms : (((X.setE s e1).addP s (.slice (some ⟨g, 0, none⟩) (rn + 1) cap) y2).m s) = (X.m s).put (pid (1 - s)) e1 := upd_same _ _ _
      have hes : (((X.setE s e1).addP s (.slice (some ⟨g, 0, none⟩) (rn + 1) cap) y2).e s) = e1 := upd_same _ _ _
      have u0 : w7.cell? ⟨X.b, s, none⟩ = some (.pointer (some ⟨(X.m s).b, 0, none⟩)) := by have e2 := hk7.cm hs; rw [hms] at e2; exact e2
      have u1 : w7.cell? ⟨X.b, 4 + s, none⟩ = some (.slice (some ⟨g, 0, none⟩) (rn + 1) cap) := (hk7.cr (i := 4 + s) (by omega) (by omega)).trans (by show some (upd _ _ _ _) = _; rw [upd_same])
      have HRm : Hid (∀ w8, Below w7.heap.size w7 w8 → Calls Try.prog 19 #[.pointer (some ⟨(X.m s).b, 0, none⟩), .int .i64 (2 + 3 * (1 - (s : Int)))] w8 fun e w' => e = .returned (.int .i64 (rm - 1)) ∧ Below w8.heap.size w8 w') := fun w8 hb => by
        have e2 := room_yes ((hk7.still hb).mo s hs) (qat (hk7.still hb) hs)
        rw [hms, hes] at e2
        have e3 : (((X.m s).put (pid (1 - s)) e1).room : Int) - ((e1.sent : Int) - (e1.o.p : Int)) = rm - 1 := by
          have e4 : e1.sent = (X.e s).sent + 1 := congrArg Ep.sent hpu1
          have e5 : e1.o.p = (X.e s).o.p := congrArg Ep.op hpu1
          rw [e4, e5, ← Hrm.out]
          show ((X.m s).room : Int) - _ = _
          omega
        rw [e3] at e2
        exact e2
      have HSn : Hid (∀ w8, Below w7.heap.size w7 w8 → Calls Try.prog 23 #[.pointer (some ⟨(X.m s).b, 0, none⟩), .int .i64 (2 + 3 * (1 - (s : Int)))] w8 fun e w' => e = .returned (.int .i64 ((rn : Int) + 1)) ∧ w8 = w') := fun w8 hb => by
        have e2 := sent_yes ((hk7.still hb).mo s hs) (qat (hk7.still hb) hs)
        rw [hms, hes] at e2
        have e3 : (e1.sent : Int) = (rn : Int) + 1 := by
          have e4 : e1.sent = (X.e s).sent + 1 := congrArg Ep.sent hpu1
          rw [e4, Hsn.out]
          omega
        rw [e3] at e2
        exact e2
      have HX : Hid (∀ w8, Below w7.heap.size w7 w8 → XO w w8 X B (X.pu.push s b2) (.returned (.bool true))) := fun w8 hb8 => ⟨rfl, _, (((Xstep.below Hh.out HB03.out).trans hx1D).trans hx2).post hb8, by rw [addP_pu, setE_pu, hpu1, hy2, HPe.out]; rfl⟩
      clear hx2 hk7 ho6 hk6 hg6 hov fv hne6 hms hes
      go_wp2
      refine wp_region_held_drew (S := (fun w' => w'.cell? ⟨X.b, s, none⟩ = some (.pointer (some ⟨(X.m s).b, 0, none⟩)) ∧ w'.cell? ⟨X.b, 4 + s, none⟩ = some (.slice (some ⟨g, 0, none⟩) (rn + 1) cap))) (by kernel_rfl) ⟨below_at (drew_bel _) u0, below_at (drew_bel _) u1⟩ (fun hHeld => ?_)
      simp only [Act.put, List.size_toArray, List.length_cons, List.length_nil, Nat.zero_add]
      refine wpAnyH_take (i := 0) (v := .int .i64 0) rfl (by kernel_rfl) (by kernel_rfl) (by kernel_rfl) (fun _ _ _ h => h) (Or.inl ⟨by rfl, fun w' hS => by go_simp⟩) hHeld ?_
      simp only [Act.put, List.getElem_toArray, List.getElem_cons_zero, List.getElem_cons_succ, List.setIfInBounds_toArray, List.set_cons_zero, List.set_cons_succ]
      refine wpAnyH_take (i := 1) (v := .bool true) rfl (by kernel_rfl) (by kernel_rfl) (by kernel_rfl) (fun _ _ _ h => h) (Or.inl ⟨by rfl, fun w' hS => by go_simp⟩) hHeld ?_
      simp only [Act.put, List.getElem_toArray, List.getElem_cons_zero, List.getElem_cons_succ, List.setIfInBounds_toArray, List.set_cons_zero, List.set_cons_succ]
      refine wpAnyH_take (i := 2) (v := .bool true) rfl (by kernel_rfl) (by kernel_rfl) (by kernel_rfl) (fun _ _ _ h => h) (Or.inl ⟨by rfl, fun w' hS => by go_simp⟩) hHeld ?_
      simp only [Act.put, List.getElem_toArray, List.getElem_cons_zero, List.getElem_cons_succ, List.setIfInBounds_toArray, List.set_cons_zero, List.set_cons_succ]
      refine wpAnyH_take (i := 3) (v := .pointer (some ⟨X.b, 0, none⟩)) rfl (by kernel_rfl) (by kernel_rfl) (by kernel_rfl) (fun _ _ _ h => h) (Or.inl ⟨by rfl, fun w' hS => by go_simp⟩) hHeld ?_
      simp only [Act.put, List.getElem_toArray, List.getElem_cons_zero, List.getElem_cons_succ, List.setIfInBounds_toArray, List.set_cons_zero, List.set_cons_succ]
      refine wpAnyH_take (i := 4) (v := .int .i64 (s : Int)) rfl (by kernel_rfl) (by kernel_rfl) (by kernel_rfl) (fun _ _ _ h => h) (Or.inl ⟨by rfl, fun w' hS => by go_simp⟩) hHeld ?_
      simp only [Act.put, List.getElem_toArray, List.getElem_cons_zero, List.getElem_cons_succ, List.setIfInBounds_toArray, List.set_cons_zero, List.set_cons_succ]
      refine wpAnyH_take (i := 5) (v := .pointer (some ⟨X.b, 0, none⟩)) rfl (by kernel_rfl) (by kernel_rfl) (by kernel_rfl) (fun _ _ _ h => h) (Or.inl ⟨by rfl, fun w' hS => by go_simp⟩) hHeld ?_
      simp only [Act.put, List.getElem_toArray, List.getElem_cons_zero, List.getElem_cons_succ, List.setIfInBounds_toArray, List.set_cons_zero, List.set_cons_succ]
      refine wpAnyH_take (i := 6) (v := .pointer (some ⟨X.b, 0, none⟩)) rfl (by kernel_rfl) (by kernel_rfl) (by kernel_rfl) (fun _ _ _ h => h) (Or.inl ⟨by rfl, fun w' hS => by go_simp⟩) hHeld ?_
      simp only [Act.put, List.getElem_toArray, List.getElem_cons_zero, List.getElem_cons_succ, List.setIfInBounds_toArray, List.set_cons_zero, List.set_cons_succ]
      refine wpAnyH_take (i := 7) (v := .pointer (some ⟨X.b, s, none⟩)) rfl (by kernel_rfl) (by kernel_rfl) (by kernel_rfl) (fun _ _ _ h => h) (Or.inl ⟨by rfl, fun w' hS => by go_simp⟩) hHeld ?_
      simp only [Act.put, List.getElem_toArray, List.getElem_cons_zero, List.getElem_cons_succ, List.setIfInBounds_toArray, List.set_cons_zero, List.set_cons_succ]
      refine wpAnyH_take (i := 8) (v := .pointer (some ⟨(X.m s).b, 0, none⟩)) rfl (by kernel_rfl) (by kernel_rfl) (by kernel_rfl) (fun _ _ _ h => h) (Or.inl ⟨by rfl, fun w' hS => by (obtain ⟨s0, s1⟩ := hS; go_simp)⟩) hHeld ?_
      simp only [Act.put, List.getElem_toArray, List.getElem_cons_zero, List.getElem_cons_succ, List.setIfInBounds_toArray, List.set_cons_zero, List.set_cons_succ]
      refine wpAnyH_take (i := 9) (v := .int .i64 (2 + 3 * (1 - (s : Int)))) rfl (by kernel_rfl) (by kernel_rfl) (by kernel_rfl) (fun _ _ _ h => h) (Or.inl ⟨by rfl, fun w' hS => by go_simp⟩) hHeld ?_
      simp only [Act.put, List.getElem_toArray, List.getElem_cons_zero, List.getElem_cons_succ, List.setIfInBounds_toArray, List.set_cons_zero, List.set_cons_succ]
      refine wpAnyH_take (i := 11) (v := .int .i64 rm) rfl (by kernel_rfl) (by kernel_rfl) (by kernel_rfl) (fun _ _ _ h => h) (Or.inl ⟨by rfl, fun w' hS => by go_simp⟩) hHeld ?_
      simp only [Act.put, List.getElem_toArray, List.getElem_cons_zero, List.getElem_cons_succ, List.setIfInBounds_toArray, List.set_cons_zero, List.set_cons_succ]
      refine wpAnyH_take (i := 12) (v := .int .i64 (rm - 1)) rfl (by kernel_rfl) (by kernel_rfl) (by kernel_rfl) (fun _ _ _ h => h) (Or.inl ⟨by rfl, fun w' hS => by (go_simp <;> exact wrap_id (by omega) (by omega))⟩) hHeld ?_
      simp only [Act.put, List.getElem_toArray, List.getElem_cons_zero, List.getElem_cons_succ, List.setIfInBounds_toArray, List.set_cons_zero, List.set_cons_succ]
      refine wpAnyH_ready (rs := [10]) (by kernel_rfl) (by simp) ?_
      refine AllReadyH.cons rfl (fun K hK => ?_) AllReadyH.nil
      go_simp
      refine (HRm.out _ (drew_bel _)).mono ?_
      rintro e w8 ⟨rfl, hb8⟩
      refine hK.out _ _ ⟨below_at hb8 (below_at (drew_bel _) u0), below_at hb8 (below_at (drew_bel _) u1)⟩ (fun hHeld => ?_)
      clear hK K
      refine wpAnyH_take (i := 13) (v := .bool true) rfl (by kernel_rfl) (by kernel_rfl) (by kernel_rfl) (fun _ _ _ h => h) (Or.inl ⟨by rfl, fun w' hS => by (go_simp <;> omega)⟩) hHeld ?_
      simp only [Act.put, List.getElem_toArray, List.getElem_cons_zero, List.getElem_cons_succ, List.setIfInBounds_toArray, List.set_cons_zero, List.set_cons_succ]
      refine wpAnyH_take (i := 14) (v := .bool true) rfl (by kernel_rfl) (by kernel_rfl) (by kernel_rfl) (fun _ _ _ h => h) (Or.inl ⟨by rfl, fun w' hS => by go_simp⟩) hHeld ?_
      simp only [Act.put, List.getElem_toArray, List.getElem_cons_zero, List.getElem_cons_succ, List.setIfInBounds_toArray, List.set_cons_zero, List.set_cons_succ]
      refine wpAnyH_take (i := 15) (v := .bool true) rfl (by kernel_rfl) (by kernel_rfl) (by kernel_rfl) (fun _ _ _ h => h) (Or.inl ⟨by rfl, fun w' hS => by go_simp⟩) hHeld ?_
      simp only [Act.put, List.getElem_toArray, List.getElem_cons_zero, List.getElem_cons_succ, List.setIfInBounds_toArray, List.set_cons_zero, List.set_cons_succ]
      refine wpAnyH_take (i := 16) (v := .pointer (some ⟨X.b, 0, none⟩)) rfl (by kernel_rfl) (by kernel_rfl) (by kernel_rfl) (fun _ _ _ h => h) (Or.inl ⟨by rfl, fun w' hS => by go_simp⟩) hHeld ?_
      simp only [Act.put, List.getElem_toArray, List.getElem_cons_zero, List.getElem_cons_succ, List.setIfInBounds_toArray, List.set_cons_zero, List.set_cons_succ]
      refine wpAnyH_take (i := 17) (v := .int .i64 (s : Int)) rfl (by kernel_rfl) (by kernel_rfl) (by kernel_rfl) (fun _ _ _ h => h) (Or.inl ⟨by rfl, fun w' hS => by go_simp⟩) hHeld ?_
      simp only [Act.put, List.getElem_toArray, List.getElem_cons_zero, List.getElem_cons_succ, List.setIfInBounds_toArray, List.set_cons_zero, List.set_cons_succ]
      refine wpAnyH_take (i := 18) (v := .pointer (some ⟨X.b, 0, none⟩)) rfl (by kernel_rfl) (by kernel_rfl) (by kernel_rfl) (fun _ _ _ h => h) (Or.inl ⟨by rfl, fun w' hS => by go_simp⟩) hHeld ?_
      simp only [Act.put, List.getElem_toArray, List.getElem_cons_zero, List.getElem_cons_succ, List.setIfInBounds_toArray, List.set_cons_zero, List.set_cons_succ]
      refine wpAnyH_take (i := 19) (v := .pointer (some ⟨X.b, 0, none⟩)) rfl (by kernel_rfl) (by kernel_rfl) (by kernel_rfl) (fun _ _ _ h => h) (Or.inl ⟨by rfl, fun w' hS => by go_simp⟩) hHeld ?_
      simp only [Act.put, List.getElem_toArray, List.getElem_cons_zero, List.getElem_cons_succ, List.setIfInBounds_toArray, List.set_cons_zero, List.set_cons_succ]
      refine wpAnyH_take (i := 20) (v := .pointer (some ⟨X.b, s, none⟩)) rfl (by kernel_rfl) (by kernel_rfl) (by kernel_rfl) (fun _ _ _ h => h) (Or.inl ⟨by rfl, fun w' hS => by go_simp⟩) hHeld ?_
      simp only [Act.put, List.getElem_toArray, List.getElem_cons_zero, List.getElem_cons_succ, List.setIfInBounds_toArray, List.set_cons_zero, List.set_cons_succ]
      refine wpAnyH_take (i := 21) (v := .pointer (some ⟨(X.m s).b, 0, none⟩)) rfl (by kernel_rfl) (by kernel_rfl) (by kernel_rfl) (fun _ _ _ h => h) (Or.inl ⟨by rfl, fun w' hS => by (obtain ⟨s0, s1⟩ := hS; go_simp)⟩) hHeld ?_
      simp only [Act.put, List.getElem_toArray, List.getElem_cons_zero, List.getElem_cons_succ, List.setIfInBounds_toArray, List.set_cons_zero, List.set_cons_succ]
      refine wpAnyH_take (i := 22) (v := .int .i64 (2 + 3 * (1 - (s : Int)))) rfl (by kernel_rfl) (by kernel_rfl) (by kernel_rfl) (fun _ _ _ h => h) (Or.inl ⟨by rfl, fun w' hS => by go_simp⟩) hHeld ?_
      simp only [Act.put, List.getElem_toArray, List.getElem_cons_zero, List.getElem_cons_succ, List.setIfInBounds_toArray, List.set_cons_zero, List.set_cons_succ]
      refine wpAnyH_take (i := 24) (v := .pointer (some ⟨X.b, 0, none⟩)) rfl (by kernel_rfl) (by kernel_rfl) (by kernel_rfl) (fun _ _ _ h => h) (Or.inl ⟨by rfl, fun w' hS => by go_simp⟩) hHeld ?_
      simp only [Act.put, List.getElem_toArray, List.getElem_cons_zero, List.getElem_cons_succ, List.setIfInBounds_toArray, List.set_cons_zero, List.set_cons_succ]
      refine wpAnyH_take (i := 25) (v := .int .i64 (s : Int)) rfl (by kernel_rfl) (by kernel_rfl) (by kernel_rfl) (fun _ _ _ h => h) (Or.inl ⟨by rfl, fun w' hS => by go_simp⟩) hHeld ?_
      simp only [Act.put, List.getElem_toArray, List.getElem_cons_zero, List.getElem_cons_succ, List.setIfInBounds_toArray, List.set_cons_zero, List.set_cons_succ]
      refine wpAnyH_take (i := 26) (v := .pointer (some ⟨X.b, 0, none⟩)) rfl (by kernel_rfl) (by kernel_rfl) (by kernel_rfl) (fun _ _ _ h => h) (Or.inl ⟨by rfl, fun w' hS => by go_simp⟩) hHeld ?_
      simp only [Act.put, List.getElem_toArray, List.getElem_cons_zero, List.getElem_cons_succ, List.setIfInBounds_toArray, List.set_cons_zero, List.set_cons_succ]
      refine wpAnyH_take (i := 27) (v := .pointer (some ⟨X.b, 4, none⟩)) rfl (by kernel_rfl) (by kernel_rfl) (by kernel_rfl) (fun _ _ _ h => h) (Or.inl ⟨by rfl, fun w' hS => by go_simp⟩) hHeld ?_
      simp only [Act.put, List.getElem_toArray, List.getElem_cons_zero, List.getElem_cons_succ, List.setIfInBounds_toArray, List.set_cons_zero, List.set_cons_succ]
      refine wpAnyH_take (i := 28) (v := .pointer (some ⟨X.b, 4 + s, none⟩)) rfl (by kernel_rfl) (by kernel_rfl) (by kernel_rfl) (fun _ _ _ h => h) (Or.inl ⟨by rfl, fun w' hS => by go_simp⟩) hHeld ?_
      simp only [Act.put, List.getElem_toArray, List.getElem_cons_zero, List.getElem_cons_succ, List.setIfInBounds_toArray, List.set_cons_zero, List.set_cons_succ]
      refine wpAnyH_take (i := 29) (v := .slice (some ⟨g, 0, none⟩) (rn + 1) cap) rfl (by kernel_rfl) (by kernel_rfl) (by kernel_rfl) (fun _ _ _ h => h) (Or.inl ⟨by rfl, fun w' hS => by (obtain ⟨s0, s1⟩ := hS; go_simp)⟩) hHeld ?_
      simp only [Act.put, List.getElem_toArray, List.getElem_cons_zero, List.getElem_cons_succ, List.setIfInBounds_toArray, List.set_cons_zero, List.set_cons_succ]
      refine wpAnyH_take (i := 30) (v := .int .i64 ((rn : Int) + 1)) rfl (by kernel_rfl) (by kernel_rfl) (by kernel_rfl) (fun _ _ _ h => h) (Or.inl ⟨by rfl, fun w' hS => by (go_simp <;> omega)⟩) hHeld ?_
      simp only [Act.put, List.getElem_toArray, List.getElem_cons_zero, List.getElem_cons_succ, List.setIfInBounds_toArray, List.set_cons_zero, List.set_cons_succ]
      refine wpAnyH_ready (rs := [23]) (by kernel_rfl) (by simp) ?_
      refine AllReadyH.cons rfl (fun K hK => ?_) AllReadyH.nil
      go_simp
      refine (HSn.out _ (bstep (drew_bel _) hb8)).mono ?_
      rintro e w9 ⟨rfl, rfl⟩
      refine hK.out _ _ ⟨below_at hb8 (below_at (drew_bel _) u0), below_at hb8 (below_at (drew_bel _) u1)⟩ (fun hHeld => ?_)
      clear hK K
      refine wpAnyH_take (i := 31) (v := .bool true) rfl (by kernel_rfl) (by kernel_rfl) (by kernel_rfl) (fun _ _ _ h => h) (Or.inl ⟨by rfl, fun w' hS => by (go_simp <;> omega)⟩) hHeld ?_
      simp only [Act.put, List.getElem_toArray, List.getElem_cons_zero, List.getElem_cons_succ, List.setIfInBounds_toArray, List.set_cons_zero, List.set_cons_succ]
      refine wpAnyH_take (i := 32) (v := .bool true) rfl (by kernel_rfl) (by kernel_rfl) (by kernel_rfl) (fun _ _ _ h => h) (Or.inl ⟨by rfl, fun w' hS => by go_simp⟩) hHeld ?_
      simp only [Act.put, List.getElem_toArray, List.getElem_cons_zero, List.getElem_cons_succ, List.setIfInBounds_toArray, List.set_cons_zero, List.set_cons_succ]
      refine wpAnyH_take (i := 33) (v := .bool true) rfl (by kernel_rfl) (by kernel_rfl) (by kernel_rfl) (fun _ _ _ h => h) (Or.inl ⟨by rfl, fun w' hS => by go_simp⟩) hHeld ?_
      simp only [Act.put, List.getElem_toArray, List.getElem_cons_zero, List.getElem_cons_succ, List.setIfInBounds_toArray, List.set_cons_zero, List.set_cons_succ]
      refine wpAnyH_done (by kernel_rfl) ?_ _
      clear hHeld
      go_wp2
      go_ret
      have HZ := HX.out _ (bstep (drew_bel _) hb8)
      rw [← Hb2.out] at HZ
      exact HZ
    · go_simp
      refine (HC9.out D9 hx1D).mono ?_
      rintro e w5 ⟨⟨y2, rfl, hy2, hok2⟩, hb5⟩
      refine hK.out _ _ trivial (fun hHeld => ?_)
      clear hK K
      have rv5 := below_at hb5 rv1
      refine wpAnyH_ready (rs := [7, 10]) (by kernel_rfl) (by simp) ?_
      refine AllReadyH.cons rfl (fun K hK => ?_) (AllReadyH.cons rfl (fun K hK => ?_) AllReadyH.nil)
      · go_simp
        refine hK.out _ _ trivial (fun hHeld => ?_)
        clear hK K
        refine wpAnyH_ready (rs := [10]) (by kernel_rfl) (by simp) ?_
        refine AllReadyH.cons rfl (fun K hK => ?_) AllReadyH.nil
        unfold Bn.v
        go_simp
        refine hK.out _ _ trivial (fun hHeld => ?_)
        clear hK K
        refine wpAnyH_ready (rs := [11]) (by kernel_rfl) (by simp) ?_
        refine AllReadyH.cons rfl (fun K hK => ?_) AllReadyH.nil
        have hx5 := hx1D.ok.still hb5
        refine step_push rfl (.tmp 50) (.tmp 53) rfl w5 B (.slice ra rn rc) ((X.p s).map Bn.v) (.slice (some ⟨y2.k, 0, none⟩) b2.length y2.c) rfl rn (show w5.ownsRow B 25 1 (.slice ra rn rc) rn _ from by have e2 := hx5.rowp hs; rw [show (X.setE s e1).v (4 + s) = .slice ra rn rc from Hrv.out, show ((X.setE s e1).p s).length = rn from Hrn.out] at e2; exact e2) rfl rfl rfl (by omega) (Nat.le_trans HB3.out (Nat.le_trans hx1D.kept.size hb5.size)) (fun g cap w6 ho6 hk6 hg6 _ => ?_)
        have hx2 := addP_step (y := y2) hx1D.ok hs hb5 hok2 (Nat.le_trans HB3.out hx1D.kept.size) (n := rn) Hrn.out.symm (show w6.ownsRow _ _ _ _ _ _ from by unfold Bn.v; rw [hy2]; exact ho6) (by rw [show (X.setE s e1).v (4 + s) = .slice ra rn rc from Hrv.out]; exact hk6) (by rw [show (X.setE s e1).v (4 + s) = .slice ra rn rc from Hrv.out]; exact hg6)
        have hne6 : ¬ (Value.slice ra rn rc).ownBlock = some X.b := fun e => hx5.row_b (i := 4 + s) (by omega) (by omega) (by rw [show (X.setE s e1).v (4 + s) = .slice ra rn rc from Hrv.out]; exact e) rfl
        have hov : w6.cell? ⟨X.b, 4 + s, none⟩ = some (.slice ra rn rc) := kept_cell hk6 hne6 (by have e2 := hx5.cr (i := 4 + s) (by omega) (by omega); rw [show (X.setE s e1).v (4 + s) = .slice ra rn rc from Hrv.out] at e2; exact e2)
        have fv := frozen_of_row w6 X.b (4 + s) _ _ (hk6.obj hx5.blk hne6)
        refine hK.out _ _ trivial (fun hHeld => ?_)
        clear hK K
        simp only [Act.put, List.getElem_toArray, List.getElem_cons_zero, List.getElem_cons_succ, List.setIfInBounds_toArray, List.set_cons_zero, List.set_cons_succ]
        refine wpAnyH_take (i := 14) (v := .pointer (some ⟨X.b, 4 + s, none⟩)) rfl (by kernel_rfl) (by kernel_rfl) (by kernel_rfl) (fun _ _ _ h => h) (Or.inl ⟨by rfl, fun w' hS => by go_simp⟩) hHeld ?_
        simp only [Act.put, List.getElem_toArray, List.getElem_cons_zero, List.getElem_cons_succ, List.setIfInBounds_toArray, List.set_cons_zero, List.set_cons_succ]
        refine wpAnyH_ready (rs := [15]) (by kernel_rfl) (by simp) ?_
        refine AllReadyH.cons rfl (fun K hK => ?_) AllReadyH.nil
        go_simp
        refine hK.out _ _ trivial (fun hHeld => ?_)
        clear hK K
        refine wpAnyH_done (by kernel_rfl) ?_ _
        clear hHeld
        try simp only [Act.put]
        change Xstep D9 (w6.setCell ⟨X.b, 4 + s, none⟩ (.slice (some ⟨g, 0, none⟩) (rn + 1) cap)) (X.setE s e1) ((X.setE s e1).addP s (.slice (some ⟨g, 0, none⟩) (rn + 1) cap) y2) B at hx2
        generalize hw7 : w6.setCell ⟨X.b, 4 + s, none⟩ (.slice (some ⟨g, 0, none⟩) (rn + 1) cap) = w7 at *
        have hk7 := hx2.ok
        have hms : (((X.setE s e1).addP s (.slice (some ⟨g, 0, none⟩) (rn + 1) cap) y2).m s) = (X.m s).put (pid (1 - s)) e1 := upd_same _ _ _
        have hes : (((X.setE s e1).addP s (.slice (some ⟨g, 0, none⟩) (rn + 1) cap) y2).e s) = e1 := upd_same _ _ _
        have u0 : w7.cell? ⟨X.b, s, none⟩ = some (.pointer (some ⟨(X.m s).b, 0, none⟩)) := by have e2 := hk7.cm hs; rw [hms] at e2; exact e2
        have u1 : w7.cell? ⟨X.b, 4 + s, none⟩ = some (.slice (some ⟨g, 0, none⟩) (rn + 1) cap) := (hk7.cr (i := 4 + s) (by omega) (by omega)).trans (by show some (upd _ _ _ _) = _; rw [upd_same])
        have HRm : Hid (∀ w8, Below w7.heap.size w7 w8 → Calls Try.prog 19 #[.pointer (some ⟨(X.m s).b, 0, none⟩), .int .i64 (2 + 3 * (1 - (s : Int)))] w8 fun e w' => e = .returned (.int .i64 (rm - 1)) ∧ Below w8.heap.size w8 w') := fun w8 hb => by
          have e2 := room_yes ((hk7.still hb).mo s hs) (qat (hk7.still hb) hs)
          rw [hms, hes] at e2
          have e3 : (((X.m s).put (pid (1 - s)) e1).room : Int) - ((e1.sent : Int) - (e1.o.p : Int)) = rm - 1 := by
            have e4 : e1.sent = (X.e s).sent + 1 := congrArg Ep.sent hpu1
            have e5 : e1.o.p = (X.e s).o.p := congrArg Ep.op hpu1
            rw [e4, e5, ← Hrm.out]
            show ((X.m s).room : Int) - _ = _
            omega
          rw [e3] at e2
          exact e2
        have HSn : Hid (∀ w8, Below w7.heap.size w7 w8 → Calls Try.prog 23 #[.pointer (some ⟨(X.m s).b, 0, none⟩), .int .i64 (2 + 3 * (1 - (s : Int)))] w8 fun e w' => e = .returned (.int .i64 ((rn : Int) + 1)) ∧ w8 = w') := fun w8 hb => by
          have e2 := sent_yes ((hk7.still hb).mo s hs) (qat (hk7.still hb) hs)
          rw [hms, hes] at e2
          have e3 : (e1.sent : Int) = (rn : Int) + 1 := by
            have e4 : e1.sent = (X.e s).sent + 1 := congrArg Ep.sent hpu1
            rw [e4, Hsn.out]
            omega
          rw [e3] at e2
          exact e2
        have HX : Hid (∀ w8, Below w7.heap.size w7 w8 → XO w w8 X B (X.pu.push s b2) (.returned (.bool true))) := fun w8 hb8 => ⟨rfl, _, (((Xstep.below Hh.out HB03.out).trans hx1D).trans hx2).post hb8, by rw [addP_pu, setE_pu, hpu1, hy2, HPe.out]; rfl⟩
        clear hx2 hk7 ho6 hk6 hg6 hov fv hne6 hms hes
        go_wp2
        refine wp_region_held_drew (S := (fun w' => w'.cell? ⟨X.b, s, none⟩ = some (.pointer (some ⟨(X.m s).b, 0, none⟩)) ∧ w'.cell? ⟨X.b, 4 + s, none⟩ = some (.slice (some ⟨g, 0, none⟩) (rn + 1) cap))) (by kernel_rfl) ⟨below_at (drew_bel _) u0, below_at (drew_bel _) u1⟩ (fun hHeld => ?_)
        simp only [Act.put, List.size_toArray, List.length_cons, List.length_nil, Nat.zero_add]
        refine wpAnyH_take (i := 0) (v := .int .i64 0) rfl (by kernel_rfl) (by kernel_rfl) (by kernel_rfl) (fun _ _ _ h => h) (Or.inl ⟨by rfl, fun w' hS => by go_simp⟩) hHeld ?_
        simp only [Act.put, List.getElem_toArray, List.getElem_cons_zero, List.getElem_cons_succ, List.setIfInBounds_toArray, List.set_cons_zero, List.set_cons_succ]
        refine wpAnyH_take (i := 1) (v := .bool true) rfl (by kernel_rfl) (by kernel_rfl) (by kernel_rfl) (fun _ _ _ h => h) (Or.inl ⟨by rfl, fun w' hS => by go_simp⟩) hHeld ?_
        simp only [Act.put, List.getElem_toArray, List.getElem_cons_zero, List.getElem_cons_succ, List.setIfInBounds_toArray, List.set_cons_zero, List.set_cons_succ]
        refine wpAnyH_take (i := 2) (v := .bool true) rfl (by kernel_rfl) (by kernel_rfl) (by kernel_rfl) (fun _ _ _ h => h) (Or.inl ⟨by rfl, fun w' hS => by go_simp⟩) hHeld ?_
        simp only [Act.put, List.getElem_toArray, List.getElem_cons_zero, List.getElem_cons_succ, List.setIfInBounds_toArray, List.set_cons_zero, List.set_cons_succ]
        refine wpAnyH_take (i := 3) (v := .pointer (some ⟨X.b, 0, none⟩)) rfl (by kernel_rfl) (by kernel_rfl) (by kernel_rfl) (fun _ _ _ h => h) (Or.inl ⟨by rfl, fun w' hS => by go_simp⟩) hHeld ?_
        simp only [Act.put, List.getElem_toArray, List.getElem_cons_zero, List.getElem_cons_succ, List.setIfInBounds_toArray, List.set_cons_zero, List.set_cons_succ]
        refine wpAnyH_take (i := 4) (v := .int .i64 (s : Int)) rfl (by kernel_rfl) (by kernel_rfl) (by kernel_rfl) (fun _ _ _ h => h) (Or.inl ⟨by rfl, fun w' hS => by go_simp⟩) hHeld ?_
        simp only [Act.put, List.getElem_toArray, List.getElem_cons_zero, List.getElem_cons_succ, List.setIfInBounds_toArray, List.set_cons_zero, List.set_cons_succ]
        refine wpAnyH_take (i := 5) (v := .pointer (some ⟨X.b, 0, none⟩)) rfl (by kernel_rfl) (by kernel_rfl) (by kernel_rfl) (fun _ _ _ h => h) (Or.inl ⟨by rfl, fun w' hS => by go_simp⟩) hHeld ?_
        simp only [Act.put, List.getElem_toArray, List.getElem_cons_zero, List.getElem_cons_succ, List.setIfInBounds_toArray, List.set_cons_zero, List.set_cons_succ]
        refine wpAnyH_take (i := 6) (v := .pointer (some ⟨X.b, 0, none⟩)) rfl (by kernel_rfl) (by kernel_rfl) (by kernel_rfl) (fun _ _ _ h => h) (Or.inl ⟨by rfl, fun w' hS => by go_simp⟩) hHeld ?_
        simp only [Act.put, List.getElem_toArray, List.getElem_cons_zero, List.getElem_cons_succ, List.setIfInBounds_toArray, List.set_cons_zero, List.set_cons_succ]
        refine wpAnyH_take (i := 7) (v := .pointer (some ⟨X.b, s, none⟩)) rfl (by kernel_rfl) (by kernel_rfl) (by kernel_rfl) (fun _ _ _ h => h) (Or.inl ⟨by rfl, fun w' hS => by go_simp⟩) hHeld ?_
        simp only [Act.put, List.getElem_toArray, List.getElem_cons_zero, List.getElem_cons_succ, List.setIfInBounds_toArray, List.set_cons_zero, List.set_cons_succ]
        refine wpAnyH_take (i := 8) (v := .pointer (some ⟨(X.m s).b, 0, none⟩)) rfl (by kernel_rfl) (by kernel_rfl) (by kernel_rfl) (fun _ _ _ h => h) (Or.inl ⟨by rfl, fun w' hS => by (obtain ⟨s0, s1⟩ := hS; go_simp)⟩) hHeld ?_
        simp only [Act.put, List.getElem_toArray, List.getElem_cons_zero, List.getElem_cons_succ, List.setIfInBounds_toArray, List.set_cons_zero, List.set_cons_succ]
        refine wpAnyH_take (i := 9) (v := .int .i64 (2 + 3 * (1 - (s : Int)))) rfl (by kernel_rfl) (by kernel_rfl) (by kernel_rfl) (fun _ _ _ h => h) (Or.inl ⟨by rfl, fun w' hS => by go_simp⟩) hHeld ?_
        simp only [Act.put, List.getElem_toArray, List.getElem_cons_zero, List.getElem_cons_succ, List.setIfInBounds_toArray, List.set_cons_zero, List.set_cons_succ]
        refine wpAnyH_take (i := 11) (v := .int .i64 rm) rfl (by kernel_rfl) (by kernel_rfl) (by kernel_rfl) (fun _ _ _ h => h) (Or.inl ⟨by rfl, fun w' hS => by go_simp⟩) hHeld ?_
        simp only [Act.put, List.getElem_toArray, List.getElem_cons_zero, List.getElem_cons_succ, List.setIfInBounds_toArray, List.set_cons_zero, List.set_cons_succ]
        refine wpAnyH_take (i := 12) (v := .int .i64 (rm - 1)) rfl (by kernel_rfl) (by kernel_rfl) (by kernel_rfl) (fun _ _ _ h => h) (Or.inl ⟨by rfl, fun w' hS => by (go_simp <;> exact wrap_id (by omega) (by omega))⟩) hHeld ?_
        simp only [Act.put, List.getElem_toArray, List.getElem_cons_zero, List.getElem_cons_succ, List.setIfInBounds_toArray, List.set_cons_zero, List.set_cons_succ]
        refine wpAnyH_ready (rs := [10]) (by kernel_rfl) (by simp) ?_
        refine AllReadyH.cons rfl (fun K hK => ?_) AllReadyH.nil
        go_simp
        refine (HRm.out _ (drew_bel _)).mono ?_
        rintro e w8 ⟨rfl, hb8⟩
        refine hK.out _ _ ⟨below_at hb8 (below_at (drew_bel _) u0), below_at hb8 (below_at (drew_bel _) u1)⟩ (fun hHeld => ?_)
        clear hK K
        refine wpAnyH_take (i := 13) (v := .bool true) rfl (by kernel_rfl) (by kernel_rfl) (by kernel_rfl) (fun _ _ _ h => h) (Or.inl ⟨by rfl, fun w' hS => by (go_simp <;> omega)⟩) hHeld ?_
        simp only [Act.put, List.getElem_toArray, List.getElem_cons_zero, List.getElem_cons_succ, List.setIfInBounds_toArray, List.set_cons_zero, List.set_cons_succ]
        refine wpAnyH_take (i := 14) (v := .bool true) rfl (by kernel_rfl) (by kernel_rfl) (by kernel_rfl) (fun _ _ _ h => h) (Or.inl ⟨by rfl, fun w' hS => by go_simp⟩) hHeld ?_
        simp only [Act.put, List.getElem_toArray, List.getElem_cons_zero, List.getElem_cons_succ, List.setIfInBounds_toArray, List.set_cons_zero, List.set_cons_succ]
        refine wpAnyH_take (i := 15) (v := .bool true) rfl (by kernel_rfl) (by kernel_rfl) (by kernel_rfl) (fun _ _ _ h => h) (Or.inl ⟨by rfl, fun w' hS => by go_simp⟩) hHeld ?_
        simp only [Act.put, List.getElem_toArray, List.getElem_cons_zero, List.getElem_cons_succ, List.setIfInBounds_toArray, List.set_cons_zero, List.set_cons_succ]
        refine wpAnyH_take (i := 16) (v := .pointer (some ⟨X.b, 0, none⟩)) rfl (by kernel_rfl) (by kernel_rfl) (by kernel_rfl) (fun _ _ _ h => h) (Or.inl ⟨by rfl, fun w' hS => by go_simp⟩) hHeld ?_
        simp only [Act.put, List.getElem_toArray, List.getElem_cons_zero, List.getElem_cons_succ, List.setIfInBounds_toArray, List.set_cons_zero, List.set_cons_succ]
        refine wpAnyH_take (i := 17) (v := .int .i64 (s : Int)) rfl (by kernel_rfl) (by kernel_rfl) (by kernel_rfl) (fun _ _ _ h => h) (Or.inl ⟨by rfl, fun w' hS => by go_simp⟩) hHeld ?_
        simp only [Act.put, List.getElem_toArray, List.getElem_cons_zero, List.getElem_cons_succ, List.setIfInBounds_toArray, List.set_cons_zero, List.set_cons_succ]
        refine wpAnyH_take (i := 18) (v := .pointer (some ⟨X.b, 0, none⟩)) rfl (by kernel_rfl) (by kernel_rfl) (by kernel_rfl) (fun _ _ _ h => h) (Or.inl ⟨by rfl, fun w' hS => by go_simp⟩) hHeld ?_
        simp only [Act.put, List.getElem_toArray, List.getElem_cons_zero, List.getElem_cons_succ, List.setIfInBounds_toArray, List.set_cons_zero, List.set_cons_succ]
        refine wpAnyH_take (i := 19) (v := .pointer (some ⟨X.b, 0, none⟩)) rfl (by kernel_rfl) (by kernel_rfl) (by kernel_rfl) (fun _ _ _ h => h) (Or.inl ⟨by rfl, fun w' hS => by go_simp⟩) hHeld ?_
        simp only [Act.put, List.getElem_toArray, List.getElem_cons_zero, List.getElem_cons_succ, List.setIfInBounds_toArray, List.set_cons_zero, List.set_cons_succ]
        refine wpAnyH_take (i := 20) (v := .pointer (some ⟨X.b, s, none⟩)) rfl (by kernel_rfl) (by kernel_rfl) (by kernel_rfl) (fun _ _ _ h => h) (Or.inl ⟨by rfl, fun w' hS => by go_simp⟩) hHeld ?_
        simp only [Act.put, List.getElem_toArray, List.getElem_cons_zero, List.getElem_cons_succ, List.setIfInBounds_toArray, List.set_cons_zero, List.set_cons_succ]
        refine wpAnyH_take (i := 21) (v := .pointer (some ⟨(X.m s).b, 0, none⟩)) rfl (by kernel_rfl) (by kernel_rfl) (by kernel_rfl) (fun _ _ _ h => h) (Or.inl ⟨by rfl, fun w' hS => by (obtain ⟨s0, s1⟩ := hS; go_simp)⟩) hHeld ?_
        simp only [Act.put, List.getElem_toArray, List.getElem_cons_zero, List.getElem_cons_succ, List.setIfInBounds_toArray, List.set_cons_zero, List.set_cons_succ]
        refine wpAnyH_take (i := 22) (v := .int .i64 (2 + 3 * (1 - (s : Int)))) rfl (by kernel_rfl) (by kernel_rfl) (by kernel_rfl) (fun _ _ _ h => h) (Or.inl ⟨by rfl, fun w' hS => by go_simp⟩) hHeld ?_
        simp only [Act.put, List.getElem_toArray, List.getElem_cons_zero, List.getElem_cons_succ, List.setIfInBounds_toArray, List.set_cons_zero, List.set_cons_succ]
        refine wpAnyH_take (i := 24) (v := .pointer (some ⟨X.b, 0, none⟩)) rfl (by kernel_rfl) (by kernel_rfl) (by kernel_rfl) (fun _ _ _ h => h) (Or.inl ⟨by rfl, fun w' hS => by go_simp⟩) hHeld ?_
        simp only [Act.put, List.getElem_toArray, List.getElem_cons_zero, List.getElem_cons_succ, List.setIfInBounds_toArray, List.set_cons_zero, List.set_cons_succ]
        refine wpAnyH_take (i := 25) (v := .int .i64 (s : Int)) rfl (by kernel_rfl) (by kernel_rfl) (by kernel_rfl) (fun _ _ _ h => h) (Or.inl ⟨by rfl, fun w' hS => by go_simp⟩) hHeld ?_
        simp only [Act.put, List.getElem_toArray, List.getElem_cons_zero, List.getElem_cons_succ, List.setIfInBounds_toArray, List.set_cons_zero, List.set_cons_succ]
        refine wpAnyH_take (i := 26) (v := .pointer (some ⟨X.b, 0, none⟩)) rfl (by kernel_rfl) (by kernel_rfl) (by kernel_rfl) (fun _ _ _ h => h) (Or.inl ⟨by rfl, fun w' hS => by go_simp⟩) hHeld ?_
        simp only [Act.put, List.getElem_toArray, List.getElem_cons_zero, List.getElem_cons_succ, List.setIfInBounds_toArray, List.set_cons_zero, List.set_cons_succ]
        refine wpAnyH_take (i := 27) (v := .pointer (some ⟨X.b, 4, none⟩)) rfl (by kernel_rfl) (by kernel_rfl) (by kernel_rfl) (fun _ _ _ h => h) (Or.inl ⟨by rfl, fun w' hS => by go_simp⟩) hHeld ?_
        simp only [Act.put, List.getElem_toArray, List.getElem_cons_zero, List.getElem_cons_succ, List.setIfInBounds_toArray, List.set_cons_zero, List.set_cons_succ]
        refine wpAnyH_take (i := 28) (v := .pointer (some ⟨X.b, 4 + s, none⟩)) rfl (by kernel_rfl) (by kernel_rfl) (by kernel_rfl) (fun _ _ _ h => h) (Or.inl ⟨by rfl, fun w' hS => by go_simp⟩) hHeld ?_
        simp only [Act.put, List.getElem_toArray, List.getElem_cons_zero, List.getElem_cons_succ, List.setIfInBounds_toArray, List.set_cons_zero, List.set_cons_succ]
        refine wpAnyH_take (i := 29) (v := .slice (some ⟨g, 0, none⟩) (rn + 1) cap) rfl (by kernel_rfl) (by kernel_rfl) (by kernel_rfl) (fun _ _ _ h => h) (Or.inl ⟨by rfl, fun w' hS => by (obtain ⟨s0, s1⟩ := hS; go_simp)⟩) hHeld ?_
        simp only [Act.put, List.getElem_toArray, List.getElem_cons_zero, List.getElem_cons_succ, List.setIfInBounds_toArray, List.set_cons_zero, List.set_cons_succ]
        refine wpAnyH_take (i := 30) (v := .int .i64 ((rn : Int) + 1)) rfl (by kernel_rfl) (by kernel_rfl) (by kernel_rfl) (fun _ _ _ h => h) (Or.inl ⟨by rfl, fun w' hS => by (go_simp <;> omega)⟩) hHeld ?_
        simp only [Act.put, List.getElem_toArray, List.getElem_cons_zero, List.getElem_cons_succ, List.setIfInBounds_toArray, List.set_cons_zero, List.set_cons_succ]
        refine wpAnyH_ready (rs := [23]) (by kernel_rfl) (by simp) ?_
        refine AllReadyH.cons rfl (fun K hK => ?_) AllReadyH.nil
        go_simp
        refine (HSn.out _ (bstep (drew_bel _) hb8)).mono ?_
        rintro e w9 ⟨rfl, rfl⟩
        refine hK.out _ _ ⟨below_at hb8 (below_at (drew_bel _) u0), below_at hb8 (below_at (drew_bel _) u1)⟩ (fun hHeld => ?_)
        clear hK K
        refine wpAnyH_take (i := 31) (v := .bool true) rfl (by kernel_rfl) (by kernel_rfl) (by kernel_rfl) (fun _ _ _ h => h) (Or.inl ⟨by rfl, fun w' hS => by (go_simp <;> omega)⟩) hHeld ?_
        simp only [Act.put, List.getElem_toArray, List.getElem_cons_zero, List.getElem_cons_succ, List.setIfInBounds_toArray, List.set_cons_zero, List.set_cons_succ]
        refine wpAnyH_take (i := 32) (v := .bool true) rfl (by kernel_rfl) (by kernel_rfl) (by kernel_rfl) (fun _ _ _ h => h) (Or.inl ⟨by rfl, fun w' hS => by go_simp⟩) hHeld ?_
        simp only [Act.put, List.getElem_toArray, List.getElem_cons_zero, List.getElem_cons_succ, List.setIfInBounds_toArray, List.set_cons_zero, List.set_cons_succ]
        refine wpAnyH_take (i := 33) (v := .bool true) rfl (by kernel_rfl) (by kernel_rfl) (by kernel_rfl) (fun _ _ _ h => h) (Or.inl ⟨by rfl, fun w' hS => by go_simp⟩) hHeld ?_
        simp only [Act.put, List.getElem_toArray, List.getElem_cons_zero, List.getElem_cons_succ, List.setIfInBounds_toArray, List.set_cons_zero, List.set_cons_succ]
        refine wpAnyH_done (by kernel_rfl) ?_ _
        clear hHeld
        go_wp2
        go_ret
        have HZ := HX.out _ (bstep (drew_bel _) hb8)
        rw [← Hb2.out] at HZ
        exact HZ
      · unfold Bn.v
        go_simp
        refine hK.out _ _ trivial (fun hHeld => ?_)
        clear hK K
        have rv6 := below_at (balloc (o := .cells #[.slice (some ⟨y2.k, 0, none⟩) b2.length y2.c] 25) (Below.refl _ _)) rv5
        refine wpAnyH_ready (rs := [7]) (by kernel_rfl) (by simp) ?_
        refine AllReadyH.cons rfl (fun K hK => ?_) AllReadyH.nil
        go_simp
        refine hK.out _ _ trivial (fun hHeld => ?_)
        clear hK K
        refine wpAnyH_ready (rs := [11]) (by kernel_rfl) (by simp) ?_
        refine AllReadyH.cons rfl (fun K hK => ?_) AllReadyH.nil
        have hx5 := hx1D.ok.still hb5
        refine step_push rfl (.tmp 50) (.tmp 53) rfl w5 B (.slice ra rn rc) ((X.p s).map Bn.v) (.slice (some ⟨y2.k, 0, none⟩) b2.length y2.c) rfl rn (show w5.ownsRow B 25 1 (.slice ra rn rc) rn _ from by have e2 := hx5.rowp hs; rw [show (X.setE s e1).v (4 + s) = .slice ra rn rc from Hrv.out, show ((X.setE s e1).p s).length = rn from Hrn.out] at e2; exact e2) rfl rfl rfl (by omega) (Nat.le_trans HB3.out (Nat.le_trans hx1D.kept.size hb5.size)) (fun g cap w6 ho6 hk6 hg6 _ => ?_)
        have hx2 := addP_step (y := y2) hx1D.ok hs hb5 hok2 (Nat.le_trans HB3.out hx1D.kept.size) (n := rn) Hrn.out.symm (show w6.ownsRow _ _ _ _ _ _ from by unfold Bn.v; rw [hy2]; exact ho6) (by rw [show (X.setE s e1).v (4 + s) = .slice ra rn rc from Hrv.out]; exact hk6) (by rw [show (X.setE s e1).v (4 + s) = .slice ra rn rc from Hrv.out]; exact hg6)
        have hne6 : ¬ (Value.slice ra rn rc).ownBlock = some X.b := fun e => hx5.row_b (i := 4 + s) (by omega) (by omega) (by rw [show (X.setE s e1).v (4 + s) = .slice ra rn rc from Hrv.out]; exact e) rfl
        have hov : w6.cell? ⟨X.b, 4 + s, none⟩ = some (.slice ra rn rc) := kept_cell hk6 hne6 (by have e2 := hx5.cr (i := 4 + s) (by omega) (by omega); rw [show (X.setE s e1).v (4 + s) = .slice ra rn rc from Hrv.out] at e2; exact e2)
        have fv := frozen_of_row w6 X.b (4 + s) _ _ (hk6.obj hx5.blk hne6)
        refine hK.out _ _ trivial (fun hHeld => ?_)
        clear hK K
        simp only [Act.put, List.getElem_toArray, List.getElem_cons_zero, List.getElem_cons_succ, List.setIfInBounds_toArray, List.set_cons_zero, List.set_cons_succ]
        refine wpAnyH_take (i := 14) (v := .pointer (some ⟨X.b, 4 + s, none⟩)) rfl (by kernel_rfl) (by kernel_rfl) (by kernel_rfl) (fun _ _ _ h => h) (Or.inl ⟨by rfl, fun w' hS => by go_simp⟩) hHeld ?_
        simp only [Act.put, List.getElem_toArray, List.getElem_cons_zero, List.getElem_cons_succ, List.setIfInBounds_toArray, List.set_cons_zero, List.set_cons_succ]
        refine wpAnyH_ready (rs := [15]) (by kernel_rfl) (by simp) ?_
        refine AllReadyH.cons rfl (fun K hK => ?_) AllReadyH.nil
        go_simp
        refine hK.out _ _ trivial (fun hHeld => ?_)
        clear hK K
        refine wpAnyH_done (by kernel_rfl) ?_ _
        clear hHeld
        try simp only [Act.put]
        change Xstep D9 (w6.setCell ⟨X.b, 4 + s, none⟩ (.slice (some ⟨g, 0, none⟩) (rn + 1) cap)) (X.setE s e1) ((X.setE s e1).addP s (.slice (some ⟨g, 0, none⟩) (rn + 1) cap) y2) B at hx2
        generalize hw7 : w6.setCell ⟨X.b, 4 + s, none⟩ (.slice (some ⟨g, 0, none⟩) (rn + 1) cap) = w7 at *
        have hk7 := hx2.ok
        have hms : (((X.setE s e1).addP s (.slice (some ⟨g, 0, none⟩) (rn + 1) cap) y2).m s) = (X.m s).put (pid (1 - s)) e1 := upd_same _ _ _
        have hes : (((X.setE s e1).addP s (.slice (some ⟨g, 0, none⟩) (rn + 1) cap) y2).e s) = e1 := upd_same _ _ _
        have u0 : w7.cell? ⟨X.b, s, none⟩ = some (.pointer (some ⟨(X.m s).b, 0, none⟩)) := by have e2 := hk7.cm hs; rw [hms] at e2; exact e2
        have u1 : w7.cell? ⟨X.b, 4 + s, none⟩ = some (.slice (some ⟨g, 0, none⟩) (rn + 1) cap) := (hk7.cr (i := 4 + s) (by omega) (by omega)).trans (by show some (upd _ _ _ _) = _; rw [upd_same])
        have HRm : Hid (∀ w8, Below w7.heap.size w7 w8 → Calls Try.prog 19 #[.pointer (some ⟨(X.m s).b, 0, none⟩), .int .i64 (2 + 3 * (1 - (s : Int)))] w8 fun e w' => e = .returned (.int .i64 (rm - 1)) ∧ Below w8.heap.size w8 w') := fun w8 hb => by
          have e2 := room_yes ((hk7.still hb).mo s hs) (qat (hk7.still hb) hs)
          rw [hms, hes] at e2
          have e3 : (((X.m s).put (pid (1 - s)) e1).room : Int) - ((e1.sent : Int) - (e1.o.p : Int)) = rm - 1 := by
            have e4 : e1.sent = (X.e s).sent + 1 := congrArg Ep.sent hpu1
            have e5 : e1.o.p = (X.e s).o.p := congrArg Ep.op hpu1
            rw [e4, e5, ← Hrm.out]
            show ((X.m s).room : Int) - _ = _
            omega
          rw [e3] at e2
          exact e2
        have HSn : Hid (∀ w8, Below w7.heap.size w7 w8 → Calls Try.prog 23 #[.pointer (some ⟨(X.m s).b, 0, none⟩), .int .i64 (2 + 3 * (1 - (s : Int)))] w8 fun e w' => e = .returned (.int .i64 ((rn : Int) + 1)) ∧ w8 = w') := fun w8 hb => by
          have e2 := sent_yes ((hk7.still hb).mo s hs) (qat (hk7.still hb) hs)
          rw [hms, hes] at e2
          have e3 : (e1.sent : Int) = (rn : Int) + 1 := by
            have e4 : e1.sent = (X.e s).sent + 1 := congrArg Ep.sent hpu1
            rw [e4, Hsn.out]
            omega
          rw [e3] at e2
          exact e2
        have HX : Hid (∀ w8, Below w7.heap.size w7 w8 → XO w w8 X B (X.pu.push s b2) (.returned (.bool true))) := fun w8 hb8 => ⟨rfl, _, (((Xstep.below Hh.out HB03.out).trans hx1D).trans hx2).post hb8, by rw [addP_pu, setE_pu, hpu1, hy2, HPe.out]; rfl⟩
        clear hx2 hk7 ho6 hk6 hg6 hov fv hne6 hms hes
        go_wp2
        refine wp_region_held_drew (S := (fun w' => w'.cell? ⟨X.b, s, none⟩ = some (.pointer (some ⟨(X.m s).b, 0, none⟩)) ∧ w'.cell? ⟨X.b, 4 + s, none⟩ = some (.slice (some ⟨g, 0, none⟩) (rn + 1) cap))) (by kernel_rfl) ⟨below_at (drew_bel _) u0, below_at (drew_bel _) u1⟩ (fun hHeld => ?_)
        simp only [Act.put, List.size_toArray, List.length_cons, List.length_nil, Nat.zero_add]
        refine wpAnyH_take (i := 0) (v := .int .i64 0) rfl (by kernel_rfl) (by kernel_rfl) (by kernel_rfl) (fun _ _ _ h => h) (Or.inl ⟨by rfl, fun w' hS => by go_simp⟩) hHeld ?_
        simp only [Act.put, List.getElem_toArray, List.getElem_cons_zero, List.getElem_cons_succ, List.setIfInBounds_toArray, List.set_cons_zero, List.set_cons_succ]
        refine wpAnyH_take (i := 1) (v := .bool true) rfl (by kernel_rfl) (by kernel_rfl) (by kernel_rfl) (fun _ _ _ h => h) (Or.inl ⟨by rfl, fun w' hS => by go_simp⟩) hHeld ?_
        simp only [Act.put, List.getElem_toArray, List.getElem_cons_zero, List.getElem_cons_succ, List.setIfInBounds_toArray, List.set_cons_zero, List.set_cons_succ]
        refine wpAnyH_take (i := 2) (v := .bool true) rfl (by kernel_rfl) (by kernel_rfl) (by kernel_rfl) (fun _ _ _ h => h) (Or.inl ⟨by rfl, fun w' hS => by go_simp⟩) hHeld ?_
        simp only [Act.put, List.getElem_toArray, List.getElem_cons_zero, List.getElem_cons_succ, List.setIfInBounds_toArray, List.set_cons_zero, List.set_cons_succ]
        refine wpAnyH_take (i := 3) (v := .pointer (some ⟨X.b, 0, none⟩)) rfl (by kernel_rfl) (by kernel_rfl) (by kernel_rfl) (fun _ _ _ h => h) (Or.inl ⟨by rfl, fun w' hS => by go_simp⟩) hHeld ?_
        simp only [Act.put, List.getElem_toArray, List.getElem_cons_zero, List.getElem_cons_succ, List.setIfInBounds_toArray, List.set_cons_zero, List.set_cons_succ]
        refine wpAnyH_take (i := 4) (v := .int .i64 (s : Int)) rfl (by kernel_rfl) (by kernel_rfl) (by kernel_rfl) (fun _ _ _ h => h) (Or.inl ⟨by rfl, fun w' hS => by go_simp⟩) hHeld ?_
        simp only [Act.put, List.getElem_toArray, List.getElem_cons_zero, List.getElem_cons_succ, List.setIfInBounds_toArray, List.set_cons_zero, List.set_cons_succ]
        refine wpAnyH_take (i := 5) (v := .pointer (some ⟨X.b, 0, none⟩)) rfl (by kernel_rfl) (by kernel_rfl) (by kernel_rfl) (fun _ _ _ h => h) (Or.inl ⟨by rfl, fun w' hS => by go_simp⟩) hHeld ?_
        simp only [Act.put, List.getElem_toArray, List.getElem_cons_zero, List.getElem_cons_succ, List.setIfInBounds_toArray, List.set_cons_zero, List.set_cons_succ]
        refine wpAnyH_take (i := 6) (v := .pointer (some ⟨X.b, 0, none⟩)) rfl (by kernel_rfl) (by kernel_rfl) (by kernel_rfl) (fun _ _ _ h => h) (Or.inl ⟨by rfl, fun w' hS => by go_simp⟩) hHeld ?_
        simp only [Act.put, List.getElem_toArray, List.getElem_cons_zero, List.getElem_cons_succ, List.setIfInBounds_toArray, List.set_cons_zero, List.set_cons_succ]
        refine wpAnyH_take (i := 7) (v := .pointer (some ⟨X.b, s, none⟩)) rfl (by kernel_rfl) (by kernel_rfl) (by kernel_rfl) (fun _ _ _ h => h) (Or.inl ⟨by rfl, fun w' hS => by go_simp⟩) hHeld ?_
        simp only [Act.put, List.getElem_toArray, List.getElem_cons_zero, List.getElem_cons_succ, List.setIfInBounds_toArray, List.set_cons_zero, List.set_cons_succ]
        refine wpAnyH_take (i := 8) (v := .pointer (some ⟨(X.m s).b, 0, none⟩)) rfl (by kernel_rfl) (by kernel_rfl) (by kernel_rfl) (fun _ _ _ h => h) (Or.inl ⟨by rfl, fun w' hS => by (obtain ⟨s0, s1⟩ := hS; go_simp)⟩) hHeld ?_
        simp only [Act.put, List.getElem_toArray, List.getElem_cons_zero, List.getElem_cons_succ, List.setIfInBounds_toArray, List.set_cons_zero, List.set_cons_succ]
        refine wpAnyH_take (i := 9) (v := .int .i64 (2 + 3 * (1 - (s : Int)))) rfl (by kernel_rfl) (by kernel_rfl) (by kernel_rfl) (fun _ _ _ h => h) (Or.inl ⟨by rfl, fun w' hS => by go_simp⟩) hHeld ?_
        simp only [Act.put, List.getElem_toArray, List.getElem_cons_zero, List.getElem_cons_succ, List.setIfInBounds_toArray, List.set_cons_zero, List.set_cons_succ]
        refine wpAnyH_take (i := 11) (v := .int .i64 rm) rfl (by kernel_rfl) (by kernel_rfl) (by kernel_rfl) (fun _ _ _ h => h) (Or.inl ⟨by rfl, fun w' hS => by go_simp⟩) hHeld ?_
        simp only [Act.put, List.getElem_toArray, List.getElem_cons_zero, List.getElem_cons_succ, List.setIfInBounds_toArray, List.set_cons_zero, List.set_cons_succ]
        refine wpAnyH_take (i := 12) (v := .int .i64 (rm - 1)) rfl (by kernel_rfl) (by kernel_rfl) (by kernel_rfl) (fun _ _ _ h => h) (Or.inl ⟨by rfl, fun w' hS => by (go_simp <;> exact wrap_id (by omega) (by omega))⟩) hHeld ?_
        simp only [Act.put, List.getElem_toArray, List.getElem_cons_zero, List.getElem_cons_succ, List.setIfInBounds_toArray, List.set_cons_zero, List.set_cons_succ]
        refine wpAnyH_ready (rs := [10]) (by kernel_rfl) (by simp) ?_
        refine AllReadyH.cons rfl (fun K hK => ?_) AllReadyH.nil
        go_simp
        refine (HRm.out _ (drew_bel _)).mono ?_
        rintro e w8 ⟨rfl, hb8⟩
        refine hK.out _ _ ⟨below_at hb8 (below_at (drew_bel _) u0), below_at hb8 (below_at (drew_bel _) u1)⟩ (fun hHeld => ?_)
        clear hK K
        refine wpAnyH_take (i := 13) (v := .bool true) rfl (by kernel_rfl) (by kernel_rfl) (by kernel_rfl) (fun _ _ _ h => h) (Or.inl ⟨by rfl, fun w' hS => by (go_simp <;> omega)⟩) hHeld ?_
        simp only [Act.put, List.getElem_toArray, List.getElem_cons_zero, List.getElem_cons_succ, List.setIfInBounds_toArray, List.set_cons_zero, List.set_cons_succ]
        refine wpAnyH_take (i := 14) (v := .bool true) rfl (by kernel_rfl) (by kernel_rfl) (by kernel_rfl) (fun _ _ _ h => h) (Or.inl ⟨by rfl, fun w' hS => by go_simp⟩) hHeld ?_
        simp only [Act.put, List.getElem_toArray, List.getElem_cons_zero, List.getElem_cons_succ, List.setIfInBounds_toArray, List.set_cons_zero, List.set_cons_succ]
        refine wpAnyH_take (i := 15) (v := .bool true) rfl (by kernel_rfl) (by kernel_rfl) (by kernel_rfl) (fun _ _ _ h => h) (Or.inl ⟨by rfl, fun w' hS => by go_simp⟩) hHeld ?_
        simp only [Act.put, List.getElem_toArray, List.getElem_cons_zero, List.getElem_cons_succ, List.setIfInBounds_toArray, List.set_cons_zero, List.set_cons_succ]
        refine wpAnyH_take (i := 16) (v := .pointer (some ⟨X.b, 0, none⟩)) rfl (by kernel_rfl) (by kernel_rfl) (by kernel_rfl) (fun _ _ _ h => h) (Or.inl ⟨by rfl, fun w' hS => by go_simp⟩) hHeld ?_
        simp only [Act.put, List.getElem_toArray, List.getElem_cons_zero, List.getElem_cons_succ, List.setIfInBounds_toArray, List.set_cons_zero, List.set_cons_succ]
        refine wpAnyH_take (i := 17) (v := .int .i64 (s : Int)) rfl (by kernel_rfl) (by kernel_rfl) (by kernel_rfl) (fun _ _ _ h => h) (Or.inl ⟨by rfl, fun w' hS => by go_simp⟩) hHeld ?_
        simp only [Act.put, List.getElem_toArray, List.getElem_cons_zero, List.getElem_cons_succ, List.setIfInBounds_toArray, List.set_cons_zero, List.set_cons_succ]
        refine wpAnyH_take (i := 18) (v := .pointer (some ⟨X.b, 0, none⟩)) rfl (by kernel_rfl) (by kernel_rfl) (by kernel_rfl) (fun _ _ _ h => h) (Or.inl ⟨by rfl, fun w' hS => by go_simp⟩) hHeld ?_
        simp only [Act.put, List.getElem_toArray, List.getElem_cons_zero, List.getElem_cons_succ, List.setIfInBounds_toArray, List.set_cons_zero, List.set_cons_succ]
        refine wpAnyH_take (i := 19) (v := .pointer (some ⟨X.b, 0, none⟩)) rfl (by kernel_rfl) (by kernel_rfl) (by kernel_rfl) (fun _ _ _ h => h) (Or.inl ⟨by rfl, fun w' hS => by go_simp⟩) hHeld ?_
        simp only [Act.put, List.getElem_toArray, List.getElem_cons_zero, List.getElem_cons_succ, List.setIfInBounds_toArray, List.set_cons_zero, List.set_cons_succ]
        refine wpAnyH_take (i := 20) (v := .pointer (some ⟨X.b, s, none⟩)) rfl (by kernel_rfl) (by kernel_rfl) (by kernel_rfl) (fun _ _ _ h => h) (Or.inl ⟨by rfl, fun w' hS => by go_simp⟩) hHeld ?_
        simp only [Act.put, List.getElem_toArray, List.getElem_cons_zero, List.getElem_cons_succ, List.setIfInBounds_toArray, List.set_cons_zero, List.set_cons_succ]
        refine wpAnyH_take (i := 21) (v := .pointer (some ⟨(X.m s).b, 0, none⟩)) rfl (by kernel_rfl) (by kernel_rfl) (by kernel_rfl) (fun _ _ _ h => h) (Or.inl ⟨by rfl, fun w' hS => by (obtain ⟨s0, s1⟩ := hS; go_simp)⟩) hHeld ?_
        simp only [Act.put, List.getElem_toArray, List.getElem_cons_zero, List.getElem_cons_succ, List.setIfInBounds_toArray, List.set_cons_zero, List.set_cons_succ]
        refine wpAnyH_take (i := 22) (v := .int .i64 (2 + 3 * (1 - (s : Int)))) rfl (by kernel_rfl) (by kernel_rfl) (by kernel_rfl) (fun _ _ _ h => h) (Or.inl ⟨by rfl, fun w' hS => by go_simp⟩) hHeld ?_
        simp only [Act.put, List.getElem_toArray, List.getElem_cons_zero, List.getElem_cons_succ, List.setIfInBounds_toArray, List.set_cons_zero, List.set_cons_succ]
        refine wpAnyH_take (i := 24) (v := .pointer (some ⟨X.b, 0, none⟩)) rfl (by kernel_rfl) (by kernel_rfl) (by kernel_rfl) (fun _ _ _ h => h) (Or.inl ⟨by rfl, fun w' hS => by go_simp⟩) hHeld ?_
        simp only [Act.put, List.getElem_toArray, List.getElem_cons_zero, List.getElem_cons_succ, List.setIfInBounds_toArray, List.set_cons_zero, List.set_cons_succ]
        refine wpAnyH_take (i := 25) (v := .int .i64 (s : Int)) rfl (by kernel_rfl) (by kernel_rfl) (by kernel_rfl) (fun _ _ _ h => h) (Or.inl ⟨by rfl, fun w' hS => by go_simp⟩) hHeld ?_
        simp only [Act.put, List.getElem_toArray, List.getElem_cons_zero, List.getElem_cons_succ, List.setIfInBounds_toArray, List.set_cons_zero, List.set_cons_succ]
        refine wpAnyH_take (i := 26) (v := .pointer (some ⟨X.b, 0, none⟩)) rfl (by kernel_rfl) (by kernel_rfl) (by kernel_rfl) (fun _ _ _ h => h) (Or.inl ⟨by rfl, fun w' hS => by go_simp⟩) hHeld ?_
        simp only [Act.put, List.getElem_toArray, List.getElem_cons_zero, List.getElem_cons_succ, List.setIfInBounds_toArray, List.set_cons_zero, List.set_cons_succ]
        refine wpAnyH_take (i := 27) (v := .pointer (some ⟨X.b, 4, none⟩)) rfl (by kernel_rfl) (by kernel_rfl) (by kernel_rfl) (fun _ _ _ h => h) (Or.inl ⟨by rfl, fun w' hS => by go_simp⟩) hHeld ?_
        simp only [Act.put, List.getElem_toArray, List.getElem_cons_zero, List.getElem_cons_succ, List.setIfInBounds_toArray, List.set_cons_zero, List.set_cons_succ]
        refine wpAnyH_take (i := 28) (v := .pointer (some ⟨X.b, 4 + s, none⟩)) rfl (by kernel_rfl) (by kernel_rfl) (by kernel_rfl) (fun _ _ _ h => h) (Or.inl ⟨by rfl, fun w' hS => by go_simp⟩) hHeld ?_
        simp only [Act.put, List.getElem_toArray, List.getElem_cons_zero, List.getElem_cons_succ, List.setIfInBounds_toArray, List.set_cons_zero, List.set_cons_succ]
        refine wpAnyH_take (i := 29) (v := .slice (some ⟨g, 0, none⟩) (rn + 1) cap) rfl (by kernel_rfl) (by kernel_rfl) (by kernel_rfl) (fun _ _ _ h => h) (Or.inl ⟨by rfl, fun w' hS => by (obtain ⟨s0, s1⟩ := hS; go_simp)⟩) hHeld ?_
        simp only [Act.put, List.getElem_toArray, List.getElem_cons_zero, List.getElem_cons_succ, List.setIfInBounds_toArray, List.set_cons_zero, List.set_cons_succ]
        refine wpAnyH_take (i := 30) (v := .int .i64 ((rn : Int) + 1)) rfl (by kernel_rfl) (by kernel_rfl) (by kernel_rfl) (fun _ _ _ h => h) (Or.inl ⟨by rfl, fun w' hS => by (go_simp <;> omega)⟩) hHeld ?_
        simp only [Act.put, List.getElem_toArray, List.getElem_cons_zero, List.getElem_cons_succ, List.setIfInBounds_toArray, List.set_cons_zero, List.set_cons_succ]
        refine wpAnyH_ready (rs := [23]) (by kernel_rfl) (by simp) ?_
        refine AllReadyH.cons rfl (fun K hK => ?_) AllReadyH.nil
        go_simp
        refine (HSn.out _ (bstep (drew_bel _) hb8)).mono ?_
        rintro e w9 ⟨rfl, rfl⟩
        refine hK.out _ _ ⟨below_at hb8 (below_at (drew_bel _) u0), below_at hb8 (below_at (drew_bel _) u1)⟩ (fun hHeld => ?_)
        clear hK K
        refine wpAnyH_take (i := 31) (v := .bool true) rfl (by kernel_rfl) (by kernel_rfl) (by kernel_rfl) (fun _ _ _ h => h) (Or.inl ⟨by rfl, fun w' hS => by (go_simp <;> omega)⟩) hHeld ?_
        simp only [Act.put, List.getElem_toArray, List.getElem_cons_zero, List.getElem_cons_succ, List.setIfInBounds_toArray, List.set_cons_zero, List.set_cons_succ]
        refine wpAnyH_take (i := 32) (v := .bool true) rfl (by kernel_rfl) (by kernel_rfl) (by kernel_rfl) (fun _ _ _ h => h) (Or.inl ⟨by rfl, fun w' hS => by go_simp⟩) hHeld ?_
        simp only [Act.put, List.getElem_toArray, List.getElem_cons_zero, List.getElem_cons_succ, List.setIfInBounds_toArray, List.set_cons_zero, List.set_cons_succ]
        refine wpAnyH_take (i := 33) (v := .bool true) rfl (by kernel_rfl) (by kernel_rfl) (by kernel_rfl) (fun _ _ _ h => h) (Or.inl ⟨by rfl, fun w' hS => by go_simp⟩) hHeld ?_
        simp only [Act.put, List.getElem_toArray, List.getElem_cons_zero, List.getElem_cons_succ, List.setIfInBounds_toArray, List.set_cons_zero, List.set_cons_succ]
        refine wpAnyH_done (by kernel_rfl) ?_ _
        clear hHeld
        go_wp2
        go_ret
        have HZ := HX.out _ (bstep (drew_bel _) hb8)
        rw [← Hb2.out] at HZ
        exact HZ
  · have HPu : Hid (∀ D w3 (y1 : Bn), Below wc.heap.size wc D → Below D.heap.size D w3 → y1.bs = b2 → y1.Ok w3 D.heap.size → Calls Try.prog 28 #[.pointer (some ⟨(X.m s).b, 0, none⟩), .int .i64 (2 + 3 * (1 - (s : Int))), .slice (some ⟨y1.k, 0, none⟩) b2.length y1.c] w3 fun e w' => e = .returned (.int .i64 42) ∧ Below w3.heap.size w3 w') := fun D w3 y1 hbD hb3 hy hok => by
      have h3 := HXc.out.still (bstep hbD hb3)
      exact push_full (h3.mo s hs) (qat h3 hs) (inR_t (by omega) (by omega)) (by omega)
    have hrm1 : rm = 0 := by omega
    subst hrm1
    have HPe : Hid (X.pu.push s b2 = X.pu) := (show _ = _ from by rw [HP.out, if_neg (by rw [← Hsp.out]; exact hroom)])
    clear hEc HIs hrn hrv hrm hXc hroom
    go_wp2_with (first | (go_at_call 15; refine (pid_any j1 j2).mono ?_; rintro e w' ⟨rfl, rfl⟩) | (go_at_call 19; refine HRoom.out.mono ?_) | fail)
    rintro e w2 ⟨rfl, hbc2⟩
    have m2 := below_at hbc2 cm
    have HB2 : Hid (Below wc.heap.size wc w2) := hbc2
    clear hbc2 cm HRoom
    go_wp2
    refine wp_region_held_drew (S := (fun w' => w'.cell? ⟨X.b, s, none⟩ = some (.pointer (some ⟨(X.m s).b, 0, none⟩)))) (by kernel_rfl) (below_at (drew_bel _) m2) (fun hHeld => ?_)
    simp only [Act.put, List.size_toArray, List.length_cons, List.length_nil, Nat.zero_add]
    refine wpAnyH_take (i := 0) (v := .pointer (some ⟨X.b, 0, none⟩)) rfl (by kernel_rfl) (by kernel_rfl) (by kernel_rfl) (fun _ _ _ h => h) (Or.inl ⟨by rfl, fun w' hS => by go_simp⟩) hHeld ?_
    simp only [Act.put, List.getElem_toArray, List.getElem_cons_zero, List.getElem_cons_succ, List.setIfInBounds_toArray, List.set_cons_zero, List.set_cons_succ]
    refine wpAnyH_take (i := 1) (v := .int .i64 (s : Int)) rfl (by kernel_rfl) (by kernel_rfl) (by kernel_rfl) (fun _ _ _ h => h) (Or.inl ⟨by rfl, fun w' hS => by go_simp⟩) hHeld ?_
    simp only [Act.put, List.getElem_toArray, List.getElem_cons_zero, List.getElem_cons_succ, List.setIfInBounds_toArray, List.set_cons_zero, List.set_cons_succ]
    refine wpAnyH_take (i := 2) (v := .pointer (some ⟨X.b, 0, none⟩)) rfl (by kernel_rfl) (by kernel_rfl) (by kernel_rfl) (fun _ _ _ h => h) (Or.inl ⟨by rfl, fun w' hS => by go_simp⟩) hHeld ?_
    simp only [Act.put, List.getElem_toArray, List.getElem_cons_zero, List.getElem_cons_succ, List.setIfInBounds_toArray, List.set_cons_zero, List.set_cons_succ]
    refine wpAnyH_take (i := 3) (v := .pointer (some ⟨X.b, 0, none⟩)) rfl (by kernel_rfl) (by kernel_rfl) (by kernel_rfl) (fun _ _ _ h => h) (Or.inl ⟨by rfl, fun w' hS => by go_simp⟩) hHeld ?_
    simp only [Act.put, List.getElem_toArray, List.getElem_cons_zero, List.getElem_cons_succ, List.setIfInBounds_toArray, List.set_cons_zero, List.set_cons_succ]
    refine wpAnyH_take (i := 4) (v := .pointer (some ⟨X.b, s, none⟩)) rfl (by kernel_rfl) (by kernel_rfl) (by kernel_rfl) (fun _ _ _ h => h) (Or.inl ⟨by rfl, fun w' hS => by go_simp⟩) hHeld ?_
    simp only [Act.put, List.getElem_toArray, List.getElem_cons_zero, List.getElem_cons_succ, List.setIfInBounds_toArray, List.set_cons_zero, List.set_cons_succ]
    refine wpAnyH_take (i := 5) (v := .pointer (some ⟨(X.m s).b, 0, none⟩)) rfl (by kernel_rfl) (by kernel_rfl) (by kernel_rfl) (fun _ _ _ h => h) (Or.inl ⟨by rfl, fun w' hS => by (have s0 := hS; go_simp)⟩) hHeld ?_
    simp only [Act.put, List.getElem_toArray, List.getElem_cons_zero, List.getElem_cons_succ, List.setIfInBounds_toArray, List.set_cons_zero, List.set_cons_succ]
    refine wpAnyH_take (i := 6) (v := .int .i64 (2 + 3 * (1 - (s : Int)))) rfl (by kernel_rfl) (by kernel_rfl) (by kernel_rfl) (fun _ _ _ h => h) (Or.inl ⟨by rfl, fun w' hS => by go_simp⟩) hHeld ?_
    simp only [Act.put, List.getElem_toArray, List.getElem_cons_zero, List.getElem_cons_succ, List.setIfInBounds_toArray, List.set_cons_zero, List.set_cons_succ]
    refine wpAnyH_take (i := 7) (v := .slice a2 b2.length c2) rfl (by kernel_rfl) (by kernel_rfl) (by kernel_rfl) (fun _ _ _ h => h) (Or.inl ⟨by rfl, fun w' hS => by go_simp⟩) hHeld ?_
    simp only [Act.put, List.getElem_toArray, List.getElem_cons_zero, List.getElem_cons_succ, List.setIfInBounds_toArray, List.set_cons_zero, List.set_cons_succ]
    have hbD : Below w2.heap.size w2 w2.drew := drew_bel w2
    have q2 := below_at hbD m2
    generalize w2.drew = D at *
    refine wpAnyH_ready (rs := [8]) (by kernel_rfl) (by simp) ?_
    refine AllReadyH.cons rfl (fun K hK => ?_) AllReadyH.nil
    go_simp
    refine (HC.out D (bstep HB2.out hbD)).mono ?_
    rintro e w3 ⟨⟨y1, rfl, hy1, hok1⟩, hb3⟩
    unfold Bn.v
    rw [hy1]
    refine hK.out _ _ (below_at hb3 q2) (fun hHeld => ?_)
    clear hK K
    refine wpAnyH_ready (rs := [9]) (by kernel_rfl) (by simp) ?_
    refine AllReadyH.cons rfl (fun K hK => ?_) AllReadyH.nil
    go_simp
    refine (HPu.out D w3 y1 (bstep HB2.out hbD) hb3 hy1 hok1).mono ?_
    rintro e w4 ⟨rfl, hb4⟩
    refine hK.out _ _ (below_at hb4 (below_at hb3 q2)) (fun hHeld => ?_)
    clear hK K
    refine wpAnyH_ready (rs := [10]) (by kernel_rfl) (by simp) ?_
    refine AllReadyH.cons rfl (fun K hK => ?_) AllReadyH.nil
    go_simp
    refine (num_any 42).mono ?_
    rintro e w5 ⟨rfl, rfl⟩
    refine hK.out _ _ (below_at hb4 (below_at hb3 q2)) (fun hHeld => ?_)
    clear hK K
    refine wpAnyH_take (i := 11) (v := .int .i64 42) rfl (by kernel_rfl) (by kernel_rfl) (by kernel_rfl) (fun _ _ _ h => h) (Or.inl ⟨by rfl, fun w' hS => by go_simp⟩) hHeld ?_
    simp only [Act.put, List.getElem_toArray, List.getElem_cons_zero, List.getElem_cons_succ, List.setIfInBounds_toArray, List.set_cons_zero, List.set_cons_succ]
    refine wpAnyH_done (by kernel_rfl) ?_ _
    clear hHeld
    have hb5 : Below wc.heap.size wc w4 := bstep (bstep (bstep HB2.out hbD) hb3) hb4
    have hX4 := HXc.out.still hb5
    have m4 := hX4.cm hs
    have HRm : Hid (Calls Try.prog 19 #[.pointer (some ⟨(X.m s).b, 0, none⟩), .int .i64 (2 + 3 * (1 - (s : Int)))] w4 fun e w' => e = .returned (.int .i64 0) ∧ Below w4.heap.size w4 w') := (show Calls _ _ _ _ _ from by have e2 := room_yes (hX4.mo s hs) (qat hX4 hs); rw [Hrm.out] at e2; exact e2)
    have HX : Hid (∀ w8, Below w4.heap.size w4 w8 → XO w w8 X B (X.pu.push s b2) (.returned (.bool true))) := fun w8 hb8 => ⟨rfl, X, Xstep.below Hh.out (bstep (bstep HBc.out hb5) hb8), HPe.out.symm⟩
    clear hX4 hb5 hb4 hb3 hbD hok1 q2
    go_wp2_with (first | (go_at_call 19; refine HRm.out.mono ?_; rintro e w8 ⟨rfl, hb8⟩) | fail)
    go_ret
    have HZ := HX.out _ hb8
    rw [← Hb2.out] at HZ
    exact HZ
end
end Go.Proofs.Ytghihdenbdnnjaa.Ln
