import Derived.Test.YtghihdenbdnnjaaLkm
namespace Go.Proofs.Ytghihdenbdnnjaa.Ln
open Go.RowKit Mb
set_option linter.unusedVariables false
set_option maxRecDepth 100000
set_option linter.unusedSimpArgs false
section
variable {w w' W : World} {B win room : Nat} {S S' : St} {E E' : En} {M M' : Mx}
theorem info_frame : (Try.prog.info? 54).map (·.size) = some 6 := by kernel_rfl
abbrev z6 : List Value := [.int .i64 0, .int .i64 0, .int .i64 0, .int .i64 0, .int .i64 0, .slice none 0 0]
theorem frame_info : ∃ i : TypeInfo, Try.prog.info? 54 = some i ∧ i.zero = some (.agg z6.toArray) ∧ i.size = 6 ∧ i.bytes = 64 := by
  have h : (Try.prog.info? 54).map (fun i => (i.zero, i.size, i.bytes)) = some (some (.agg z6.toArray), 6, 64) := by kernel_rfl
  cases hq : Try.prog.info? 54 with
  | none => rw [hq] at h; cases h
  | some i => rw [hq] at h; simp at h; exact ⟨i, rfl, h.1, h.2.1, h.2.2⟩
theorem z6_at (i : Nat) : (z6.toArray)[i % 6]! = z6.getD (i % 6) undef := by
  have : i % 6 < 6 := Nat.mod_lt _ (by omega)
  generalize i % 6 = k at this
  rcases k with _ | _ | _ | _ | _ | _ | k <;> first | rfl | omega
theorem wl_makeF {ops : Array Oper} {rest : List Oper} {o : Oper} {a : Act} {Q : Exit → Act → World → Prop} (hg : o.guard = none) (l c : Operand) (hop : o.op = Op.makeSlice 37 l c) (x y : Int) (n : Nat) (hl : a.eval l = .int .i64 x) (hc : a.eval c = .int .i64 y) (hx : x = (n : Int)) (hy : y = (n : Int)) (hn : n ≤ 1000000)
    (h : ∀ w', Fb w' w.heap.size 54 (n * 6) (fun j => z6.getD (j % 6) undef) → Below w.heap.size w w' → wpList Try.prog ops Q rest (a.put o.dst (.slice (some ⟨w.heap.size, 0, none⟩) n n)) w') : wpList Try.prog ops Q (o :: rest) a w := by
  obtain ⟨i0, hi, hz0, hz1, hz2⟩ := frame_info
  refine wpList_make_full w hg l c 37 hop w.heap.size 54 i0 (.agg z6.toArray) 6 Try.underlying37 hi hz0 hz1 .i64 .i64 x y n hl hc hx hy (by rw [hz2]; omega) (by unfold maxLen; omega) (Nat.le_refl _) fun w1 hown hgrow => h w1 ?_ ((Below.refl _ w).grown hgrow (Nat.le_refl _) (fun k hk => by cases hk))
  rcases hown.2 with ⟨h3, _⟩ | ⟨g, cap, cur, hv, hg, hh, hr1, hr2, hr3, hr4⟩
  · cases h3
  · simp at hv
    obtain ⟨hg', rfl⟩ := hv
    subst hg'
    refine ⟨cur, hh, hr3, fun i hi => ?_⟩
    have e1 : cur[i]? = (cur.toList.take (n * 6))[i]? := by rw [List.getElem?_take]; simp [hi]
    rw [e1, hr4]
    have e2 : (madeCells z6.toArray (n * 6)).toList[i]? = some (z6.toArray[i % 6]!) := by
      simp [madeCells, hi, Value.cells]
    exact e2.trans (congrArg some (z6_at i))
def gB (bl : List Bd) (i : Nat) : Bd := bl.getD i ⟨0, []⟩
theorem gB_at {bl : List Bd} {i : Nat} (h : i < bl.length) : bl[i]? = some (gB bl i) := by simp [gB, List.getD, h]
def frv (t : Tg) (s : Nat) (v : Value) : List Value := [.int .i64 t.e, .int .i64 t.l, .int .i64 t.i, .int .i64 t.c, .int .i64 (s : Int), v]
def slv (k l : Nat) : Value := .slice (some ⟨k, 0, none⟩) l l
theorem frv_one (t : Tg) (s k l : Nat) : ∀ u ∈ frv t s (slv k l), u.oneCell' = true := by
  intro u hu
  simp [frv, slv] at hu
  rcases hu with rfl | rfl | rfl | rfl | rfl | rfl <;> rfl
def fri (t : Tg) (op : Nat) (bl : List Bd) (ks : Nat → Nat) (i j : Nat) : List Value := if j < i then frv t (op + j + 1) (slv (ks j) (gB bl j).bs.length) else z6
def frf (t : Tg) (op : Nat) (bl : List Bd) (ks : Nat → Nat) (i : Nat) (j : Nat) : Value := (fri t op bl ks i (j / 6)).getD (j % 6) undef
theorem frf_next {t : Tg} {op fb n i k : Nat} {bl : List Bd} {ks : Nat → Nat} (h : Fb w fb 54 (n * 6) (frf t op bl ks i)) : Fb (w.setCells fb (i * 6) (frv t (op + i + 1) (slv k (gB bl i).bs.length))) fb 54 (n * 6) (frf t op bl (upd ks i k) (i + 1)) :=
  (Fb.sets _ _ _ _ h).congr fun j hj => by
    have hl : (frv t (op + i + 1) (slv k (gB bl i).bs.length)).length = 6 := rfl
    rw [hl]
    unfold frf fri
    by_cases e : i * 6 ≤ j ∧ j < i * 6 + 6
    · rw [if_pos e, show j / 6 = i by omega, if_pos (by omega), upd_same, show j - i * 6 = j % 6 by omega]
    · rw [if_neg e]
      have e2 : j / 6 ≠ i := by omega
      by_cases e3 : j / 6 < i
      · rw [if_pos e3, if_pos (by omega), upd_ne _ _ e2]
      · rw [if_neg e3, if_neg (by omega)]
structure FrS (w wr : World) (fb n : Nat) (t : Tg) (op : Nat) (bl : List Bd) (i : Nat) (ks : Nat → Nat) : Prop where
  bel : Below w.heap.size w wr
  row : Fb wr fb 54 (n * 6) (frf t op bl ks i)
  bk : ∀ j, j < i → Bk wr (ks j) (gB bl j).bs ∧ w.heap.size ≤ ks j
  inj : ∀ j j', j < i → j' < i → ks j = ks j' → j = j'
theorem FrS.next {wr D w3 : World} {t : Tg} {op fb n i : Nat} {bl : List Bd} {ks : Nat → Nat} (h : FrS w wr fb n t op bl i ks) (hfb : fb = w.heap.size) (hD : Below wr.heap.size wr D) (hbk : Bk w3 D.heap.size (gB bl i).bs) (hb3 : Below D.heap.size D w3) : FrS w (w3.setCells fb (i * 6) (frv t (op + i + 1) (slv D.heap.size (gB bl i).bs.length))) fb n t op bl (i + 1) (upd ks i D.heap.size) := by
  have hb : Below wr.heap.size wr w3 := bstep hD hb3
  have k : Kept w3 (w3.setCells fb (i * 6) (frv t (op + i + 1) (slv D.heap.size (gB bl i).bs.length))) (fun j => j = fb) := ksets (P := fun j => j = fb) rfl _ _ _
  have hfl := h.row.lt
  have hne : ∀ j (x : List Int), Bk w3 j x → j ≠ fb := fun j x hj => by
    obtain ⟨C, hC, _⟩ := h.row
    exact bk_ne hj ((hb.block _ hfl).trans hC) (by decide)
  have hws := h.bel.size
  have hds := hD.size
  refine ⟨bsets (by omega) _ _ (bstep h.bel (hb.mono (by omega) |> fun x => hb)), frf_next (h.row.keep (Kept.ofBelow hb (fun _ => False)) id), fun j hj => ?_, fun j j' hj hj' e => ?_⟩
  · by_cases e : j = i
    · subst e; rw [upd_same]; exact ⟨hbk.keep k (hne _ _ hbk), by omega⟩
    · rw [upd_ne _ _ e]
      have h1 := h.bk j (by omega)
      exact ⟨(h1.1.still hb).keep k (hne _ _ (h1.1.still hb)), h1.2⟩
  · by_cases e1 : j = i
    · by_cases e2 : j' = i
      · rw [e1, e2]
      · subst e1; rw [upd_same, upd_ne _ _ e2] at e
        have := (h.bk j' (by omega)).1.lt; omega
    · by_cases e2 : j' = i
      · subst e2; rw [upd_same, upd_ne _ _ e1] at e
        have := (h.bk j (by omega)).1.lt; omega
      · rw [upd_ne _ _ e1, upd_ne _ _ e2] at e
        exact h.inj j j' (by omega) (by omega) e
structure FrO (w w' : World) (M : Mx) (E : En) (e : Ending) : Prop where
  out : ∃ (fb n : Nat) (bl : List Bd) (ks : Nat → Nat), e = .returned (.slice (some ⟨fb, 0, none⟩) n n) ∧ bl = takeN E.o.f E.o.p M.win ∧ bl.length = n ∧ w.heap.size ≤ fb ∧ FrS w w' fb n M.tag E.o.p bl n ks
set_option maxHeartbeats 400000 in
theorem frames_no (h : M.Ok w B) {q : Int} (hq : M.at q = none) : Calls Try.prog 25 #[.pointer (some ⟨M.b, 0, none⟩), .int .i64 q] w fun e w' => e = .returned (.slice none 0 0) ∧ w = w' := by
  have HP : Hid (∀ w1, Below w.heap.size w w1 → Calls Try.prog 35 #[.pointer (some ⟨M.b, 0, none⟩), .int .i64 q] w1 fun e w' => e = .returned (.pointer none) ∧ w1 = w') := fun w1 hb => (show Calls _ _ _ _ _ from by have := peer_any (h.still hb) q; rw [hq] at this; exact this)
  have HPW := HP.out w (Below.refl _ _)
  have HPh : Hid (Calls _ _ _ _ _) := HPW
  clear h hq HPW
  go_enter Try.func25, Try.ntmps25
  go_wp2_with (first | (go_at_call 35; refine HPh.out.mono ?_; rintro e w' ⟨rfl, rfl⟩) | fail)
  go_ret
  exact ⟨rfl, rfl⟩
set_option maxHeartbeats 1000000 in
theorem frames_yes (h : M.Ok w B) {q : Int} (hq : M.at q = some E) : Calls Try.prog 25 #[.pointer (some ⟨M.b, 0, none⟩), .int .i64 q] w fun e w' => FrO w w' M E e := by
  have HP : Hid (∀ w1, Below w.heap.size w w1 → Calls Try.prog 35 #[.pointer (some ⟨M.b, 0, none⟩), .int .i64 q] w1 fun e w' => e = .returned (.pointer (some ⟨E.b, 0, none⟩)) ∧ w1 = w') := fun w1 hb => (show Calls _ _ _ _ _ from by have := peer_any (h.still hb) q; rw [hq] at this; exact this)
  have HPW := HP.out w (Below.refl _ _)
  have HPh : Hid (Calls _ _ _ _ _) := HPW
  obtain ⟨k, rfl, hk, he⟩ := at_es hq
  have hE := h.el k E he
  have hw1 := h.w1
  have m1 : w.cell? ⟨M.b, 1, none⟩ = some (.int .i64 (M.win : Int)) := h.c 1 rfl
  have HNx : Hid (Calls Try.prog 41 #[.pointer (some ⟨E.b, 0, none⟩), .int .i64 (M.win : Int)] w.drew fun e w' => NextO w.drew w' E.o M.win e) := next_any (hE.oo.still (drew_bel w)) (below_at (drew_bel w) (hE.c 0 rfl)) (below_at (drew_bel w) (hE.c 1 rfl)) (by omega)
  have HM : Hid (M.Ok w B) := h
  have HE : Hid (E.Ok w B M.win M.room) := hE
  have hln := takeN_len E.o.f M.win E.o.p
  have hp6 := hE.oo.p62
  clear h hq HPW hE
  go_enter Try.func25, Try.ntmps25
  go_wp2_with (first | (go_at_call 35; refine HPh.out.mono ?_; rintro e w' ⟨rfl, rfl⟩) | fail)
  refine wp_region_held_drew (S := (fun w' => w'.cell? ⟨M.b, 1, none⟩ = some (.int .i64 (M.win : Int)))) (by kernel_rfl) (below_at (Below.refl _ _).drew m1) (fun hHeld => ?_)
  simp only [Act.put, List.size_toArray, List.length_cons, List.length_nil, Nat.zero_add]
  refine wpAnyH_take (i := 0) (v := .pointer (some ⟨E.b, 0, none⟩)) rfl (by kernel_rfl) (by kernel_rfl) (by kernel_rfl) (fun _ _ _ h => h) (Or.inl ⟨by rfl, fun w' hS => by go_simp⟩) hHeld ?_
  simp only [Act.put, List.getElem_toArray, List.getElem_cons_zero, List.getElem_cons_succ, List.setIfInBounds_toArray, List.set_cons_zero, List.set_cons_succ]
  refine wpAnyH_take (i := 1) (v := .pointer (some ⟨E.b, 0, none⟩)) rfl (by kernel_rfl) (by kernel_rfl) (by kernel_rfl) (fun _ _ _ h => h) (Or.inl ⟨by rfl, fun w' hS => by go_simp⟩) hHeld ?_
  simp only [Act.put, List.getElem_toArray, List.getElem_cons_zero, List.getElem_cons_succ, List.setIfInBounds_toArray, List.set_cons_zero, List.set_cons_succ]
  refine wpAnyH_take (i := 2) (v := .pointer (some ⟨E.b, 0, none⟩)) rfl (by kernel_rfl) (by kernel_rfl) (by kernel_rfl) (fun _ _ _ h => h) (Or.inl ⟨by rfl, fun w' hS => by go_simp⟩) hHeld ?_
  simp only [Act.put, List.getElem_toArray, List.getElem_cons_zero, List.getElem_cons_succ, List.setIfInBounds_toArray, List.set_cons_zero, List.set_cons_succ]
  refine wpAnyH_take (i := 3) (v := .pointer (some ⟨M.b, 0, none⟩)) rfl (by kernel_rfl) (by kernel_rfl) (by kernel_rfl) (fun _ _ _ h => h) (Or.inl ⟨by rfl, fun w' hS => by go_simp⟩) hHeld ?_
  simp only [Act.put, List.getElem_toArray, List.getElem_cons_zero, List.getElem_cons_succ, List.setIfInBounds_toArray, List.set_cons_zero, List.set_cons_succ]
  refine wpAnyH_take (i := 4) (v := .pointer (some ⟨M.b, 0, none⟩)) rfl (by kernel_rfl) (by kernel_rfl) (by kernel_rfl) (fun _ _ _ h => h) (Or.inl ⟨by rfl, fun w' hS => by go_simp⟩) hHeld ?_
  simp only [Act.put, List.getElem_toArray, List.getElem_cons_zero, List.getElem_cons_succ, List.setIfInBounds_toArray, List.set_cons_zero, List.set_cons_succ]
  refine wpAnyH_take (i := 5) (v := .pointer (some ⟨M.b, 1, none⟩)) rfl (by kernel_rfl) (by kernel_rfl) (by kernel_rfl) (fun _ _ _ h => h) (Or.inl ⟨by rfl, fun w' hS => by go_simp⟩) hHeld ?_
  simp only [Act.put, List.getElem_toArray, List.getElem_cons_zero, List.getElem_cons_succ, List.setIfInBounds_toArray, List.set_cons_zero, List.set_cons_succ]
  refine wpAnyH_take (i := 6) (v := .int .i64 (M.win : Int)) rfl (by kernel_rfl) (by kernel_rfl) (by kernel_rfl) (fun _ _ _ h => h) (Or.inl ⟨by rfl, fun w' hS => by (have s0 := hS; go_simp)⟩) hHeld ?_
  simp only [Act.put, List.getElem_toArray, List.getElem_cons_zero, List.getElem_cons_succ, List.setIfInBounds_toArray, List.set_cons_zero, List.set_cons_succ]
  refine wpAnyH_ready (rs := [7]) (by kernel_rfl) (by simp) ?_
  refine AllReadyH.cons rfl (fun K hK => ?_) AllReadyH.nil
  go_simp
  refine HNx.out.mono ?_
  rintro e w2 ⟨⟨a, cc, rfl, hrow, hb5⟩⟩
  refine hK.out _ _ (below_at hb5 (below_at (drew_bel w) m1)) (fun hHeld => ?_)
  clear hK K
  refine wpAnyH_take (i := 8) (v := .slice a (takeN E.o.f E.o.p M.win).length cc) rfl (by kernel_rfl) (by kernel_rfl) (by kernel_rfl) (fun _ _ _ h => h) (Or.inl ⟨by rfl, fun w' hS => by go_simp⟩) hHeld ?_
  simp only [Act.put, List.getElem_toArray, List.getElem_cons_zero, List.getElem_cons_succ, List.setIfInBounds_toArray, List.set_cons_zero, List.set_cons_succ]
  refine wpAnyH_done (by kernel_rfl) ?_ _
  clear hHeld
  have hat := takeN_at E.o.f M.win E.o.p
  obtain ⟨bl, hbl⟩ : ∃ bl, takeN E.o.f E.o.p M.win = bl := ⟨_, rfl⟩
  rw [hbl] at hrow hat hln ⊢
  obtain ⟨n, hn⟩ : ∃ n, bl.length = n := ⟨_, rfl⟩
  rw [hn] at hrow hat hln ⊢
  have Hbl : Hid (bl = takeN E.o.f E.o.p M.win ∧ bl.length = n) := (show _ ∧ _ from ⟨hbl.symm, hn⟩)
  have Hat : Hid (∀ i, i < n → E.o.f (E.o.p + i + 1) = bl[i]?) := hat
  have Hb2 : Hid (Below w.heap.size w w2) := (show Below _ _ _ from bstep (drew_bel w) hb5)
  have Hrow : Hid (w2.ownsRow w.heap.size 25 1 (.slice a n cc) n (bl.map Bd.v)) := own_lower hrow (drew_bel w).size
  clear hbl hn hat hrow hb5 m1 HNx
  go_wp2_with (first | (at_make; refine wl_makeF rfl _ _ rfl _ _ n rfl rfl rfl rfl (by omega) ?_) | fail)
  intro w3 hf3 hb3
  obtain ⟨fb, hfb⟩ : ∃ fb, w2.heap.size = fb := ⟨_, rfl⟩
  rw [hfb] at hf3
  have HS0 : Hid (FrS w2 w3 fb n M.tag E.o.p bl 0 (fun _ => 0)) := ⟨hb3, hf3.congr fun j hj => (by unfold frf fri; rw [if_neg (by omega)]; rfl), fun j hj => by omega, fun j j' hj => by omega⟩
  have Hfb : Hid (w2.heap.size = fb) := hfb
  rw [hfb]
  clear hf3 hb3 hfb
  go_wp2
  go_loopw [28] (fun v28 wr => ∃ (i : Nat) (ks : Nat → Nat), i ≤ n ∧ v28 = .int .i64 (i : Int) ∧ Hid (FrS w2 wr fb n M.tag E.o.p bl i ks)) (fun v28 _ => n - (intOf v28).toNat)
  case atStart => exact ⟨0, _, Nat.zero_le _, rfl, HS0⟩
  case round =>
    obtain ⟨i, ks, hi, rfl, hs⟩ := hrel
    by_cases hlt : i < n
    · have hsb := hs.out.bel
      have hbw := bstep Hb2.out hsb
      have hEr := HE.out.still hbw
      have hMr := HM.out.still hbw
      have hbli : bl[i]? = some (gB bl i) := gB_at (by rw [Hbl.out.2]; exact hlt)
      have hfi : E.o.f (E.o.p + i + 1) = some (gB bl i) := (Hat.out i hlt).trans hbli
      have hbd := hEr.oo.el _ _ hfi
      have hrr := own_still Hrow.out hsb
      obtain ⟨ga, rfl⟩ : ∃ ga, a = some ⟨ga, 0, none⟩ := by
        rcases Hrow.out.2 with ⟨e1, e2⟩ | ⟨g, cap, cur, hv, _⟩
        · omega
        · simp at hv; exact ⟨g, hv.1⟩
      have hc0 : wr.cell? ⟨ga, i, none⟩ = some (gB bl i).v := by
        rw [World.ownsRow.cellAt hrr i (by omega), List.getElem?_map, hbli]; rfl
      obtain ⟨bk, hbk⟩ : ∃ bk, (gB bl i).k = bk := ⟨_, rfl⟩
      obtain ⟨bn, hbn⟩ : ∃ bn, (gB bl i).bs.length = bn := ⟨_, rfl⟩
      have hcell : wr.cell? ⟨ga, i, none⟩ = some (.slice (some ⟨bk, 0, none⟩) bn bn) := by rw [hc0]; unfold Bd.v; rw [hbk, hbn]
      have hle := hbd.le
      have HC : Hid (∀ D, Below wr.heap.size wr D → Calls Try.prog 40 #[.slice (some ⟨bk, 0, none⟩) bn bn] D fun e w' => e = .returned (.slice (some ⟨D.heap.size, 0, none⟩) bn bn) ∧ Bk w' D.heap.size (gB bl i).bs ∧ Below D.heap.size D w') := fun D hb => by
        have := copy_any (hbd.rd.still hb) (by omega)
        rw [hbk, hbn] at this
        exact this
      have HNF : Hid (∀ D w3, Below wr.heap.size wr D → Bk w3 D.heap.size (gB bl i).bs → Below D.heap.size D w3 → w3.there fb (i * 6) 6 ∧ (∀ u ∈ [Value.int .i64 M.tag.e, .int .i64 M.tag.l, .int .i64 M.tag.i, .int .i64 M.tag.c, .int .i64 ((E.o.p : Int) + (i : Int) + 1), .slice (some ⟨D.heap.size, 0, none⟩) bn bn], u.oneCell' = true) ∧ FrS w2 (w3.setCells fb (i * 6) [.int .i64 M.tag.e, .int .i64 M.tag.l, .int .i64 M.tag.i, .int .i64 M.tag.c, .int .i64 ((E.o.p : Int) + (i : Int) + 1), .slice (some ⟨D.heap.size, 0, none⟩) bn bn]) fb n M.tag E.o.p bl (i + 1) (upd ks i D.heap.size)) := fun D w3 hD hk3 hb3 => by
        have e1 := hs.out.next Hfb.out.symm hD hk3 hb3
        have e2 := frv_one M.tag (E.o.p + i + 1) D.heap.size (gB bl i).bs.length
        have e3 : frv M.tag (E.o.p + i + 1) (slv D.heap.size (gB bl i).bs.length) = [Value.int .i64 M.tag.e, .int .i64 M.tag.l, .int .i64 M.tag.i, .int .i64 M.tag.c, .int .i64 ((E.o.p : Int) + (i : Int) + 1), .slice (some ⟨D.heap.size, 0, none⟩) bn bn] := by unfold frv slv; rw [hbn]; rw [show ((E.o.p + i + 1 : Nat) : Int) = (E.o.p : Int) + (i : Int) + 1 by omega]
        rw [e3] at e1 e2
        exact ⟨(hs.out.row.keep (Kept.ofBelow (bstep hD hb3) (fun _ => False)) id).there _ _ (by omega), e2, e1⟩
      have m3 : wr.cell? ⟨M.b, 3, none⟩ = some (.int .i64 M.tag.e) := hMr.c 3 rfl
      have m4 : wr.cell? ⟨M.b, 4, none⟩ = some (.int .i64 M.tag.l) := hMr.c 4 rfl
      have m5 : wr.cell? ⟨M.b, 5, none⟩ = some (.int .i64 M.tag.i) := hMr.c 5 rfl
      have m6 : wr.cell? ⟨M.b, 6, none⟩ = some (.int .i64 M.tag.c) := hMr.c 6 rfl
      have x0 : wr.cell? ⟨E.b, 0, none⟩ = some (.int .i64 (E.o.p : Int)) := hEr.c 0 rfl
      have hfw : w.heap.size ≤ fb := by rw [← Hfb.out]; exact Hb2.out.size
      have Hne : Hid (M.b ≠ fb ∧ E.b ≠ fb) := (show _ ∧ _ from ⟨fun e => by have := lt_heap HM.out.blk; omega, fun e => by have := HE.out.lt (.inl rfl); omega⟩)
      have i1 : (0 : Int) ≤ (i : Int) := Int.natCast_nonneg _
      have i2 : (i : Int) < (n : Int) := by omega
      clear hs hsb hbw hEr hMr hbli hfi hbd hrr hc0 hbk hbn hfw
      go_wp2
      refine wp_region_held_drew (S := (fun w' => w'.cell? ⟨M.b, 3, none⟩ = some (.int .i64 M.tag.e) ∧ w'.cell? ⟨M.b, 4, none⟩ = some (.int .i64 M.tag.l) ∧ w'.cell? ⟨M.b, 5, none⟩ = some (.int .i64 M.tag.i) ∧ w'.cell? ⟨M.b, 6, none⟩ = some (.int .i64 M.tag.c) ∧ w'.cell? ⟨E.b, 0, none⟩ = some (.int .i64 (E.o.p : Int)))) (by kernel_rfl) ⟨below_at (Below.refl _ _).drew m3, below_at (Below.refl _ _).drew m4, below_at (Below.refl _ _).drew m5, below_at (Below.refl _ _).drew m6, below_at (Below.refl _ _).drew x0⟩ (fun hHeld => ?_)
      simp only [Act.put, List.size_toArray, List.length_cons, List.length_nil, Nat.zero_add]
      refine wpAnyH_take (i := 0) (v := .slice (some ⟨fb, 0, none⟩) n n) rfl (by kernel_rfl) (by kernel_rfl) (by kernel_rfl) (fun _ _ _ h => h) (Or.inl ⟨by rfl, fun w' hS => by go_simp⟩) hHeld ?_
      simp only [Act.put, List.getElem_toArray, List.getElem_cons_zero, List.getElem_cons_succ, List.setIfInBounds_toArray, List.set_cons_zero, List.set_cons_succ]
      refine wpAnyH_take (i := 1) (v := .int .i64 (i : Int)) rfl (by kernel_rfl) (by kernel_rfl) (by kernel_rfl) (fun _ _ _ h => h) (Or.inl ⟨by rfl, fun w' hS => by go_simp⟩) hHeld ?_
      simp only [Act.put, List.getElem_toArray, List.getElem_cons_zero, List.getElem_cons_succ, List.setIfInBounds_toArray, List.set_cons_zero, List.set_cons_succ]
      refine wpAnyH_take (i := 2) (v := .pointer (some ⟨M.b, 0, none⟩)) rfl (by kernel_rfl) (by kernel_rfl) (by kernel_rfl) (fun _ _ _ h => h) (Or.inl ⟨by rfl, fun w' hS => by go_simp⟩) hHeld ?_
      simp only [Act.put, List.getElem_toArray, List.getElem_cons_zero, List.getElem_cons_succ, List.setIfInBounds_toArray, List.set_cons_zero, List.set_cons_succ]
      refine wpAnyH_take (i := 3) (v := .pointer (some ⟨M.b, 0, none⟩)) rfl (by kernel_rfl) (by kernel_rfl) (by kernel_rfl) (fun _ _ _ h => h) (Or.inl ⟨by rfl, fun w' hS => by go_simp⟩) hHeld ?_
      simp only [Act.put, List.getElem_toArray, List.getElem_cons_zero, List.getElem_cons_succ, List.setIfInBounds_toArray, List.set_cons_zero, List.set_cons_succ]
      refine wpAnyH_take (i := 4) (v := .pointer (some ⟨M.b, 3, none⟩)) rfl (by kernel_rfl) (by kernel_rfl) (by kernel_rfl) (fun _ _ _ h => h) (Or.inl ⟨by rfl, fun w' hS => by go_simp⟩) hHeld ?_
      simp only [Act.put, List.getElem_toArray, List.getElem_cons_zero, List.getElem_cons_succ, List.setIfInBounds_toArray, List.set_cons_zero, List.set_cons_succ]
      refine wpAnyH_take (i := 5) (v := .agg #[.int .i64 M.tag.e, .int .i64 M.tag.l, .int .i64 M.tag.i, .int .i64 M.tag.c]) rfl (by kernel_rfl) (by kernel_rfl) (by kernel_rfl) (fun _ _ _ h => h) (Or.inl ⟨by rfl, fun w' hS => by (obtain ⟨s0, s1, s2, s3, s4⟩ := hS; go_simp)⟩) hHeld ?_
      simp only [Act.put, List.getElem_toArray, List.getElem_cons_zero, List.getElem_cons_succ, List.setIfInBounds_toArray, List.set_cons_zero, List.set_cons_succ]
      refine wpAnyH_take (i := 6) (v := .pointer (some ⟨E.b, 0, none⟩)) rfl (by kernel_rfl) (by kernel_rfl) (by kernel_rfl) (fun _ _ _ h => h) (Or.inl ⟨by rfl, fun w' hS => by go_simp⟩) hHeld ?_
      simp only [Act.put, List.getElem_toArray, List.getElem_cons_zero, List.getElem_cons_succ, List.setIfInBounds_toArray, List.set_cons_zero, List.set_cons_succ]
      refine wpAnyH_take (i := 7) (v := .pointer (some ⟨E.b, 0, none⟩)) rfl (by kernel_rfl) (by kernel_rfl) (by kernel_rfl) (fun _ _ _ h => h) (Or.inl ⟨by rfl, fun w' hS => by go_simp⟩) hHeld ?_
      simp only [Act.put, List.getElem_toArray, List.getElem_cons_zero, List.getElem_cons_succ, List.setIfInBounds_toArray, List.set_cons_zero, List.set_cons_succ]
      refine wpAnyH_take (i := 8) (v := .pointer (some ⟨E.b, 0, none⟩)) rfl (by kernel_rfl) (by kernel_rfl) (by kernel_rfl) (fun _ _ _ h => h) (Or.inl ⟨by rfl, fun w' hS => by go_simp⟩) hHeld ?_
      simp only [Act.put, List.getElem_toArray, List.getElem_cons_zero, List.getElem_cons_succ, List.setIfInBounds_toArray, List.set_cons_zero, List.set_cons_succ]
      refine wpAnyH_take (i := 9) (v := .pointer (some ⟨E.b, 0, none⟩)) rfl (by kernel_rfl) (by kernel_rfl) (by kernel_rfl) (fun _ _ _ h => h) (Or.inl ⟨by rfl, fun w' hS => by go_simp⟩) hHeld ?_
      simp only [Act.put, List.getElem_toArray, List.getElem_cons_zero, List.getElem_cons_succ, List.setIfInBounds_toArray, List.set_cons_zero, List.set_cons_succ]
      refine wpAnyH_take (i := 10) (v := .int .i64 (E.o.p : Int)) rfl (by kernel_rfl) (by kernel_rfl) (by kernel_rfl) (fun _ _ _ h => h) (Or.inl ⟨by rfl, fun w' hS => by (obtain ⟨s0, s1, s2, s3, s4⟩ := hS; go_simp)⟩) hHeld ?_
      simp only [Act.put, List.getElem_toArray, List.getElem_cons_zero, List.getElem_cons_succ, List.setIfInBounds_toArray, List.set_cons_zero, List.set_cons_succ]
      refine wpAnyH_take (i := 11) (v := .int .i64 (i : Int)) rfl (by kernel_rfl) (by kernel_rfl) (by kernel_rfl) (fun _ _ _ h => h) (Or.inl ⟨by rfl, fun w' hS => by go_simp⟩) hHeld ?_
      simp only [Act.put, List.getElem_toArray, List.getElem_cons_zero, List.getElem_cons_succ, List.setIfInBounds_toArray, List.set_cons_zero, List.set_cons_succ]
      refine wpAnyH_take (i := 12) (v := .int .i64 ((E.o.p : Int) + (i : Int))) rfl (by kernel_rfl) (by kernel_rfl) (by kernel_rfl) (fun _ _ _ h => h) (Or.inl ⟨by rfl, fun w' hS => by (go_simp; exact wrap_id (by omega) (by omega))⟩) hHeld ?_
      simp only [Act.put, List.getElem_toArray, List.getElem_cons_zero, List.getElem_cons_succ, List.setIfInBounds_toArray, List.set_cons_zero, List.set_cons_succ]
      refine wpAnyH_take (i := 13) (v := .int .i64 ((E.o.p : Int) + (i : Int) + 1)) rfl (by kernel_rfl) (by kernel_rfl) (by kernel_rfl) (fun _ _ _ h => h) (Or.inl ⟨by rfl, fun w' hS => by (go_simp; exact wrap_id (by omega) (by omega))⟩) hHeld ?_
      simp only [Act.put, List.getElem_toArray, List.getElem_cons_zero, List.getElem_cons_succ, List.setIfInBounds_toArray, List.set_cons_zero, List.set_cons_succ]
      refine wpAnyH_take (i := 14) (v := .slice (some ⟨bk, 0, none⟩) bn bn) rfl (by kernel_rfl) (by kernel_rfl) (by kernel_rfl) (fun _ _ _ h => h) (Or.inl ⟨by rfl, fun w' hS => by go_simp⟩) hHeld ?_
      simp only [Act.put, List.getElem_toArray, List.getElem_cons_zero, List.getElem_cons_succ, List.setIfInBounds_toArray, List.set_cons_zero, List.set_cons_succ]
      have q3 := below_at (drew_bel wr) m3
      have q4 := below_at (drew_bel wr) m4
      have q5 := below_at (drew_bel wr) m5
      have q6 := below_at (drew_bel wr) m6
      have q0 := below_at (drew_bel wr) x0
      have hbD : Below wr.heap.size wr wr.drew := drew_bel wr
      clear m3 m4 m5 m6 x0
      generalize wr.drew = D4 at *
      refine wpAnyH_ready (rs := [15]) (by kernel_rfl) (by simp) ?_
      refine AllReadyH.cons rfl (fun K hK => ?_) AllReadyH.nil
      go_simp
      refine (HC.out D4 hbD).mono ?_
      rintro e w3 ⟨rfl, hbk, hb3⟩
      refine hK.out _ _ ⟨below_at hb3 q3, below_at hb3 q4, below_at hb3 q5, below_at hb3 q6, below_at hb3 q0⟩ (fun hHeld => ?_)
      clear hK K
      refine wpAnyH_take (i := 16) (v := .agg #[.int .i64 M.tag.e, .int .i64 M.tag.l, .int .i64 M.tag.i, .int .i64 M.tag.c, .int .i64 ((E.o.p : Int) + (i : Int) + 1), .slice (some ⟨D4.heap.size, 0, none⟩) bn bn]) rfl (by kernel_rfl) (by kernel_rfl) (by kernel_rfl) (fun _ _ _ h => h) (Or.inl ⟨by rfl, fun w' hS => by go_simp⟩) hHeld ?_
      simp only [Act.put, List.getElem_toArray, List.getElem_cons_zero, List.getElem_cons_succ, List.setIfInBounds_toArray, List.set_cons_zero, List.set_cons_succ]
      refine wpAnyH_take (i := 17) (v := .pointer (some ⟨fb, i * 6, none⟩)) rfl (by kernel_rfl) (by kernel_rfl) (by kernel_rfl) (fun _ _ _ h => h) (Or.inl ⟨by rfl, fun w' hS => by go_simp⟩) hHeld ?_
      simp only [Act.put, List.getElem_toArray, List.getElem_cons_zero, List.getElem_cons_succ, List.setIfInBounds_toArray, List.set_cons_zero, List.set_cons_succ]
      obtain ⟨t1, t2, t3⟩ := HNF.out D4 w3 hbD hbk hb3
      refine wpAnyH_ready (rs := [18]) (by kernel_rfl) (by simp) ?_
      refine AllReadyH.cons rfl (fun K hK => ?_) AllReadyH.nil
      refine step_storeL rfl 54 (.tmp 50) (.tmp 49) rfl (L := [.int .i64 M.tag.e, .int .i64 M.tag.l, .int .i64 M.tag.i, .int .i64 M.tag.c, .int .i64 ((E.o.p : Int) + (i : Int) + 1), .slice (some ⟨D4.heap.size, 0, none⟩) bn bn]) rfl rfl t1 info_frame t2 ?_
      have kk : Kept w3 (w3.setCells fb (i * 6) [.int .i64 M.tag.e, .int .i64 M.tag.l, .int .i64 M.tag.i, .int .i64 M.tag.c, .int .i64 ((E.o.p : Int) + (i : Int) + 1), .slice (some ⟨D4.heap.size, 0, none⟩) bn bn]) (fun j => j = fb) := ksets (P := fun j => j = fb) rfl _ _ _
      refine hK.out _ _ ⟨kept_cell kk Hne.out.1 (below_at hb3 q3), kept_cell kk Hne.out.1 (below_at hb3 q4), kept_cell kk Hne.out.1 (below_at hb3 q5), kept_cell kk Hne.out.1 (below_at hb3 q6), kept_cell kk Hne.out.2 (below_at hb3 q0)⟩ (fun hHeld => ?_)
      have HT3 : Hid (FrS w2 _ fb n M.tag E.o.p bl (i + 1) _) := t3
      clear hK K kk t1 t2 t3 q3 q4 q5 q6 q0 hbk hb3 hbD
      refine wpAnyH_done (by kernel_rfl) ?_ _
      clear hHeld
      go_wp2
      exact ⟨⟨i + 1, _, by omega, by go_num, HT3⟩, by simp [intOf]; omega⟩
    · obtain rfl : i = n := by omega
      have HX : Hid (FrO w wr M E (.returned (.slice (some ⟨fb, 0, none⟩) i i))) := (show FrO _ _ _ _ _ from ⟨⟨fb, i, bl, ks, rfl, Hbl.out.1, Hbl.out.2, by rw [← Hfb.out]; exact Hb2.out.size, ⟨bstep Hb2.out hs.out.bel, hs.out.row, fun j hj => ⟨(hs.out.bk j hj).1, Nat.le_trans Hb2.out.size (hs.out.bk j hj).2⟩, hs.out.inj⟩⟩⟩)
      clear hs
      go_wp2
      go_ret
      exact HX.out
end
end Go.Proofs.Ytghihdenbdnnjaa.Ln
