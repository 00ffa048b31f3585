import Derived.Test.YtghihdenbdnnjaaLku
namespace Go.Proofs.Ytghihdenbdnnjaa.Ln
open Go.RowKit Mb
set_option linter.unusedVariables false
set_option maxRecDepth 100000
set_option linter.unusedSimpArgs false
section
variable {w w' W : World} {B : Nat} {X X' : Wr}
theorem qat2 (h : X.Ok w B) {s t : Nat} (hs : s < 2) (ht : t = 1 - s) : (X.m t).at (2 + 3 * (s : Int)) = some (X.e t) := by
  have e : (2 + 3 * (s : Int)) = ((pid (1 - t) : Nat) : Int) := by unfold pid; omega
  rw [e]
  exact at_some (h.mo t (by omega)) (h.me t (by omega))
theorem Wr.Ok.rowa (h : X.Ok w B) {s : Nat} (hs : s < 2) : w.ownsRow B 57 5 (X.v (10 + s)) (X.a s).length ((X.a s).flatMap akc) := by
  have := h.row (10 + s) (by omega) (by omega)
  have e1 : rowT (10 + s) = 57 := by unfold rowT; rw [if_neg (by omega), if_neg (by omega)]
  have e2 : rowS (10 + s) = 5 := by unfold rowS; rw [if_neg (by omega), if_neg (by omega)]
  have e3 : X.rowN (10 + s) = (X.a s).length := by unfold Wr.rowN; rw [if_neg (by omega), if_neg (by omega), if_neg (by omega), Nat.add_sub_cancel_left]
  have e4 : X.rowC (10 + s) = (X.a s).flatMap akc := by unfold Wr.rowC; rw [if_neg (by omega), if_neg (by omega), if_neg (by omega), Nat.add_sub_cancel_left]
  rw [e1, e2, e3, e4] at this
  exact this
theorem Wr.Ok.rowf (h : X.Ok w B) {s : Nat} (hs : s < 2) : w.ownsRow B 54 6 (X.v (8 + s)) (X.f s).length ((X.f s).flatMap frc) := by
  have := h.row (8 + s) (by omega) (by omega)
  have e1 : rowT (8 + s) = 54 := by unfold rowT; rw [if_neg (by omega), if_pos (by omega)]
  have e2 : rowS (8 + s) = 6 := by unfold rowS; rw [if_neg (by omega), if_pos (by omega)]
  have e3 : X.rowN (8 + s) = (X.f s).length := by unfold Wr.rowN; rw [if_neg (by omega), if_neg (by omega), if_pos (by omega), Nat.add_sub_cancel_left]
  have e4 : X.rowC (8 + s) = (X.f s).flatMap frc := by unfold Wr.rowC; rw [if_neg (by omega), if_neg (by omega), if_pos (by omega), Nat.add_sub_cancel_left]
  rw [e1, e2, e3, e4] at this
  exact this
theorem Wr.Ok.rowo (h : X.Ok w B) {s : Nat} (hs : s < 2) : w.ownsRow B 25 1 (X.v (6 + s)) (X.o s).length ((X.o s).map Bn.v) := by
  have := h.row (6 + s) (by omega) (by omega)
  have e1 : rowT (6 + s) = 25 := by unfold rowT; rw [if_pos (by omega)]
  have e2 : rowS (6 + s) = 1 := by unfold rowS; rw [if_pos (by omega)]
  have e3 : X.rowN (6 + s) = (X.o s).length := by unfold Wr.rowN; rw [if_neg (by omega), if_pos (by omega), Nat.add_sub_cancel_left]
  have e4 : X.rowC (6 + s) = (X.o s).map Bn.v := by unfold Wr.rowC; rw [if_neg (by omega), if_pos (by omega), Nat.add_sub_cancel_left]
  rw [e1, e2, e3, e4] at this
  exact this
theorem flat_at {α : Type} (g : α → List Value) (k : Nat) (hg : ∀ x, (g x).length = k) : ∀ (l : List α) (i j : Nat) (d : α), i < l.length → j < k → (l.flatMap g)[i * k + j]? = (g (l.getD i d))[j]?
  | [], i, j, d, hi, _ => by simp at hi
  | x :: l, 0, j, d, _, hj => by
      simp only [List.flatMap_cons, Nat.zero_mul, Nat.zero_add]
      rw [List.getElem?_append_left (by rw [hg]; exact hj)]
      rfl
  | x :: l, i + 1, j, d, hi, hj => by
      simp only [List.flatMap_cons]
      rw [List.getElem?_append_right (by rw [hg]; rw [Nat.add_mul]; omega), hg]
      rw [show (i + 1) * k + j - k = i * k + j by rw [Nat.add_mul]; omega]
      have := flat_at g k hg l i j d (by simpa using hi) hj
      simpa [List.getD] using this
theorem own_at {t sz n b : Nat} {c : Nat} {l : List Value} (h : w.ownsRow B t sz (.slice (some ⟨b, 0, none⟩) n c) n l) {j : Nat} (hj : j < n * sz) : w.cell? ⟨b, j, none⟩ = l[j]? := World.ownsRow.cellAt h j hj
theorem row_some {t sz n c : Nat} {a : Option Addr} {l : List Value} (h : w.ownsRow B t sz (.slice a n c) n l) (hn : 0 < n) : ∃ g, a = some ⟨g, 0, none⟩ := by
  rcases h.2 with ⟨e1, e2⟩ | ⟨g, cap, cur, hv, _⟩
  · omega
  · simp at hv; exact ⟨g, hv.1⟩
theorem rem_nat {x : Int} (hx : 0 ≤ x) (l : Nat) : Int.tmod x (l : Int) = ((x.toNat % l : Nat) : Int) := by
  obtain ⟨k, rfl⟩ := Int.eq_ofNat_of_zero_le hx
  rw [tmod_nat, Int.toNat_natCast]
set_option maxHeartbeats 2000000 in
theorem wanswer_any (h : X.Ok w B) (hI : X.pu.Inv) {s : Nat} (hs : s < 2) {n : Int} (hn0 : -9223372036854775808 ≤ n) (hn1 : n ≤ 9223372036854775807) : Calls Try.prog 34 #[.pointer (some ⟨X.b, 0, none⟩), .int .i64 (s : Int), .int .i64 n] w fun e w' => XO w w' X B (X.pu.answer s n) e := by
  have i1 : (0 : Int) ≤ (s : Int) := Int.natCast_nonneg _
  have i2 : (s : Int) < 2 := by omega
  have rv := h.cr (i := 10 + s) (by omega) (by omega)
  have hrow := h.rowa hs
  obtain ⟨ra, cc, hv⟩ := row_shape hrow
  rw [hv] at rv hrow
  obtain ⟨ln, hln⟩ : ∃ ln, (X.a s).length = ln := ⟨_, rfl⟩
  rw [hln] at rv hrow
  by_cases hl : ln = 0
  · have hz : ((ln : Int) == 0) = true := by rw [beq_iff_eq]; omega
    have HX : Hid (XO w w X B (X.pu.answer s n) (.returned (.bool true))) := (show XO _ _ _ _ _ _ from ⟨rfl, X, Xstep.refl h, by unfold Px.answer; rw [if_pos (show X.pu.a s = [] from List.eq_nil_of_length_eq_zero (by show (X.a s).length = 0; omega))]⟩)
    clear hrow hl hln hv h hI
    go_enter Try.func34, Try.ntmps34
    go_wp2
    go_ret
    exact HX.out
  have hz : ((ln : Int) == 0) = false := by rw [beq_eq_false_iff_ne]; omega
  obtain ⟨g, rfl⟩ := row_some hrow (by omega)
  obtain ⟨k, hk⟩ : ∃ k, pick n ln = k := ⟨_, rfl⟩
  have hkl : k < ln := by rw [← hk]; exact pick_lt n (by omega)
  obtain ⟨u, hu⟩ : ∃ u, (X.a s).getD k 0 = u := ⟨_, rfl⟩
  have hat : ∀ j, j < 5 → w.cell? ⟨g, k * 5 + j, none⟩ = (akc u)[j]? := fun j hj => by
    rw [own_at hrow (by omega), flat_at akc 5 (fun _ => rfl) _ k j 0 (by omega) hj, hu]
  have x0 : w.cell? ⟨g, k * 5, none⟩ = some (.int .i64 3) := hat 0 (by omega)
  have x1 : w.cell? ⟨g, k * 5 + 1, none⟩ = some (.int .i64 2) := hat 1 (by omega)
  have x2 : w.cell? ⟨g, k * 5 + 2, none⟩ = some (.int .i64 4) := hat 2 (by omega)
  have x3 : w.cell? ⟨g, k * 5 + 3, none⟩ = some (.int .i64 9) := hat 3 (by omega)
  have x4 : w.cell? ⟨g, k * 5 + 4, none⟩ = some (.int .i64 (u : Int)) := hat 4 (by omega)
  have Hk : Hid (Int.tmod (absI n) (ln : Int) = (k : Int)) := (show _ = _ from by rw [rem_nat (absI_nn n)]; exact congrArg _ hk)
  obtain ⟨t, ht⟩ : ∃ t, t = 1 - s := ⟨_, rfl⟩
  have Hts : Hid ((1 : Int) - (s : Int) = (t : Int)) := (show _ = _ from by omega)
  have Ht2 : Hid (t < 2) := (show t < 2 from by omega)
  have hum : u ∈ X.a s := by rw [← hu]; exact getD_mem (by omega)
  have HP : Hid (X.pu.answer s n = X.pu.setE t ((X.e t).pu.acked u)) := (show _ = _ from by
    unfold Px.answer
    rw [if_neg (show ¬ X.pu.a s = [] from fun e => by have h9 : (X.a s).length = 0 := (by rw [show X.a s = [] from e]; rfl); omega)]
    have e1 : (X.pu.a s).getD (pick n (X.pu.a s).length) 0 = u := by show (X.a s).getD (pick n (X.a s).length) 0 = u; rw [hln, hk, hu]
    rw [e1, ← ht]; rfl)
  have hIt : u ≤ (X.e s).i.p ∧ (X.e t).o.p ≤ (X.e s).i.p ∧ (X.e s).i.p ≤ (X.e t).o.p + X.win ∧ (X.e s).i.p ≤ (X.e t).sent := by
    have h1 := hI t (by omega)
    have e1 : 1 - t = s := by omega
    rw [e1] at h1
    exact ⟨h1.ak u hum, h1.op, h1.ipw, by have := h1.sent; have e2 := h1.le; have e3 : (X.e t).sent = _ := this; have e4 : (X.e s).i.p ≤ _ := e2; omega⟩
  have h62 := ((h.mo t Ht2.out).el _ _ (h.me t Ht2.out)).s62
  have HA : ∀ D, Below w.heap.size w D → Calls Try.prog 16 #[.pointer (some ⟨(X.m t).b, 0, none⟩), .int .i64 (2 + 3 * (s : Int)), .agg #[.int .i64 3, .int .i64 2, .int .i64 4, .int .i64 9, .int .i64 (u : Int)]] D fun e w' => e = .returned (.int .i64 0) ∧ AckO D w' B (X.m t) (X.e t) u := fun D hb => by
    have h4 := h.still hb
    have mt := h4.mt t Ht2.out
    have hs2 := ((h4.mo t Ht2.out).el _ _ (h4.me t Ht2.out)).s1
    have := acked_ok (h4.mo t Ht2.out) (qat2 h4 hs ht) tg9 (u := u) (by omega) (by rw [mt.1]) (by rw [mt.2.1]; omega)
    exact this
  have HA2 : Hid (∀ D, Below w.heap.size w D → Calls Try.prog 16 #[.pointer (some ⟨(X.m t).b, 0, none⟩), .int .i64 (2 + 3 * (s : Int)), .agg #[.int .i64 3, .int .i64 2, .int .i64 4, .int .i64 9, .int .i64 (u : Int)]] D fun e w' => e = .returned (.int .i64 0) ∧ AckO D w' B (X.m t) (X.e t) u) := HA
  have Hl0 : Hid (¬ ln = 0) := hl
  have Hh : Hid (X.Ok w B) := h
  have i3 : (0 : Int) ≤ (k : Int) := Int.natCast_nonneg _
  have i4 : (k : Int) < (ln : Int) := by omega
  have i5 : (0 : Int) ≤ (t : Int) := Int.natCast_nonneg _
  have i6 : (t : Int) < 2 := by have := Ht2.out; omega
  clear HA h hI hat hrow hv hln hl hk hkl hu hum hIt h62 ht
  go_enter Try.func34, Try.ntmps34
  go_upto_region 3 with (fail)
  go_cut [7] (fun v7 wx => ∃ kd : Nat, v7 = .pointer (some ⟨kd, 0, none⟩) ∧ Hid (wx.heap[kd]? = some (.cells [.int .i64 3, .int .i64 2, .int .i64 4, .int .i64 9, .int .i64 (u : Int)].toArray 57 (0, 0))) ∧ Hid (Below w.heap.size w wx))
  case first =>
    go_wp2_with (fail)
    refine wp_region_held_drew (S := (fun w' => w'.cell? ⟨X.b, 10 + s, none⟩ = some (.slice (some ⟨g, 0, none⟩) ln cc) ∧ w'.cell? ⟨g, k * 5, none⟩ = some (.int .i64 3) ∧ w'.cell? ⟨g, k * 5 + 1, none⟩ = some (.int .i64 2) ∧ w'.cell? ⟨g, k * 5 + 2, none⟩ = some (.int .i64 4) ∧ w'.cell? ⟨g, k * 5 + 3, none⟩ = some (.int .i64 9) ∧ w'.cell? ⟨g, k * 5 + 4, none⟩ = some (.int .i64 (u : Int)))) (by kernel_rfl) ⟨below_at (drew_bel _) rv, below_at (drew_bel _) x0, below_at (drew_bel _) x1, below_at (drew_bel _) x2, below_at (drew_bel _) x3, below_at (drew_bel _) x4⟩ (fun hHeld => ?_)
    simp only [Act.put, List.size_toArray, List.length_cons, List.length_nil, Nat.zero_add]
    refine wpAnyH_take (i := 0) (v := .pointer (some ⟨X.b, 0, none⟩)) rfl (by kernel_rfl) (by kernel_rfl) (by kernel_rfl) (fun _ _ _ h => h) (Or.inl ⟨by rfl, fun w' hS => by go_simp⟩) hHeld ?_
    simp only [Act.put, List.getElem_toArray, List.getElem_cons_zero, List.getElem_cons_succ, List.setIfInBounds_toArray, List.set_cons_zero, List.set_cons_succ]
    refine wpAnyH_take (i := 1) (v := .int .i64 (s : Int)) rfl (by kernel_rfl) (by kernel_rfl) (by kernel_rfl) (fun _ _ _ h => h) (Or.inl ⟨by rfl, fun w' hS => by go_simp⟩) hHeld ?_
    simp only [Act.put, List.getElem_toArray, List.getElem_cons_zero, List.getElem_cons_succ, List.setIfInBounds_toArray, List.set_cons_zero, List.set_cons_succ]
    refine wpAnyH_take (i := 2) (v := .pointer (some ⟨X.b, 0, none⟩)) rfl (by kernel_rfl) (by kernel_rfl) (by kernel_rfl) (fun _ _ _ h => h) (Or.inl ⟨by rfl, fun w' hS => by go_simp⟩) hHeld ?_
    simp only [Act.put, List.getElem_toArray, List.getElem_cons_zero, List.getElem_cons_succ, List.setIfInBounds_toArray, List.set_cons_zero, List.set_cons_succ]
    refine wpAnyH_take (i := 3) (v := .pointer (some ⟨X.b, 10, none⟩)) rfl (by kernel_rfl) (by kernel_rfl) (by kernel_rfl) (fun _ _ _ h => h) (Or.inl ⟨by rfl, fun w' hS => by go_simp⟩) hHeld ?_
    simp only [Act.put, List.getElem_toArray, List.getElem_cons_zero, List.getElem_cons_succ, List.setIfInBounds_toArray, List.set_cons_zero, List.set_cons_succ]
    refine wpAnyH_take (i := 4) (v := .pointer (some ⟨X.b, 10 + s, none⟩)) rfl (by kernel_rfl) (by kernel_rfl) (by kernel_rfl) (fun _ _ _ h => h) (Or.inl ⟨by rfl, fun w' hS => by go_simp⟩) hHeld ?_
    simp only [Act.put, List.getElem_toArray, List.getElem_cons_zero, List.getElem_cons_succ, List.setIfInBounds_toArray, List.set_cons_zero, List.set_cons_succ]
    refine wpAnyH_take (i := 5) (v := .slice (some ⟨g, 0, none⟩) ln cc) rfl (by kernel_rfl) (by kernel_rfl) (by kernel_rfl) (fun _ _ _ h => h) (Or.inl ⟨by rfl, fun w' hS => by (obtain ⟨s0, t0, t1, t2, t3, t4⟩ := hS; go_simp)⟩) hHeld ?_
    simp only [Act.put, List.getElem_toArray, List.getElem_cons_zero, List.getElem_cons_succ, List.setIfInBounds_toArray, List.set_cons_zero, List.set_cons_succ]
    refine wpAnyH_take (i := 6) (v := .int .i64 n) rfl (by kernel_rfl) (by kernel_rfl) (by kernel_rfl) (fun _ _ _ h => h) (Or.inl ⟨by rfl, fun w' hS => by go_simp⟩) hHeld ?_
    simp only [Act.put, List.getElem_toArray, List.getElem_cons_zero, List.getElem_cons_succ, List.setIfInBounds_toArray, List.set_cons_zero, List.set_cons_succ]
    refine wpAnyH_take (i := 8) (v := .pointer (some ⟨X.b, 0, none⟩)) rfl (by kernel_rfl) (by kernel_rfl) (by kernel_rfl) (fun _ _ _ h => h) (Or.inl ⟨by rfl, fun w' hS => by go_simp⟩) hHeld ?_
    simp only [Act.put, List.getElem_toArray, List.getElem_cons_zero, List.getElem_cons_succ, List.setIfInBounds_toArray, List.set_cons_zero, List.set_cons_succ]
    refine wpAnyH_take (i := 9) (v := .int .i64 (s : Int)) rfl (by kernel_rfl) (by kernel_rfl) (by kernel_rfl) (fun _ _ _ h => h) (Or.inl ⟨by rfl, fun w' hS => by go_simp⟩) hHeld ?_
    simp only [Act.put, List.getElem_toArray, List.getElem_cons_zero, List.getElem_cons_succ, List.setIfInBounds_toArray, List.set_cons_zero, List.set_cons_succ]
    refine wpAnyH_take (i := 10) (v := .pointer (some ⟨X.b, 0, none⟩)) rfl (by kernel_rfl) (by kernel_rfl) (by kernel_rfl) (fun _ _ _ h => h) (Or.inl ⟨by rfl, fun w' hS => by go_simp⟩) hHeld ?_
    simp only [Act.put, List.getElem_toArray, List.getElem_cons_zero, List.getElem_cons_succ, List.setIfInBounds_toArray, List.set_cons_zero, List.set_cons_succ]
    refine wpAnyH_take (i := 11) (v := .pointer (some ⟨X.b, 10, none⟩)) rfl (by kernel_rfl) (by kernel_rfl) (by kernel_rfl) (fun _ _ _ h => h) (Or.inl ⟨by rfl, fun w' hS => by go_simp⟩) hHeld ?_
    simp only [Act.put, List.getElem_toArray, List.getElem_cons_zero, List.getElem_cons_succ, List.setIfInBounds_toArray, List.set_cons_zero, List.set_cons_succ]
    refine wpAnyH_take (i := 12) (v := .pointer (some ⟨X.b, 10 + s, none⟩)) rfl (by kernel_rfl) (by kernel_rfl) (by kernel_rfl) (fun _ _ _ h => h) (Or.inl ⟨by rfl, fun w' hS => by go_simp⟩) hHeld ?_
    simp only [Act.put, List.getElem_toArray, List.getElem_cons_zero, List.getElem_cons_succ, List.setIfInBounds_toArray, List.set_cons_zero, List.set_cons_succ]
    refine wpAnyH_take (i := 13) (v := .slice (some ⟨g, 0, none⟩) ln cc) rfl (by kernel_rfl) (by kernel_rfl) (by kernel_rfl) (fun _ _ _ h => h) (Or.inl ⟨by rfl, fun w' hS => by (obtain ⟨s0, t0, t1, t2, t3, t4⟩ := hS; go_simp)⟩) hHeld ?_
    simp only [Act.put, List.getElem_toArray, List.getElem_cons_zero, List.getElem_cons_succ, List.setIfInBounds_toArray, List.set_cons_zero, List.set_cons_succ]
    refine wpAnyH_take (i := 14) (v := .int .i64 (ln : Int)) rfl (by kernel_rfl) (by kernel_rfl) (by kernel_rfl) (fun _ _ _ h => h) (Or.inl ⟨by rfl, fun w' hS => by go_simp⟩) hHeld ?_
    simp only [Act.put, List.getElem_toArray, List.getElem_cons_zero, List.getElem_cons_succ, List.setIfInBounds_toArray, List.set_cons_zero, List.set_cons_succ]
    have hbD : Below w.heap.size w w.drew := drew_bel w
    have qrv := below_at hbD rv
    have qx0 := below_at hbD x0
    have qx1 := below_at hbD x1
    have qx2 := below_at hbD x2
    have qx3 := below_at hbD x3
    have qx4 := below_at hbD x4
    clear rv x0 x1 x2 x3 x4
    generalize w.drew = D0 at *
    refine wpAnyH_ready (rs := [7, 18]) (by kernel_rfl) (by simp) ?_
    refine AllReadyH.cons rfl (fun K hK => ?_) (AllReadyH.cons rfl (fun K hK => ?_) AllReadyH.nil)
    · go_simp
      refine (abs_any hn0 hn1).mono ?_
      rintro e w2 ⟨rfl, rfl⟩
      refine hK.out _ _ ⟨qrv, qx0, qx1, qx2, qx3, qx4⟩ (fun hHeld => ?_)
      clear hK K
      refine wpAnyH_take (i := 15) (v := .int .i64 (k : Int)) rfl (by kernel_rfl) (by kernel_rfl) (by kernel_rfl) (fun _ _ _ h => h) (Or.inl ⟨by rfl, fun w' hS => by (go_simp; rw [if_neg Hl0.out, Hk.out])⟩) hHeld ?_
      simp only [Act.put, List.getElem_toArray, List.getElem_cons_zero, List.getElem_cons_succ, List.setIfInBounds_toArray, List.set_cons_zero, List.set_cons_succ]
      refine wpAnyH_take (i := 16) (v := .pointer (some ⟨g, k * 5, none⟩)) rfl (by kernel_rfl) (by kernel_rfl) (by kernel_rfl) (fun _ _ _ h => h) (Or.inl ⟨by rfl, fun w' hS => by go_simp⟩) hHeld ?_
      simp only [Act.put, List.getElem_toArray, List.getElem_cons_zero, List.getElem_cons_succ, List.setIfInBounds_toArray, List.set_cons_zero, List.set_cons_succ]
      refine wpAnyH_take (i := 17) (v := .agg #[.int .i64 3, .int .i64 2, .int .i64 4, .int .i64 9, .int .i64 (u : Int)]) rfl (by kernel_rfl) (by kernel_rfl) (by kernel_rfl) (fun _ _ _ h => h) (Or.inl ⟨by rfl, fun w' hS => by (obtain ⟨s0, t0, t1, t2, t3, t4⟩ := hS; go_simp)⟩) hHeld ?_
      simp only [Act.put, List.getElem_toArray, List.getElem_cons_zero, List.getElem_cons_succ, List.setIfInBounds_toArray, List.set_cons_zero, List.set_cons_succ]
      refine wpAnyH_ready (rs := [18]) (by kernel_rfl) (by simp) ?_
      refine AllReadyH.cons rfl (fun K hK => ?_) AllReadyH.nil
      go_simp
      refine hK.out _ _ ⟨below_at (balloc (Below.refl _ _)) qrv, below_at (balloc (Below.refl _ _)) qx0, below_at (balloc (Below.refl _ _)) qx1, below_at (balloc (Below.refl _ _)) qx2, below_at (balloc (Below.refl _ _)) qx3, below_at (balloc (Below.refl _ _)) qx4⟩ (fun hHeld => ?_)
      clear hK K
      have hkb : (D0.alloc (.cells #[.int .i64 0, .int .i64 0, .int .i64 0, .int .i64 0, .int .i64 0] 57)).heap[D0.heap.size]? = some (.cells #[.int .i64 0, .int .i64 0, .int .i64 0, .int .i64 0, .int .i64 0] 57 (0, 0)) := heap_alloc_new _ _
      have hbA : Below D0.heap.size D0 (D0.alloc (.cells #[.int .i64 0, .int .i64 0, .int .i64 0, .int .i64 0, .int .i64 0] 57)) := balloc (Below.refl _ _)
      have hset : Below D0.heap.size D0 ((D0.alloc (.cells #[.int .i64 0, .int .i64 0, .int .i64 0, .int .i64 0, .int .i64 0] 57)).setCells D0.heap.size 0 [.int .i64 3, .int .i64 2, .int .i64 4, .int .i64 9, .int .i64 (u : Int)]) := bsets (Nat.le_refl _) _ _ hbA
      refine wpAnyH_ready (rs := [19]) (by kernel_rfl) (by simp) ?_
      refine AllReadyH.cons rfl (fun K hK => ?_) AllReadyH.nil
      refine step_storeL rfl 57 (.tmp 7) (.tmp 33) rfl (L := [.int .i64 3, .int .i64 2, .int .i64 4, .int .i64 9, .int .i64 (u : Int)]) rfl rfl (blk_there hkb rfl) (by kernel_rfl) (by intro u hu; simp at hu; rcases hu with rfl | rfl | rfl | rfl | rfl <;> rfl) ?_
      refine hK.out _ _ ⟨below_at hset qrv, below_at hset qx0, below_at hset qx1, below_at hset qx2, below_at hset qx3, below_at hset qx4⟩ (fun hHeld => ?_)
      clear hK K
      refine wpAnyH_done (by kernel_rfl) ?_ _
      clear hHeld
      simp only [Act.put, List.getElem_toArray, List.getElem_cons_zero, List.getElem_cons_succ, List.setIfInBounds_toArray, List.set_cons_zero, List.set_cons_succ]
      go_wp2
      go_meet
      exact ⟨D0.heap.size, rfl, sets_whole hkb rfl, bstep hbD hset⟩
    · go_simp
      refine hK.out _ _ ⟨below_at (balloc (Below.refl _ _)) qrv, below_at (balloc (Below.refl _ _)) qx0, below_at (balloc (Below.refl _ _)) qx1, below_at (balloc (Below.refl _ _)) qx2, below_at (balloc (Below.refl _ _)) qx3, below_at (balloc (Below.refl _ _)) qx4⟩ (fun hHeld => ?_)
      clear hK K
      refine wpAnyH_ready (rs := [7]) (by kernel_rfl) (by simp) ?_
      refine AllReadyH.cons rfl (fun K hK => ?_) AllReadyH.nil
      go_simp
      refine (abs_any hn0 hn1).mono ?_
      rintro e w2 ⟨rfl, rfl⟩
      refine hK.out _ _ ⟨below_at (balloc (Below.refl _ _)) qrv, below_at (balloc (Below.refl _ _)) qx0, below_at (balloc (Below.refl _ _)) qx1, below_at (balloc (Below.refl _ _)) qx2, below_at (balloc (Below.refl _ _)) qx3, below_at (balloc (Below.refl _ _)) qx4⟩ (fun hHeld => ?_)
      clear hK K
      refine wpAnyH_take (i := 15) (v := .int .i64 (k : Int)) rfl (by kernel_rfl) (by kernel_rfl) (by kernel_rfl) (fun _ _ _ h => h) (Or.inl ⟨by rfl, fun w' hS => by (go_simp; rw [if_neg Hl0.out, Hk.out])⟩) hHeld ?_
      simp only [Act.put, List.getElem_toArray, List.getElem_cons_zero, List.getElem_cons_succ, List.setIfInBounds_toArray, List.set_cons_zero, List.set_cons_succ]
      refine wpAnyH_take (i := 16) (v := .pointer (some ⟨g, k * 5, none⟩)) rfl (by kernel_rfl) (by kernel_rfl) (by kernel_rfl) (fun _ _ _ h => h) (Or.inl ⟨by rfl, fun w' hS => by go_simp⟩) hHeld ?_
      simp only [Act.put, List.getElem_toArray, List.getElem_cons_zero, List.getElem_cons_succ, List.setIfInBounds_toArray, List.set_cons_zero, List.set_cons_succ]
      refine wpAnyH_take (i := 17) (v := .agg #[.int .i64 3, .int .i64 2, .int .i64 4, .int .i64 9, .int .i64 (u : Int)]) rfl (by kernel_rfl) (by kernel_rfl) (by kernel_rfl) (fun _ _ _ h => h) (Or.inl ⟨by rfl, fun w' hS => by (obtain ⟨s0, t0, t1, t2, t3, t4⟩ := hS; go_simp)⟩) hHeld ?_
      simp only [Act.put, List.getElem_toArray, List.getElem_cons_zero, List.getElem_cons_succ, List.setIfInBounds_toArray, List.set_cons_zero, List.set_cons_succ]
      have hkb : (D0.alloc (.cells #[.int .i64 0, .int .i64 0, .int .i64 0, .int .i64 0, .int .i64 0] 57)).heap[D0.heap.size]? = some (.cells #[.int .i64 0, .int .i64 0, .int .i64 0, .int .i64 0, .int .i64 0] 57 (0, 0)) := heap_alloc_new _ _
      have hbA : Below D0.heap.size D0 (D0.alloc (.cells #[.int .i64 0, .int .i64 0, .int .i64 0, .int .i64 0, .int .i64 0] 57)) := balloc (Below.refl _ _)
      have hset : Below D0.heap.size D0 ((D0.alloc (.cells #[.int .i64 0, .int .i64 0, .int .i64 0, .int .i64 0, .int .i64 0] 57)).setCells D0.heap.size 0 [.int .i64 3, .int .i64 2, .int .i64 4, .int .i64 9, .int .i64 (u : Int)]) := bsets (Nat.le_refl _) _ _ hbA
      refine wpAnyH_ready (rs := [19]) (by kernel_rfl) (by simp) ?_
      refine AllReadyH.cons rfl (fun K hK => ?_) AllReadyH.nil
      refine step_storeL rfl 57 (.tmp 7) (.tmp 33) rfl (L := [.int .i64 3, .int .i64 2, .int .i64 4, .int .i64 9, .int .i64 (u : Int)]) rfl rfl (blk_there hkb rfl) (by kernel_rfl) (by intro u hu; simp at hu; rcases hu with rfl | rfl | rfl | rfl | rfl <;> rfl) ?_
      refine hK.out _ _ ⟨below_at hset qrv, below_at hset qx0, below_at hset qx1, below_at hset qx2, below_at hset qx3, below_at hset qx4⟩ (fun hHeld => ?_)
      clear hK K
      refine wpAnyH_done (by kernel_rfl) ?_ _
      clear hHeld
      simp only [Act.put, List.getElem_toArray, List.getElem_cons_zero, List.getElem_cons_succ, List.setIfInBounds_toArray, List.set_cons_zero, List.set_cons_succ]
      go_wp2
      go_meet
      exact ⟨D0.heap.size, rfl, sets_whole hkb rfl, bstep hbD hset⟩
  case rest =>
  obtain ⟨kd, rfl, Hblk, HBc⟩ := hcut
  have hXc := Hh.out.still HBc.out
  have HXc : Hid (X.Ok wc B) := hXc
  have cm := hXc.cm Ht2.out
  have y0 : wc.cell? ⟨kd, 0, none⟩ = some (.int .i64 3) := blk_cell Hblk.out 0
  have y1 : wc.cell? ⟨kd, 1, none⟩ = some (.int .i64 2) := blk_cell Hblk.out 1
  have y2 : wc.cell? ⟨kd, 2, none⟩ = some (.int .i64 4) := blk_cell Hblk.out 2
  have y3 : wc.cell? ⟨kd, 3, none⟩ = some (.int .i64 9) := blk_cell Hblk.out 3
  have y4 : wc.cell? ⟨kd, 4, none⟩ = some (.int .i64 (u : Int)) := blk_cell Hblk.out 4
  have Hkd : Hid (¬ (X.m t).own kd) := (show ¬ (X.m t).own kd from (hXc.mo t Ht2.out).ne_t Hblk.out (by decide) (by decide) (by decide) (by decide) (by decide))
  have HA : Hid (∀ D, Below wc.heap.size wc D → Calls Try.prog 16 #[.pointer (some ⟨(X.m t).b, 0, none⟩), .int .i64 (2 + 3 * (s : Int)), .agg #[.int .i64 3, .int .i64 2, .int .i64 4, .int .i64 9, .int .i64 (u : Int)]] D fun e w' => e = .returned (.int .i64 0) ∧ AckO D w' B (X.m t) (X.e t) u) := fun D hb => HA2.out D (bstep HBc.out hb)
  clear hXc rv x0 x1 x2 x3 x4
  go_wp2
  refine wp_region_held_drew (S := (fun w' => w'.cell? ⟨X.b, t, none⟩ = some (.pointer (some ⟨(X.m t).b, 0, none⟩)) ∧ w'.cell? ⟨kd, 0, none⟩ = some (.int .i64 3) ∧ w'.cell? ⟨kd, 1, none⟩ = some (.int .i64 2) ∧ w'.cell? ⟨kd, 2, none⟩ = some (.int .i64 4) ∧ w'.cell? ⟨kd, 3, none⟩ = some (.int .i64 9) ∧ w'.cell? ⟨kd, 4, none⟩ = some (.int .i64 (u : Int)))) (by kernel_rfl) ⟨below_at (drew_bel _) cm, below_at (drew_bel _) y0, below_at (drew_bel _) y1, below_at (drew_bel _) y2, below_at (drew_bel _) y3, below_at (drew_bel _) y4⟩ (fun hHeld => ?_)
  simp only [Act.put, List.size_toArray, List.length_cons, List.length_nil, Nat.zero_add]
  refine wpAnyH_take (i := 0) (v := .pointer (some ⟨X.b, 0, none⟩)) rfl (by kernel_rfl) (by kernel_rfl) (by kernel_rfl) (fun _ _ _ h => h) (Or.inl ⟨by rfl, fun w' hS => by go_simp⟩) hHeld ?_
  simp only [Act.put, List.getElem_toArray, List.getElem_cons_zero, List.getElem_cons_succ, List.setIfInBounds_toArray, List.set_cons_zero, List.set_cons_succ]
  refine wpAnyH_take (i := 1) (v := .int .i64 (s : Int)) rfl (by kernel_rfl) (by kernel_rfl) (by kernel_rfl) (fun _ _ _ h => h) (Or.inl ⟨by rfl, fun w' hS => by go_simp⟩) hHeld ?_
  simp only [Act.put, List.getElem_toArray, List.getElem_cons_zero, List.getElem_cons_succ, List.setIfInBounds_toArray, List.set_cons_zero, List.set_cons_succ]
  refine wpAnyH_take (i := 2) (v := .int .i64 (t : Int)) rfl (by kernel_rfl) (by kernel_rfl) (by kernel_rfl) (fun _ _ _ h => h) (Or.inl ⟨by rfl, fun w' hS => by (go_simp <;> (rw [wrap_id (by omega) (by omega)]; exact Hts.out))⟩) hHeld ?_
  simp only [Act.put, List.getElem_toArray, List.getElem_cons_zero, List.getElem_cons_succ, List.setIfInBounds_toArray, List.set_cons_zero, List.set_cons_succ]
  refine wpAnyH_take (i := 3) (v := .pointer (some ⟨X.b, 0, none⟩)) rfl (by kernel_rfl) (by kernel_rfl) (by kernel_rfl) (fun _ _ _ h => h) (Or.inl ⟨by rfl, fun w' hS => by go_simp⟩) hHeld ?_
  simp only [Act.put, List.getElem_toArray, List.getElem_cons_zero, List.getElem_cons_succ, List.setIfInBounds_toArray, List.set_cons_zero, List.set_cons_succ]
  refine wpAnyH_take (i := 4) (v := .pointer (some ⟨X.b, 0, none⟩)) rfl (by kernel_rfl) (by kernel_rfl) (by kernel_rfl) (fun _ _ _ h => h) (Or.inl ⟨by rfl, fun w' hS => by go_simp⟩) hHeld ?_
  simp only [Act.put, List.getElem_toArray, List.getElem_cons_zero, List.getElem_cons_succ, List.setIfInBounds_toArray, List.set_cons_zero, List.set_cons_succ]
  refine wpAnyH_take (i := 5) (v := .pointer (some ⟨X.b, t, none⟩)) rfl (by kernel_rfl) (by kernel_rfl) (by kernel_rfl) (fun _ _ _ h => h) (Or.inl ⟨by rfl, fun w' hS => by go_simp⟩) hHeld ?_
  simp only [Act.put, List.getElem_toArray, List.getElem_cons_zero, List.getElem_cons_succ, List.setIfInBounds_toArray, List.set_cons_zero, List.set_cons_succ]
  refine wpAnyH_take (i := 6) (v := .pointer (some ⟨(X.m t).b, 0, none⟩)) rfl (by kernel_rfl) (by kernel_rfl) (by kernel_rfl) (fun _ _ _ h => h) (Or.inl ⟨by rfl, fun w' hS => by (obtain ⟨s0, t0, t1, t2, t3, t4⟩ := hS; go_simp)⟩) hHeld ?_
  simp only [Act.put, List.getElem_toArray, List.getElem_cons_zero, List.getElem_cons_succ, List.setIfInBounds_toArray, List.set_cons_zero, List.set_cons_succ]
  refine wpAnyH_take (i := 7) (v := .int .i64 (s : Int)) rfl (by kernel_rfl) (by kernel_rfl) (by kernel_rfl) (fun _ _ _ h => h) (Or.inl ⟨by rfl, fun w' hS => by go_simp⟩) hHeld ?_
  simp only [Act.put, List.getElem_toArray, List.getElem_cons_zero, List.getElem_cons_succ, List.setIfInBounds_toArray, List.set_cons_zero, List.set_cons_succ]
  refine wpAnyH_take (i := 9) (v := .agg #[.int .i64 3, .int .i64 2, .int .i64 4, .int .i64 9, .int .i64 (u : Int)]) rfl (by kernel_rfl) (by kernel_rfl) (by kernel_rfl) (fun _ _ _ h => h) (Or.inl ⟨by rfl, fun w' hS => by (obtain ⟨s0, t0, t1, t2, t3, t4⟩ := hS; go_simp)⟩) hHeld ?_
  simp only [Act.put, List.getElem_toArray, List.getElem_cons_zero, List.getElem_cons_succ, List.setIfInBounds_toArray, List.set_cons_zero, List.set_cons_succ]
  have hbD : Below wc.heap.size wc wc.drew := drew_bel wc
  generalize wc.drew = D4 at *
  refine wpAnyH_ready (rs := [8]) (by kernel_rfl) (by simp) ?_
  refine AllReadyH.cons rfl (fun K hK => ?_) AllReadyH.nil
  go_simp
  refine (pid_any i1 (by omega)).mono ?_
  rintro e w2 ⟨rfl, rfl⟩
  refine hK.out _ _ ⟨below_at hbD cm, below_at hbD y0, below_at hbD y1, below_at hbD y2, below_at hbD y3, below_at hbD y4⟩ (fun hHeld => ?_)
  clear hK K
  refine wpAnyH_ready (rs := [10]) (by kernel_rfl) (by simp) ?_
  refine AllReadyH.cons rfl (fun K hK => ?_) AllReadyH.nil
  go_simp
  refine (HA.out D4 hbD).mono ?_
  rintro e w3 ⟨rfl, ⟨e1, hst1, hpu1⟩⟩
  have hX4 := HXc.out.still hbD
  have hx1 := hX4.mux Ht2.out hst1
  have hkk : ¬ (X.m t).own kd := Hkd.out
  have KS3 : w3.cell? ⟨X.b, t, none⟩ = some (.pointer (some ⟨(X.m t).b, 0, none⟩)) := by have e2 := hx1.ok.cm Ht2.out; rw [setE_b] at e2; exact e2
  have hke : ¬ (X.e t).own kd := fun e => Hkd.out (.inr (.inr ⟨_, _, hX4.me t Ht2.out, e⟩))
  refine hK.out _ _ ⟨KS3, kept_cell hst1.kept hke (below_at hbD y0), kept_cell hst1.kept hke (below_at hbD y1), kept_cell hst1.kept hke (below_at hbD y2), kept_cell hst1.kept hke (below_at hbD y3), kept_cell hst1.kept hke (below_at hbD y4)⟩ (fun hHeld => ?_)
  clear hK K
  refine wpAnyH_ready (rs := [11]) (by kernel_rfl) (by simp) ?_
  refine AllReadyH.cons rfl (fun K hK => ?_) AllReadyH.nil
  go_simp
  refine (num_any 0).mono ?_
  rintro e w5 ⟨rfl, rfl⟩
  refine hK.out _ _ ⟨KS3, kept_cell hst1.kept hke (below_at hbD y0), kept_cell hst1.kept hke (below_at hbD y1), kept_cell hst1.kept hke (below_at hbD y2), kept_cell hst1.kept hke (below_at hbD y3), kept_cell hst1.kept hke (below_at hbD y4)⟩ (fun hHeld => ?_)
  clear hK K
  refine wpAnyH_take (i := 12) (v := .bool true) rfl (by kernel_rfl) (by kernel_rfl) (by kernel_rfl) (fun _ _ _ h => h) (Or.inl ⟨by rfl, fun w' hS => by go_simp⟩) hHeld ?_
  simp only [Act.put, List.getElem_toArray, List.getElem_cons_zero, List.getElem_cons_succ, List.setIfInBounds_toArray, List.set_cons_zero, List.set_cons_succ]
  refine wpAnyH_take (i := 13) (v := .bool true) rfl (by kernel_rfl) (by kernel_rfl) (by kernel_rfl) (fun _ _ _ h => h) (Or.inl ⟨by rfl, fun w' hS => by go_simp⟩) hHeld ?_
  simp only [Act.put, List.getElem_toArray, List.getElem_cons_zero, List.getElem_cons_succ, List.setIfInBounds_toArray, List.set_cons_zero, List.set_cons_succ]
  refine wpAnyH_done (by kernel_rfl) ?_ _
  clear hHeld
  have HZ : XO w w3 X B (X.pu.answer s n) (.returned (.bool true)) := ⟨rfl, _, (Xstep.below Hh.out (bstep HBc.out hbD)).trans hx1, by rw [setE_pu, hpu1, HP.out]⟩
  clear hx1 hst1 hX4 hbD
  go_wp2
  go_ret
  exact HZ
end
end Go.Proofs.Ytghihdenbdnnjaa.Ln
