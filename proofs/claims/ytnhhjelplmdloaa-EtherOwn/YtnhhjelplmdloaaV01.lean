import Derived.Test.YtnhhjelplmdloaaV00
namespace Go.Proofs.Ytnhhjelplmdloaa.Et
open Go.RowKit Go.Maps
set_option linter.unusedVariables false
set_option linter.unusedSimpArgs false
set_option maxRecDepth 100000
section
variable {E : En} {w : World} {B m : Nat}
def isP (E : En) (p q : Int) : Bool := isN E p && isN E q && decide (p ≠ q)
theorem isP_true {p q : Int} (h : isP E p q = true) : ∃ a b : Nat, p = a ∧ q = b ∧ a < E.nn ∧ b < E.nn ∧ a ≠ b := by
  unfold isP at h
  simp only [Bool.and_eq_true, decide_eq_true_eq] at h
  obtain ⟨a0, a1⟩ := isN_true h.1.1
  obtain ⟨b0, b1⟩ := isN_true h.1.2
  exact ⟨p.toNat, q.toNat, by omega, by omega, by omega, by omega, by omega⟩
theorem isP_nat {a b : Nat} (ha : a < E.nn) (hb : b < E.nn) (h : a ≠ b) : isP E a b = true := by
  simp only [isP, isN_nat ha, isN_nat hb, Bool.and_self, Bool.true_and, decide_eq_true_eq]
  omega
theorem isNode_is (h : E.Ok w B m) {p : Int} {a : Bool} (ha : isN E p = a) : ∀ x, x = p → Calls Try.prog 35 #[.pointer (some ⟨E.b, 0, none⟩), .int .i64 x] w fun e w' => e = .returned (.bool a) ∧ w = w' := by
  rintro x rfl
  rw [← ha]
  exact isNode_any h x
set_option maxHeartbeats 400000 in
theorem isPath_any (h : E.Ok w B m) (p q : Int) : Calls Try.prog 45 #[.pointer (some ⟨E.b, 0, none⟩), .agg #[.int .i64 p, .int .i64 q]] w fun e w' => e = .returned (.bool (isP E p q)) ∧ Below w.heap.size w w' := by
  have h1 := h.still ((Below.refl _ w).alloc (Nat.le_refl _) (.cells #[.int .i64 p, .int .i64 q] 80))
  have hb : Hid (Below w.heap.size w (w.alloc (.cells #[.int .i64 p, .int .i64 q] 80))) := (Below.refl _ w).alloc (Nat.le_refl _) _
  unfold isP
  generalize hp : isN E p = a
  generalize hq : isN E q = b
  have HN := isNode_is h1 hp
  have HM := isNode_is h1 hq
  clear h h1
  cases a with
  | false =>
    go_enter Try.func45, Try.ntmps45
    go_wp2_with (first | (go_at_call 35; refine (HN _ (by rfl)).mono ?_; rintro e w' ⟨rfl, rfl⟩) | (go_at_call 35; refine (HM _ (by rfl)).mono ?_; rintro e w' ⟨rfl, rfl⟩) | fail)
    go_ret
    exact ⟨rfl, hb⟩
  | true =>
    cases b with
    | false =>
      go_enter Try.func45, Try.ntmps45
      go_wp2_with (first | (go_at_call 35; refine (HN _ (by rfl)).mono ?_; rintro e w' ⟨rfl, rfl⟩) | (go_at_call 35; refine (HM _ (by rfl)).mono ?_; rintro e w' ⟨rfl, rfl⟩) | fail)
      all_goals (go_ret; exact ⟨rfl, hb⟩)
    | true =>
      go_enter Try.func45, Try.ntmps45
      go_wp2_with (first | (go_at_call 35; refine (HN _ (by rfl)).mono ?_; rintro e w' ⟨rfl, rfl⟩) | (go_at_call 35; refine (HM _ (by rfl)).mono ?_; rintro e w' ⟨rfl, rfl⟩) | fail)
      all_goals (go_ret; exact ⟨by by_cases e : p = q <;> simp [e], hb⟩)
theorem zeroU (w : World) : (zeroValue 107).run Try.prog w = .ok (.agg #[]) w := by kernel_rfl
theorem zeroI (w : World) : (zeroValue 3).run Try.prog w = .ok (.int .i64 0) w := by kernel_rfl
theorem new_cells {w w' : World} {cs : Array Value} {t : TypeId} (hb : Below (w.alloc (.cells cs t)).heap.size (w.alloc (.cells cs t)) w') (i : Nat) {v : Value} (hv : cs[i]? = some v) : w'.cell? ⟨w.heap.size, i, none⟩ = some v := (blk_cell (blk_spill hb) i).trans hv
set_option maxHeartbeats 400000 in
theorem isCut_any (h : E.Ok w B m) (p q : Nat) (hp : p < 16) (hq : q < 16) : Calls Try.prog 46 #[.pointer (some ⟨E.b, 0, none⟩), .agg #[.int .i64 p, .int .i64 q]] w fun e w' => e = .returned (.bool (E.cut p q)) ∧ Below w.heap.size w w' := by
  generalize hW : w.alloc (.cells #[.int .i64 p, .int .i64 q] 80) = W
  have hbW : Below w.heap.size w W := by rw [← hW]; exact (Below.refl _ w).alloc (Nat.le_refl _) _
  have h1 := h.still hbW
  obtain ⟨D, hown, hD⟩ := h1.cut
  have hk := kl_some p q hp hq
  unfold pv at hk
  rw [← hD p q hp hq]
  have hS : ∀ w', Below W.heap.size W w' → w'.cell? ⟨E.b, 2, none⟩ = some (.map (some E.bc)) ∧ w'.cell? ⟨w.heap.size, 0, none⟩ = some (.int .i64 p) ∧ w'.cell? ⟨w.heap.size, 1, none⟩ = some (.int .i64 q) ∧ (Instr.lookup 73 (.map (some E.bc)) (.agg #[.int .i64 p, .int .i64 q]) true).run Try.prog w' = .ok (.tuple #[.agg #[], .bool (Maps.has D (klP Try.prog p q))]) w' ∧ Below W.heap.size W w' := by
    intro w' hb
    refine ⟨(h1.still hb).c2, ?_, ?_, ?_, hb⟩
    · subst hW; exact new_cells hb 0 rfl
    · subst hW; exact new_cells hb 1 rfl
    · obtain ⟨v, ps, hrun, hv⟩ := ((Kept.ofBelow hb (fun _ => False)).map hown id).look_ok law Try.underlying73 (zeroU _) (zd := .agg []) (zp := []) unitElem_mk hk
      obtain ⟨rfl, _⟩ := unitElem_inv hv
      exact hrun
  have hs0 := hS W (Below.refl _ _)
  have hb0 : Hid (Below w.heap.size w W) := hbW
  clear h h1 hD hown hbW
  go_enter Try.func46, Try.ntmps46
  go_wp2
  go_region_held3 (fun w' => w'.cell? ⟨E.b, 2, none⟩ = some (.map (some E.bc)) ∧ w'.cell? ⟨w.heap.size, 0, none⟩ = some (.int .i64 p) ∧ w'.cell? ⟨w.heap.size, 1, none⟩ = some (.int .i64 q) ∧ (Instr.lookup 73 (.map (some E.bc)) (.agg #[.int .i64 p, .int .i64 q]) true).run Try.prog w' = .ok (.tuple #[.agg #[], .bool (Maps.has D (klP Try.prog p q))]) w' ∧ Below W.heap.size W w')
    (first | (go_split_ands; apply hS; repeat (first | assumption | apply Below.drew | apply balloc))) (fail)
  all_goals (go_wp2; go_ret; rename_i hHeld; exact ⟨rfl, bstep hb0.out hHeld.2.2.2.2⟩)
theorem atKey_has {D : DataW Unit} {k : Lit} (h : Maps.has D k = true) (z z' : DataW Unit) : D.atKey k z = D.atKey k z' := by
  cases D with
  | map es =>
    rw [Maps.has_eq] at h
    obtain ⟨x, hx, hs⟩ := List.any_eq_true.1 h
    cases hf : es.find? (fun p => p.1.sameKey k) with
    | none => exact absurd hs (by simpa using List.find?_eq_none.1 hf x hx)
    | some y => simp [DataW.atKey, hf]
  | _ => simp [Maps.has] at h
set_option maxHeartbeats 400000 in
theorem delay_any (h : E.Ok w B m) (p q : Nat) (hp : p < 16) (hq : q < 16) : Calls Try.prog 48 #[.pointer (some ⟨E.b, 0, none⟩), .agg #[.int .i64 p, .int .i64 q]] w fun e w' => e = .returned (.int .i64 (E.dl p q)) ∧ Below w.heap.size w w' := by
  generalize hW : w.alloc (.cells #[.int .i64 p, .int .i64 q] 80) = W
  have hbW : Below w.heap.size w W := by rw [← hW]; exact (Below.refl _ w).alloc (Nat.le_refl _) _
  have h1 := h.still hbW
  obtain ⟨D, hown, hD⟩ := h1.del
  have hk := kl_some p q hp hq
  unfold pv at hk
  obtain ⟨hh, ha⟩ := hD p q hp hq
  obtain ⟨c, hc, hat⟩ : ∃ c, (∀ w', Below W.heap.size W w' → (Instr.lookup 74 (.map (some E.bd)) (.agg #[.int .i64 p, .int .i64 q]) true).run Try.prog w' = .ok (.tuple #[.int .i64 c, .bool (Maps.has D (klP Try.prog p q))]) w') ∧ (Maps.has D (klP Try.prog p q) = true → c = E.dl p q) := by
    obtain ⟨v, ps, hrun, hv⟩ := hown.look_ok law Try.underlying74 (zeroI _) (zd := .lit (.int .i64 0)) (zp := []) (plainElem_int Try.underlying3 (by decide)) hk
    obtain ⟨c, rfl, hc, hwc⟩ := plainElem_int_inv Try.underlying3 hv
    have hc : D.atKey (klP Try.prog p q) (.lit (.int .i64 0)) = .lit (.int .i64 c) := congrArg Prod.fst hc
    refine ⟨c, fun w' hb => ?_, fun hh => ?_⟩
    · obtain ⟨v', ps', hrun', hv'⟩ := ((Kept.ofBelow hb (fun _ => False)).map hown id).look_ok law Try.underlying74 (zeroI _) (zd := .lit (.int .i64 0)) (zp := []) (plainElem_int Try.underlying3 (by decide)) hk
      obtain ⟨c', rfl, hc', hwc'⟩ := plainElem_int_inv Try.underlying3 hv'
      have hc' : D.atKey (klP Try.prog p q) (.lit (.int .i64 0)) = .lit (.int .i64 c') := congrArg Prod.fst hc'
      rw [hc] at hc'
      obtain rfl : c = c' := by simpa using hc'
      exact hrun'
    · have : D.atKey (klP Try.prog p q) (.lit (.int .i64 0)) = D.atKey (klP Try.prog p q) (.lit (.int .i64 1)) := atKey_has hh _ _
      rw [this, ha] at hc
      simpa using hc.symm
  generalize hhb : Maps.has D (klP Try.prog p q) = u at hc hat hh
  have hS : ∀ w', Below W.heap.size W w' → w'.cell? ⟨E.b, 3, none⟩ = some (.map (some E.bd)) ∧ w'.cell? ⟨w.heap.size, 0, none⟩ = some (.int .i64 p) ∧ w'.cell? ⟨w.heap.size, 1, none⟩ = some (.int .i64 q) ∧ (Instr.lookup 74 (.map (some E.bd)) (.agg #[.int .i64 p, .int .i64 q]) true).run Try.prog w' = .ok (.tuple #[.int .i64 c, .bool u]) w' ∧ Below W.heap.size W w' := by
    intro w' hb
    refine ⟨(h1.still hb).c3, ?_, ?_, hc w' hb, hb⟩
    · subst hW; exact new_cells hb 0 rfl
    · subst hW; exact new_cells hb 1 rfl
  have hs0 := hS W (Below.refl _ _)
  have hb0 : Hid (Below w.heap.size w W) := hbW
  have hres : (if u then c else 1) = E.dl p q := by
    cases u with
    | true => exact hat rfl
    | false => simp at hh; simp [hh]
  clear h h1 hD hown hbW hc hat hh
  cases u with
  | true =>
    simp at hres
    subst hres
    go_enter Try.func48, Try.ntmps48
    go_wp2
    go_region_held3 (fun w' => w'.cell? ⟨E.b, 3, none⟩ = some (.map (some E.bd)) ∧ w'.cell? ⟨w.heap.size, 0, none⟩ = some (.int .i64 p) ∧ w'.cell? ⟨w.heap.size, 1, none⟩ = some (.int .i64 q) ∧ (Instr.lookup 74 (.map (some E.bd)) (.agg #[.int .i64 p, .int .i64 q]) true).run Try.prog w' = .ok (.tuple #[.int .i64 (E.dl p q), .bool true]) w' ∧ Below W.heap.size W w')
      (first | (go_split_ands; apply hS; repeat (first | assumption | apply Below.drew | apply balloc))) (fail)
    all_goals (go_wp2; go_ret; rename_i hHeld; exact ⟨rfl, bstep hb0.out hHeld.2.2.2.2⟩)
  | false =>
    simp at hres
    rw [← hres]
    go_enter Try.func48, Try.ntmps48
    go_wp2
    go_region_held3 (fun w' => w'.cell? ⟨E.b, 3, none⟩ = some (.map (some E.bd)) ∧ w'.cell? ⟨w.heap.size, 0, none⟩ = some (.int .i64 p) ∧ w'.cell? ⟨w.heap.size, 1, none⟩ = some (.int .i64 q) ∧ (Instr.lookup 74 (.map (some E.bd)) (.agg #[.int .i64 p, .int .i64 q]) true).run Try.prog w' = .ok (.tuple #[.int .i64 c, .bool false]) w' ∧ Below W.heap.size W w')
      (first | (go_split_ands; apply hS; repeat (first | assumption | apply Below.drew | apply balloc))) (fail)
    all_goals (go_wp2; go_ret; rename_i hHeld; exact ⟨rfl, bstep hb0.out hHeld.2.2.2.2⟩)
end
end Go.Proofs.Ytnhhjelplmdloaa.Et
namespace Go.Proofs.Ytnhhjelplmdloaa.Et
open Go.RowKit Go.Maps
set_option linter.unusedVariables false
set_option linter.unusedSimpArgs false
set_option maxRecDepth 100000
section
variable {E : En} {w : World} {B m : Nat}
theorem isPath_is (h : E.Ok w B m) {p q : Int} {c : Bool} (hc : isP E p q = c) : ∀ w', Below w.heap.size w w' → Calls Try.prog 45 #[.pointer (some ⟨E.b, 0, none⟩), .agg #[.int .i64 p, .int .i64 q]] w' fun e w2 => e = .returned (.bool c) ∧ Below w'.heap.size w' w2 :=
  fun w' hb => (isPath_any (h.still hb) p q).mono fun e w2 ⟨h1, h2⟩ => ⟨by rw [h1, hc], h2⟩
theorem isCut_is (h : E.Ok w B m) {p q : Nat} (hp : p < 16) (hq : q < 16) {c : Bool} (hc : E.cut p q = c) : ∀ w', Below w.heap.size w w' → Calls Try.prog 46 #[.pointer (some ⟨E.b, 0, none⟩), .agg #[.int .i64 p, .int .i64 q]] w' fun e w2 => e = .returned (.bool c) ∧ Below w'.heap.size w' w2 :=
  fun w' hb => (isCut_any (h.still hb) p q hp hq).mono fun e w2 ⟨h1, h2⟩ => ⟨by rw [h1, hc], h2⟩
theorem delay_is (h : E.Ok w B m) {p q : Nat} (hp : p < 16) (hq : q < 16) : ∀ w', Below w.heap.size w w' → Calls Try.prog 48 #[.pointer (some ⟨E.b, 0, none⟩), .agg #[.int .i64 p, .int .i64 q]] w' fun e w2 => e = .returned (.int .i64 (E.dl p q)) ∧ Below w'.heap.size w' w2 :=
  fun w' hb => (delay_any (h.still hb) p q hp hq).mono fun e w2 ⟨h1, h2⟩ => ⟨h1, h2⟩
set_option maxHeartbeats 400000 in
theorem open_any (h : E.Ok w B m) (p q : Int) : Calls Try.prog 30 #[.pointer (some ⟨E.b, 0, none⟩), .int .i64 p, .int .i64 q] w fun e w' => e = .returned (.bool (isP E p q && !E.cut p.toNat q.toNat)) ∧ Below w.heap.size w w' := by
  generalize hc : isP E p q = c
  have HP := isPath_is h hc
  have b0 : Below w.heap.size w (w.alloc (.cells #[.int .i64 p, .int .i64 q] 80)) := balloc (Below.refl _ w)
  cases c with
  | false =>
    clear h
    go_enter Try.func30, Try.ntmps30
    go_wp2_with (first | (go_at_call 45; refine (HP _ b0).mono ?_; rintro e w1 ⟨rfl, hb1⟩) | fail)
    go_ret
    exact ⟨rfl, bstep b0 hb1⟩
  | true =>
    obtain ⟨a, b, rfl, rfl, ha, hb, hne⟩ := isP_true hc
    have hn := h.n16
    rw [show ((a : Int).toNat) = a from rfl, show ((b : Int).toNat) = b from rfl]
    generalize hd : E.cut a b = d
    have HC := isCut_is h (by omega) (by omega) hd
    clear h
    cases d <;>
    · go_enter Try.func30, Try.ntmps30
      go_wp2_with (first | (go_at_call 45; refine (HP _ b0).mono ?_; rintro e w1 ⟨rfl, hb1⟩; have q0 := new_cells hb1 0 (v := .int .i64 a) rfl; have q1 := new_cells hb1 1 (v := .int .i64 b) rfl; have r1 := bstep b0 hb1; clear hb1) | (go_at_call 46; refine (HC _ r1).mono ?_; rintro e w2 ⟨rfl, hb2⟩) | fail)
      go_ret
      exact ⟨rfl, bstep r1 hb2⟩
set_option maxHeartbeats 400000 in
theorem delayOf_any (h : E.Ok w B m) (p q : Int) : Calls Try.prog 41 #[.pointer (some ⟨E.b, 0, none⟩), .int .i64 p, .int .i64 q] w fun e w' => e = .returned (.int .i64 (if isP E p q then E.dl p.toNat q.toNat else 0)) ∧ Below w.heap.size w w' := by
  generalize hc : isP E p q = c
  have HP := isPath_is h hc
  have b0 : Below w.heap.size w (w.alloc (.cells #[.int .i64 p, .int .i64 q] 80)) := balloc (Below.refl _ w)
  cases c with
  | false =>
    clear h
    go_enter Try.func41, Try.ntmps41
    go_wp2_with (first | (go_at_call 45; refine (HP _ b0).mono ?_; rintro e w1 ⟨rfl, hb1⟩) | fail)
    go_ret
    exact ⟨rfl, bstep b0 hb1⟩
  | true =>
    obtain ⟨a, b, rfl, rfl, ha, hb, hne⟩ := isP_true hc
    have hn := h.n16
    rw [show ((a : Int).toNat) = a from rfl, show ((b : Int).toNat) = b from rfl]
    have HC := delay_is h (p := a) (q := b) (by omega) (by omega)
    clear h
    go_enter Try.func41, Try.ntmps41
    go_wp2_with (first | (go_at_call 45; refine (HP _ b0).mono ?_; rintro e w1 ⟨rfl, hb1⟩; have q0 := new_cells hb1 0 (v := .int .i64 a) rfl; have q1 := new_cells hb1 1 (v := .int .i64 b) rfl; have r1 := bstep b0 hb1; clear hb1) | (go_at_call 48; refine (HC _ r1).mono ?_; rintro e w2 ⟨rfl, hb2⟩) | fail)
    go_ret
    exact ⟨rfl, bstep r1 hb2⟩
end
end Go.Proofs.Ytnhhjelplmdloaa.Et
namespace Go.Proofs.Ytnhhjelplmdloaa.Et
open Go.RowKit Go.Maps
set_option linter.unusedVariables false
set_option linter.unusedSimpArgs false
set_option maxRecDepth 100000
section
variable {E E' : En} {w w' W : World} {B m : Nat}
theorem Step.pre (hb : Below w.heap.size w W) (s : Step W w' E E' B m) : Step w w' E E' B m :=
  ⟨s.ok, (Kept.ofBelow hb _).trans s.kept, fun j hj => (s.own j hj).elim (fun hh => .inl hh) (fun hh => .inr (Nat.le_trans hb.size hh))⟩
theorem Step.post (s : Step w W E E' B m) (hb : Below W.heap.size W w') : Step w w' E E' B m :=
  ⟨s.ok.still hb, s.kept.trans (Kept.ofBelow hb _), s.own⟩
theorem Step.setCut (h : E.Ok W B m) {f : Nat → Nat → Bool} {m' : Nat} (hm : m ≤ m') (k : W.mapTurned w' E.bc) (hc : Cut w' E.bc m' f) : Step W w' E { E with cut := f } B m' := by
  have k := Kept.ofGrown k.grown
  refine ⟨⟨k.obj h.blk (fun e => h.b_bc (by simpa using e)), h.nod.keep k (fun e => h.bn_bc (by simpa using e)), hc, (h.del.keep k (fun e => h.ne (by simpa using e.symm))).mono hm, h.fls.keep k (fun j hj e => (h.row_ne hj).2.2.1 (by simpa using e)) (fun f hf j hj e => (h.byt_ne hf hj).2.2.1 (by simpa using e)), h.ge, h.ne, h.n16, h.pth, h.dly⟩, k.mono (fun j _ e => .inr (.inr (.inl (by simpa using e)))), fun j hj => .inl hj⟩
theorem Step.setDel (h : E.Ok W B m) {f : Nat → Nat → Int} {m' : Nat} (hm : m ≤ m') (k : W.mapTurned w' E.bd) (hc : Del w' E.bd m' f) (hf : ∀ p q, p < 16 → q < 16 → 1 ≤ f p q ∧ f p q ≤ 16) : Step W w' E { E with dl := f } B m' := by
  have k := Kept.ofGrown k.grown
  refine ⟨⟨k.obj h.blk (fun e => h.b_bd (by simpa using e)), h.nod.keep k (fun e => h.bn_bd (by simpa using e)), (h.cut.keep k (fun e => h.ne (by simpa using e))).mono hm, hc, h.fls.keep k (fun j hj e => (h.row_ne hj).2.2.2 (by simpa using e)) (fun f hf j hj e => (h.byt_ne hf hj).2.2.2.1 (by simpa using e)), h.ge, h.ne, h.n16, h.pth, hf⟩, k.mono (fun j _ e => .inr (.inr (.inr (.inl (by simpa using e))))), fun j hj => .inl hj⟩
set_option maxHeartbeats 400000 in
theorem setOpen_any (h : E.Ok w B m) (p q : Nat) (hp : p < 16) (hq : q < 16) (o : Bool) (hm : m < maxLen) : Calls Try.prog 59 #[.pointer (some ⟨E.b, 0, none⟩), .agg #[.int .i64 p, .int .i64 q], .bool o] w fun e w' => e = .returned (.tuple #[]) ∧ Step w w' E { E with cut := upd2 E.cut p q (!o) } B (m + 1) := by
  generalize hW : w.alloc (.cells #[.int .i64 p, .int .i64 q] 80) = W
  have hbW : Below w.heap.size w W := by rw [← hW]; exact (Below.refl _ w).alloc (Nat.le_refl _) _
  have h1 := h.still hbW
  obtain ⟨D0, hown0, _⟩ := h.cut
  obtain ⟨D, hown, hD⟩ := h1.cut
  have hk := kl_some p q hp hq
  unfold pv at hk
  have c2 := h1.c2
  have d0 : W.cell? ⟨w.heap.size, 0, none⟩ = some (.int .i64 p) := by subst hW; exact new_cells (Below.refl _ _) 0 rfl
  have d1 : W.cell? ⟨w.heap.size, 1, none⟩ = some (.int .i64 q) := by subst hW; exact new_cells (Below.refl _ _) 1 rfl
  have H1 : Hid (E.Ok W B m) := h1
  have hlt : w.heap.size < W.heap.size := by rw [← hW]; simp
  have hneb : some w.heap.size ≠ some E.bc := fun e => by have := hown0.lt; simp at e; omega
  have hb0 : Hid (Below w.heap.size w W) := hbW
  have HD : Hid (∀ p q, p < 16 → q < 16 → Maps.has D (klP Try.prog p q) = E.cut p q) := hD
  clear h h1 hbW hD
  cases o with
  | true =>
    obtain ⟨w1, hrun, hown1, hturn1⟩ := hown.drew.drop law Try.underlying73 hk 0
    have hres : Hid (Step W.drew w1 E { E with cut := upd2 E.cut p q false } B (m + 1)) := Step.setCut (H1.out.still ((Below.refl _ _).drew)) (Nat.le_succ m) hturn1 ⟨_, hown1.mono (Nat.le_succ m), has_del HD.out p q hp hq⟩
    have k0 : w1.cell? ⟨E.b, 2, none⟩ = some (.map (some E.bc)) := hres.out.ok.c2
    have k1 : w1.cell? ⟨w.heap.size, 0, none⟩ = some (.int .i64 p) := (World.cell?_of_block (w := W.drew) (hturn1.grown.block w.heap.size hlt hneb)).trans d0
    have k2 : w1.cell? ⟨w.heap.size, 1, none⟩ = some (.int .i64 q) := (World.cell?_of_block (w := W.drew) (hturn1.grown.block w.heap.size hlt hneb)).trans d1
    clear hown hown1 hturn1
    go_enter Try.func59, Try.ntmps59
    go_wp2
    go_region_held3 (fun w' => w'.cell? ⟨E.b, 2, none⟩ = some (.map (some E.bc)) ∧ w'.cell? ⟨w.heap.size, 0, none⟩ = some (.int .i64 p) ∧ w'.cell? ⟨w.heap.size, 1, none⟩ = some (.int .i64 q)) (first | go_keep | exact ⟨k0, k1, k2⟩) (fail)
    all_goals (go_wp2; (first | go_end0 | ((try simp only [Exit.inBlock, Exit.then]); refine bodyPost_ret (results_none rfl _ _ _) rfl ?_)); exact ⟨rfl, Step.pre hb0.out (Step.pre (Below.refl _ _).drew hres.out)⟩)
  | false =>
    obtain ⟨w1, hrun, hown1, hturn1⟩ := hown.drew.store law Try.underlying73 hm hk unitElem_mk
    have hres : Hid (Step W.drew w1 E { E with cut := upd2 E.cut p q true } B (m + 1)) := Step.setCut (H1.out.still ((Below.refl _ _).drew)) (Nat.le_succ m) hturn1 ⟨_, hown1, has_put hown.isMap HD.out p q hp hq _⟩
    have k0 : w1.cell? ⟨E.b, 2, none⟩ = some (.map (some E.bc)) := hres.out.ok.c2
    have k1 : w1.cell? ⟨w.heap.size, 0, none⟩ = some (.int .i64 p) := (World.cell?_of_block (w := W.drew) (hturn1.grown.block w.heap.size hlt hneb)).trans d0
    have k2 : w1.cell? ⟨w.heap.size, 1, none⟩ = some (.int .i64 q) := (World.cell?_of_block (w := W.drew) (hturn1.grown.block w.heap.size hlt hneb)).trans d1
    clear hown hown1 hturn1
    go_enter Try.func59, Try.ntmps59
    go_wp2
    go_region_held3 (fun w' => w'.cell? ⟨E.b, 2, none⟩ = some (.map (some E.bc)) ∧ w'.cell? ⟨w.heap.size, 0, none⟩ = some (.int .i64 p) ∧ w'.cell? ⟨w.heap.size, 1, none⟩ = some (.int .i64 q)) (first | go_keep | exact ⟨k0, k1, k2⟩) (fail)
    all_goals (go_wp2; (first | go_end0 | ((try simp only [Exit.inBlock, Exit.then]); refine bodyPost_ret (results_none rfl _ _ _) rfl ?_)); exact ⟨rfl, Step.pre hb0.out (Step.pre (Below.refl _ _).drew hres.out)⟩)
theorem del_put {D : DataW Unit} (hD : IsMap D) {f : Nat → Nat → Int} (h : ∀ p q, p < 16 → q < 16 → Maps.has D (klP Try.prog p q) = decide (f p q ≠ 1) ∧ D.atKey (klP Try.prog p q) (.lit (.int .i64 1)) = .lit (.int .i64 (f p q))) (p q : Nat) (hp : p < 16) (hq : q < 16) (x : Int) (hx : x ≠ 1) :
    ∀ a b, a < 16 → b < 16 → Maps.has (D.put (klP Try.prog p q) (.lit (.int .i64 x))) (klP Try.prog a b) = decide (upd2 f p q x a b ≠ 1) ∧ (D.put (klP Try.prog p q) (.lit (.int .i64 x))).atKey (klP Try.prog a b) (.lit (.int .i64 1)) = .lit (.int .i64 (upd2 f p q x a b)) := by
  intro a b ha hb
  by_cases e : a = p ∧ b = q
  · obtain ⟨rfl, rfl⟩ := e
    rw [upd2_same, has_put_same hD (kl_key a b ha hb), atKey_put_same hD (kl_key a b ha hb)]
    exact ⟨by simp [hx], rfl⟩
  · have hne : klP Try.prog a b ≠ klP Try.prog p q := fun e2 => e (kl_inj ha hb hp hq e2)
    rw [upd2_other f x e, has_put_other hne, atKey_put_other hne]
    exact h a b ha hb
theorem del_del {D : DataW Unit} {f : Nat → Nat → Int} (h : ∀ p q, p < 16 → q < 16 → Maps.has D (klP Try.prog p q) = decide (f p q ≠ 1) ∧ D.atKey (klP Try.prog p q) (.lit (.int .i64 1)) = .lit (.int .i64 (f p q))) (p q : Nat) (hp : p < 16) (hq : q < 16) :
    ∀ a b, a < 16 → b < 16 → Maps.has (D.del (klP Try.prog p q)) (klP Try.prog a b) = decide (upd2 f p q 1 a b ≠ 1) ∧ (D.del (klP Try.prog p q)).atKey (klP Try.prog a b) (.lit (.int .i64 1)) = .lit (.int .i64 (upd2 f p q 1 a b)) := by
  intro a b ha hb
  by_cases e : a = p ∧ b = q
  · obtain ⟨rfl, rfl⟩ := e
    rw [upd2_same, has_del_same, atKey_del_same]
    exact ⟨by simp, rfl⟩
  · have hne : klP Try.prog a b ≠ klP Try.prog p q := fun e2 => e (kl_inj ha hb hp hq e2)
    rw [upd2_other f 1 e, has_del_other hne, atKey_del_other hne]
    exact h a b ha hb
theorem dly_upd {f : Nat → Nat → Int} (h : ∀ p q, p < 16 → q < 16 → 1 ≤ f p q ∧ f p q ≤ 16) (p q : Nat) (x : Int) (h1 : 1 ≤ x) (h2 : x ≤ 16) : ∀ a b, a < 16 → b < 16 → 1 ≤ upd2 f p q x a b ∧ upd2 f p q x a b ≤ 16 := by
  intro a b ha hb
  unfold upd2
  split
  · omega
  · exact h a b ha hb
set_option maxHeartbeats 400000 in
theorem setDelay_no (h : E.Ok w B m) (p q : Int) (x : Int) (hx : x < 1 ∨ 16 < x) : Calls Try.prog 58 #[.pointer (some ⟨E.b, 0, none⟩), .agg #[.int .i64 p, .int .i64 q], .int .i64 x] w fun e w' => e = .returned (.int .i64 1) ∧ Below w.heap.size w w' := by
  have b0 : Below w.heap.size w (w.alloc (.cells #[.int .i64 p, .int .i64 q] 80)) := balloc (Below.refl _ w)
  clear h
  go_enter Try.func58, Try.ntmps58
  go_wp2
  all_goals first | (exfalso; omega) | (go_ret; exact ⟨rfl, b0⟩)
set_option maxHeartbeats 400000 in
theorem setDelay_ok (h : E.Ok w B m) (p q : Nat) (hp : p < 16) (hq : q < 16) (x : Int) (h1 : 1 ≤ x) (h2 : x ≤ 16) (hm : m < maxLen) : Calls Try.prog 58 #[.pointer (some ⟨E.b, 0, none⟩), .agg #[.int .i64 p, .int .i64 q], .int .i64 x] w fun e w' => e = .returned (.int .i64 0) ∧ Step w w' E { E with dl := upd2 E.dl p q x } B (m + 1) := by
  generalize hW : w.alloc (.cells #[.int .i64 p, .int .i64 q] 80) = W
  have hbW : Below w.heap.size w W := by rw [← hW]; exact (Below.refl _ w).alloc (Nat.le_refl _) _
  have h1' := h.still hbW
  obtain ⟨D0, hown0, _⟩ := h.del
  obtain ⟨D, hown, hD⟩ := h1'.del
  have hk := kl_some p q hp hq
  unfold pv at hk
  have c3 := h1'.c3
  have d0 : W.cell? ⟨w.heap.size, 0, none⟩ = some (.int .i64 p) := by subst hW; exact new_cells (Below.refl _ _) 0 rfl
  have d1 : W.cell? ⟨w.heap.size, 1, none⟩ = some (.int .i64 q) := by subst hW; exact new_cells (Below.refl _ _) 1 rfl
  have H1 : Hid (E.Ok W B m) := h1'
  have hlt : w.heap.size < W.heap.size := by rw [← hW]; simp
  have hneb : some w.heap.size ≠ some E.bd := fun e => by have := hown0.lt; simp at e; omega
  have hb0 : Hid (Below w.heap.size w W) := hbW
  have HD : Hid (∀ p q, p < 16 → q < 16 → Maps.has D (klP Try.prog p q) = decide (E.dl p q ≠ 1) ∧ D.atKey (klP Try.prog p q) (.lit (.int .i64 1)) = .lit (.int .i64 (E.dl p q))) := hD
  have hdl := dly_upd h.dly p q x h1 h2
  clear h h1' hbW hD hown0
  by_cases e1 : x = 1
  · subst e1
    obtain ⟨w1, hrun, hown1, hturn1⟩ := hown.drew.drop law Try.underlying74 hk 0
    have hres : Hid (Step W.drew w1 E { E with dl := upd2 E.dl p q 1 } B (m + 1)) := Step.setDel (H1.out.still ((Below.refl _ _).drew)) (Nat.le_succ m) hturn1 ⟨_, hown1.mono (Nat.le_succ m), del_del HD.out p q hp hq⟩ hdl
    have k0 : w1.cell? ⟨E.b, 3, none⟩ = some (.map (some E.bd)) := hres.out.ok.c3
    have k1 : w1.cell? ⟨w.heap.size, 0, none⟩ = some (.int .i64 p) := (World.cell?_of_block (w := W.drew) (hturn1.grown.block w.heap.size hlt hneb)).trans d0
    have k2 : w1.cell? ⟨w.heap.size, 1, none⟩ = some (.int .i64 q) := (World.cell?_of_block (w := W.drew) (hturn1.grown.block w.heap.size hlt hneb)).trans d1
    clear hown hown1 hturn1 hdl
    go_enter Try.func58, Try.ntmps58
    go_wp2
    go_region_held3 (fun w' => w'.cell? ⟨E.b, 3, none⟩ = some (.map (some E.bd)) ∧ w'.cell? ⟨w.heap.size, 0, none⟩ = some (.int .i64 p) ∧ w'.cell? ⟨w.heap.size, 1, none⟩ = some (.int .i64 q)) (first | go_keep | exact ⟨k0, k1, k2⟩) (fail)
    all_goals (go_wp2; go_ret; exact ⟨rfl, Step.pre hb0.out (Step.pre (Below.refl _ _).drew hres.out)⟩)
  · obtain ⟨w1, hrun, hown1, hturn1⟩ := hown.drew.store law Try.underlying74 hm hk (plainElem_int Try.underlying3 (WalkArith.wf_i64 (n := x) (by omega)))
    have hres : Hid (Step W.drew w1 E { E with dl := upd2 E.dl p q x } B (m + 1)) := Step.setDel (H1.out.still ((Below.refl _ _).drew)) (Nat.le_succ m) hturn1 ⟨_, hown1, del_put hown.isMap HD.out p q hp hq x e1⟩ hdl
    have k0 : w1.cell? ⟨E.b, 3, none⟩ = some (.map (some E.bd)) := hres.out.ok.c3
    have k1 : w1.cell? ⟨w.heap.size, 0, none⟩ = some (.int .i64 p) := (World.cell?_of_block (w := W.drew) (hturn1.grown.block w.heap.size hlt hneb)).trans d0
    have k2 : w1.cell? ⟨w.heap.size, 1, none⟩ = some (.int .i64 q) := (World.cell?_of_block (w := W.drew) (hturn1.grown.block w.heap.size hlt hneb)).trans d1
    clear hown hown1 hturn1 hdl
    go_enter Try.func58, Try.ntmps58
    go_wp2
    go_region_held3 (fun w' => w'.cell? ⟨E.b, 3, none⟩ = some (.map (some E.bd)) ∧ w'.cell? ⟨w.heap.size, 0, none⟩ = some (.int .i64 p) ∧ w'.cell? ⟨w.heap.size, 1, none⟩ = some (.int .i64 q)) (first | go_keep | exact ⟨k0, k1, k2⟩) (fail)
    all_goals (go_wp2; go_ret; exact ⟨rfl, Step.pre hb0.out (Step.pre (Below.refl _ _).drew hres.out)⟩)
end
end Go.Proofs.Ytnhhjelplmdloaa.Et
namespace Go.Proofs.Ytnhhjelplmdloaa.Et
open Go.RowKit Go.Maps
set_option linter.unusedVariables false
set_option linter.unusedSimpArgs false
set_option maxRecDepth 100000
section
variable {E E' : En} {w w' W : World} {B m : Nat}
set_option maxHeartbeats 400000 in
theorem split_len (h : E.Ok w B m) (ao : Option Addr) (n c : Nat) (hn : n ≠ E.nn) : Calls Try.prog 51 #[.pointer (some ⟨E.b, 0, none⟩), .slice ao n c] w fun e w' => e = .returned (.int .i64 1) ∧ w = w' := by
  have c1 := h.c1
  have hne : ¬ (n : Int) = (E.nn : Int) := by omega
  clear h
  go_enter Try.func51, Try.ntmps51
  go_wp2
  go_ret
  exact ⟨rfl, rfl⟩
def okSide (x : Int) : Prop := 0 ≤ x ∧ x < 16
set_option maxHeartbeats 1000000 in
theorem split_bad (h : E.Ok w B m) (sb off c : Nat) (xs : List Int) (hn : xs.length = E.nn) (hs : ∀ i, i < E.nn → w.cell? ⟨sb, off + i, none⟩ = some (.int .i64 (xs.getD i 0))) (i0 : Nat) (hi0 : i0 < E.nn) (hbad : ¬ okSide (xs.getD i0 0)) : Calls Try.prog 51 #[.pointer (some ⟨E.b, 0, none⟩), .slice (some ⟨sb, off, none⟩) E.nn c] w fun e w' => e = .returned (.int .i64 1) ∧ w = w' := by
  have c1 := h.c1
  have hn16 := h.n16
  have Hs : Hid (∀ i, i < E.nn → w.cell? ⟨sb, off + i, none⟩ = some (.int .i64 (xs.getD i 0))) := hs
  clear h hs
  go_enter Try.func51, Try.ntmps51
  go_wp2
  go_loopw [21] (fun i wr => ∃ k : Nat, k ≤ E.nn ∧ i = .int .i64 k ∧ w = wr ∧ ∀ j, j < k → okSide (xs.getD j 0)) (fun i _ => E.nn - (intOf i).toNat)
  case atStart => exact ⟨0, Nat.zero_le _, rfl, rfl, fun j hj => by omega⟩
  case round =>
    obtain ⟨k, hk, rfl, rfl, hok⟩ := hrel
    by_cases hlt : k < E.nn
    · have hck := Hs.out k hlt
      by_cases hx : okSide (xs.getD k 0)
      · have hok1 : Hid (∀ j, j < k + 1 → okSide (xs.getD j 0)) := fun j hj => by
          by_cases e : j = k
          · subst e; exact hx
          · exact hok j (by omega)
        obtain ⟨x0, x1⟩ := hx
        generalize xs.getD k 0 = X at hck x0 x1
        clear hok hbad
        go_wp2
        go_roundw
        case rel => exact ⟨k + 1, by omega, by go_num, by first | rfl | trivial, hok1.out⟩
        case measure => simp [intOf]; omega
      · have hx : xs.getD k 0 < 0 ∨ 16 ≤ xs.getD k 0 := by unfold okSide at hx; omega
        generalize xs.getD k 0 = X at hck hx
        clear hok hbad
        go_wp2
        all_goals first | (exfalso; omega) | (go_ret; exact ⟨rfl, rfl⟩)
    · exfalso
      exact hbad (hok i0 (by omega))
def spl (f : Nat → Nat → Bool) (xs : List Int) (nn i j : Nat) : Nat → Nat → Bool := fun a b => if (a < i ∨ (a = i ∧ b < j)) ∧ b < nn ∧ a ≠ b then decide (xs.getD a 0 ≠ xs.getD b 0) else f a b
theorem spl_start (f : Nat → Nat → Bool) (xs : List Int) (nn : Nat) : spl f xs nn 0 0 = f := by
  funext a b
  simp [spl]
theorem spl_row (f : Nat → Nat → Bool) (xs : List Int) (nn i : Nat) : spl f xs nn i nn = spl f xs nn (i + 1) 0 := by
  funext a b
  unfold spl
  by_cases e : (a < i ∨ (a = i ∧ b < nn)) ∧ b < nn ∧ a ≠ b
  · rw [if_pos e, if_pos (by omega)]
  · rw [if_neg e, if_neg (by omega)]
theorem spl_diag (f : Nat → Nat → Bool) (xs : List Int) (nn i : Nat) : spl f xs nn i (i + 1) = spl f xs nn i i := by
  funext a b
  unfold spl
  by_cases e : (a < i ∨ (a = i ∧ b < i)) ∧ b < nn ∧ a ≠ b
  · rw [if_pos e, if_pos (by omega)]
  · rw [if_neg e, if_neg (by omega)]
theorem spl_next (f : Nat → Nat → Bool) (xs : List Int) (nn i j : Nat) (hne : i ≠ j) (hj : j < nn) : upd2 (spl f xs nn i j) i j (!decide (xs.getD i 0 = xs.getD j 0)) = spl f xs nn i (j + 1) := by
  funext a b
  unfold upd2
  by_cases e : a = i ∧ b = j
  · obtain ⟨rfl, rfl⟩ := e
    rw [if_pos ⟨rfl, rfl⟩]
    unfold spl
    rw [if_pos (by omega)]
    simp
  · rw [if_neg e]
    unfold spl
    by_cases e2 : (a < i ∨ (a = i ∧ b < j)) ∧ b < nn ∧ a ≠ b
    · rw [if_pos e2, if_pos (by omega)]
    · rw [if_neg e2, if_neg (by omega)]
theorem Step.cell {w w' : World} {E E' : En} {B m : Nat} (s : Step w w' E E' B m) {k i : Nat} {v : Value} (hk : ¬ E.own k) (hc : w.cell? ⟨k, i, none⟩ = some v) : w'.cell? ⟨k, i, none⟩ = some v :=
  (World.cell?_of_block (w := w) (s.kept.block k (World.block_lt_of_cell? w _ hc) hk)).trans hc
set_option maxHeartbeats 4000000 in
theorem split_ok (h : E.Ok w B m) (sb off c : Nat) (xs : List Int) (hn : xs.length = E.nn) (hs : ∀ i, i < E.nn → w.cell? ⟨sb, off + i, none⟩ = some (.int .i64 (xs.getD i 0))) (hsb : ¬ E.own sb) (hok : ∀ i, i < E.nn → okSide (xs.getD i 0)) (hm : m + 256 < maxLen) : Calls Try.prog 51 #[.pointer (some ⟨E.b, 0, none⟩), .slice (some ⟨sb, off, none⟩) E.nn c] w fun e w' => e = .returned (.int .i64 0) ∧ Step w w' E { E with cut := spl E.cut xs E.nn E.nn 0 } B (m + 256) := by
  have c1 := h.c1
  have hn16 := h.n16
  have Hs : Hid (∀ i, i < E.nn → w.cell? ⟨sb, off + i, none⟩ = some (.int .i64 (xs.getD i 0))) := hs
  have Hok : Hid (∀ i, i < E.nn → okSide (xs.getD i 0)) := hok
  have H0 : Hid (Step w w E { E with cut := spl E.cut xs E.nn 0 0 } B m) := by
    rw [spl_start]
    exact Step.same h
  clear h hs hok
  go_enter Try.func51, Try.ntmps51
  go_wp2
  go_loopw [21] (fun i wr => ∃ k : Nat, k ≤ E.nn ∧ i = .int .i64 k ∧ w = wr) (fun i _ => E.nn - (intOf i).toNat)
  case atStart => exact ⟨0, Nat.zero_le _, rfl, rfl⟩
  case round =>
    obtain ⟨k, hk, rfl, rfl⟩ := hrel
    by_cases hlt : k < E.nn
    · have hck := Hs.out k hlt
      obtain ⟨x0, x1⟩ := Hok.out k hlt
      generalize xs.getD k 0 = X at hck x0 x1
      go_wp2
      go_roundw
      case rel => exact ⟨k + 1, by omega, by go_num, by first | rfl | trivial⟩
      case measure => simp [intOf]; omega
    · obtain rfl : k = E.nn := by omega
      go_wp2
      clear Hok
      go_loopw [34] (fun i wr => ∃ k : Nat, k ≤ E.nn ∧ i = .int .i64 k ∧ Step w wr E { E with cut := spl E.cut xs E.nn k 0 } B (m + 16 * k)) (fun i _ => E.nn - (intOf i).toNat)
      case atStart => exact ⟨0, Nat.zero_le _, rfl, H0.out⟩
      case round =>
        obtain ⟨k, hk, rfl, hst⟩ := hrel
        have HS : Hid (Step w wr E { E with cut := spl E.cut xs E.nn k 0 } B (m + 16 * k)) := hst
        clear hst
        by_cases hlt : k < E.nn
        · have hck := HS.out.cell hsb (Hs.out k hlt)
          generalize hX : xs.getD k 0 = X at hck
          go_wp2
          go_loopw [41] (fun i wr => ∃ j : Nat, j ≤ E.nn ∧ i = .int .i64 j ∧ Step w wr E { E with cut := spl E.cut xs E.nn k j } B (m + 16 * k + j)) (fun i _ => E.nn - (intOf i).toNat)
          case atStart => exact ⟨0, Nat.zero_le _, rfl, HS.out⟩
          case round =>
            obtain ⟨j, hj, rfl, hst2⟩ := hrel
            clear HS hck
            have HS2 : Hid (Step w wr E { E with cut := spl E.cut xs E.nn k j } B (m + 16 * k + j)) := hst2
            clear hst2
            by_cases hjlt : j < E.nn
            · have hcj := HS2.out.cell hsb (Hs.out j hjlt)
              generalize hY : xs.getD j 0 = Y at hcj
              by_cases hkj : k = j
              · have HS3 : Hid (Step w wr E { E with cut := spl E.cut xs E.nn k (j + 1) } B (m + 16 * k + (j + 1))) := by
                  have := HS2.out
                  subst hkj
                  rw [← spl_diag] at this
                  exact ⟨this.ok.mono (by omega), this.kept, this.own⟩
                clear HS2
                have hkj' : (k : Int) = (j : Int) := by omega
                go_wp2
                go_roundw
                case rel => exact ⟨j + 1, by omega, by go_num, HS3.out⟩
                case measure => simp [intOf]; omega
              · have hkj' : ¬ (k : Int) = (j : Int) := by omega
                have HO := fun o => setOpen_any HS2.out.ok k j (by omega) (by omega) o (by omega)
                go_wp2_with (first | (go_at_call 59; refine (HO _).mono ?_; rintro e w3 ⟨rfl, hs3⟩) | fail)
                have HS3 : Hid (Step w w3 E { E with cut := spl E.cut xs E.nn k (j + 1) } B (m + 16 * k + (j + 1))) := by
                  have := HS2.out.trans hs3
                  rw [← spl_next E.cut xs E.nn k j hkj hjlt, hX, hY]
                  have e1 : (X == Y) = decide (X = Y) := by by_cases e : X = Y <;> simp [e]
                  rw [← e1]
                  exact this
                clear hs3 HO HS2
                go_roundw
                case rel => exact ⟨j + 1, by omega, by go_num, HS3.out⟩
                case measure => simp [intOf]; omega
            · obtain rfl : j = E.nn := by omega
              have HS3 : Hid (Step w wr E { E with cut := spl E.cut xs E.nn (k + 1) 0 } B (m + 16 * (k + 1))) := by
                have := HS2.out
                rw [spl_row] at this
                exact ⟨this.ok.mono (by omega), this.kept, this.own⟩
              clear HS2
              go_wp2
              go_roundw
              case rel => exact ⟨k + 1, by omega, by go_num, HS3.out⟩
              case measure => simp [intOf]; omega
        · obtain rfl : k = E.nn := by omega
          go_wp2
          go_ret
          exact ⟨rfl, HS.out.ok.mono (by omega), HS.out.kept, HS.out.own⟩
end
end Go.Proofs.Ytnhhjelplmdloaa.Et
