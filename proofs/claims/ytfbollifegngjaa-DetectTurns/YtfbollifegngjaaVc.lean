import Derived.Test.YtfbollifegngjaaVb
namespace Go.Proofs.Ytfbollifegngjaa.Dt
open Go.RowKit
set_option linter.unusedVariables false
set_option maxRecDepth 100000
set_option linter.unusedSimpArgs false
section
variable {D D' : De} {w w' W : World} {B m : Nat}
def Pe.tick (p : Pe) : Pe := if p.heard then p.older else p
def De.upTo (D : De) (k : Nat) (f : Pe → Pe) : De := { D with pe := fun q => if q < k ∧ q ≠ D.self then f (D.pe q) else D.pe q }
theorem upTo_zero (D : De) (f : Pe → Pe) : D.upTo 0 f = D := by simp [De.upTo]
theorem upTo_self (D : De) (f : Pe → Pe) : D.upTo (D.self + 1) f = D.upTo D.self f := by
  unfold De.upTo
  congr 1
  funext q
  by_cases h : q = D.self
  · simp [h]
  · simp only [h, ne_eq, not_false_eq_true, and_true]; congr 1; simp; omega
theorem upTo_succ (D : De) (k : Nat) (f : Pe → Pe) (hk : k ≠ D.self) : D.upTo (k + 1) f = (D.upTo k f).set k (f (D.pe k)) := by
  unfold De.upTo De.set
  congr 1
  funext q
  simp only [upd]
  by_cases h : q = k
  · subst h; simp [hk]
  · simp only [h, if_false]; congr 1; simp; omega
theorem upTo_at (D : De) (k : Nat) (f : Pe → Pe) : (D.upTo k f).pe k = D.pe k := by simp [De.upTo]
theorem optr_upTo (D : De) (k q : Nat) (f : Pe → Pe) : optr (D.upTo k f) q = optr D q := rfl
def De.ticked (D : De) : De := { D with tick := if D.tick < 4611686018427387904 then D.tick + 1 else D.tick }.upTo D.n Pe.tick
def Pe.deaf (p : Pe) : Pe := { p with heard := false }
def De.gone (D : De) : De := { (D.upTo D.n Pe.deaf) with left := true }
theorem ptr_neq (w : World) (a : Option Addr) : (binOp .neq 70 (.pointer a) (.pointer none)).run Try.prog w = .ok (.bool a.isSome) w := by
  cases a <;> rfl
set_option maxHeartbeats 1000000 in
theorem tick_any (h : D.Ok w B m) : Calls Try.prog 6 #[.pointer (some ⟨D.b, 0, none⟩)] w fun e w' => e = .returned (.tuple #[]) ∧ Dtep w w' D D.ticked B m := by
  have hn := h.num
  have h16 := h.n16
  have c2 := h.c2
  have f2 := h.fb 2
  obtain ⟨x, hx⟩ : ∃ x, x = if D.tick < 4611686018427387904 then D.tick + 1 else D.tick := ⟨_, rfl⟩
  obtain ⟨W, hW⟩ : ∃ W, (if D.tick < 4611686018427387904 then w.setCell ⟨D.b, 2, none⟩ (.int .i64 (D.tick + 1)) else w) = W := ⟨_, rfl⟩
  have hs : Dtep w W D { D with tick := x } B m := by
    by_cases e : D.tick < 4611686018427387904
    · rw [if_pos e] at hx hW
      subst hx hW
      exact ⟨h.setB 2 _ rfl rfl ⟨by show 0 ≤ D.tick + 1; omega, by show D.tick + 1 ≤ _; omega⟩, kset _ _ _ _ (.inl rfl), fun _ => Iff.rfl⟩
    · rw [if_neg e] at hx hW
      subst hx hW
      exact Dtep.of h
  have c4 := hs.ok.c4
  have Hs : Hid (Dtep w W D { D with tick := x } B m) := hs
  have hT : D.ticked = { D with tick := x }.upTo D.n Pe.tick := by unfold De.ticked; rw [hx]
  have hw : IntKind.i64.wrap (D.tick + 1) = D.tick + 1 := wrap_id (by omega) (by omega)
  rw [hT]
  clear h hs hT hx
  by_cases e : D.tick < 4611686018427387904
  · rw [if_pos e] at hW
    go_enter Try.func6, Try.ntmps6
    go_wp2
    go_loopw [21] (fun i wr => ∃ k : Nat, k ≤ D.n ∧ i = .int .i64 k ∧ Dtep w wr D ({ D with tick := x }.upTo k Pe.tick) B m) (fun i _ => D.n - (intOf i).toNat)
    case atStart => exact ⟨0, Nat.zero_le _, rfl, by rw [upTo_zero]; exact Hs.out⟩
    case round =>
      obtain ⟨k, hk, rfl, hst⟩ := hrel
      by_cases hlt : k < D.n
      · have c0 : wr.cell? ⟨D.br, k, none⟩ = some (optr D k) := hst.ok.cr (q := k) hlt
        have i1 : (0 : Int) ≤ (k : Int) := Int.natCast_nonneg _
        have i2 : (k : Int) < (D.n : Int) := by omega
        have Hst : Hid (Dtep w wr D ({ D with tick := x }.upTo k Pe.tick) B m) := hst
        by_cases hsf : k = D.self
        · have c0' : wr.cell? ⟨D.br, k, none⟩ = some (.pointer none) := by rw [c0]; simp [optr, hsf]
          have Hsf : Hid (k = D.self) := hsf
          clear hst c0 hsf
          go_wp2
          exact ⟨⟨k + 1, by omega, by go_num, by have := Hst.out; rw [Hsf.out] at this ⊢; have e2 := upTo_self { D with tick := x } Pe.tick; simp only at e2; rw [e2]; exact this⟩, by simp [intOf]; omega⟩
        · have hq : ({ D with tick := x }.upTo k Pe.tick).is k := ⟨hlt, hsf⟩
          have c0' : wr.cell? ⟨D.br, k, none⟩ = some (.pointer (some ⟨D.bo k, 0, none⟩)) := by rw [c0]; simp [optr, hsf]
          have c5 : wr.cell? ⟨D.bo k, 5, none⟩ = some (.bool (D.pe k).heard) := by have := (hst.ok.co hq).2.2.2.2.2.1; rw [upTo_at] at this; exact this
          have hup := upTo_succ { D with tick := x } k Pe.tick hsf
          cases hh : (D.pe k).heard with
          | false =>
            rw [hh] at c5
            rw [show Pe.tick (({ D with tick := x } : De).pe k) = ({ D with tick := x }.upTo k Pe.tick).pe k by rw [upTo_at]; simp [Pe.tick, hh], De.set, upd_self] at hup
            have Hup : Hid ({ D with tick := x }.upTo (k + 1) Pe.tick = { D with tick := x }.upTo k Pe.tick) := hup
            clear hst c0 hsf hup hq hh
            go_wp2
            exact ⟨⟨k + 1, by omega, by go_num, by rw [Hup.out]; exact Hst.out⟩, by simp [intOf]; omega⟩
          | true =>
            rw [hh] at c5
            have HG : Hid (Calls Try.prog 22 #[.pointer (some ⟨D.bo k, 0, none⟩)] wr fun e w' => e = .returned (.tuple #[]) ∧ Dtep wr w' ({ D with tick := x }.upTo k Pe.tick) ({ D with tick := x }.upTo (k + 1) Pe.tick) B m) := by
              have := growOlder_any hst.ok hq (by rw [upTo_at]; exact hh)
              rw [upTo_at] at this
              rw [hup, show Pe.tick (({ D with tick := x } : De).pe k) = (({ D with tick := x } : De).pe k).older by simp [Pe.tick, hh]]
              exact this
            clear hst c0 hsf hup hq hh
            go_wp2_with (first | (go_at_call 22; refine HG.out.mono ?_; rintro e w2 ⟨rfl, h2⟩) | fail)
            exact ⟨⟨k + 1, by omega, by go_num, Hst.out.trans h2⟩, by simp [intOf]; omega⟩
      · obtain rfl : k = D.n := by omega
        go_wp2
        go_end0
        exact ⟨rfl, hst⟩
  · rw [if_neg e] at hW
    subst hW
    go_enter Try.func6, Try.ntmps6
    go_wp2
    go_loopw [21] (fun i wr => ∃ k : Nat, k ≤ D.n ∧ i = .int .i64 k ∧ Dtep w wr D ({ D with tick := x }.upTo k Pe.tick) B m) (fun i _ => D.n - (intOf i).toNat)
    case atStart => exact ⟨0, Nat.zero_le _, rfl, by rw [upTo_zero]; exact Hs.out⟩
    case round =>
      obtain ⟨k, hk, rfl, hst⟩ := hrel
      by_cases hlt : k < D.n
      · have c0 : wr.cell? ⟨D.br, k, none⟩ = some (optr D k) := hst.ok.cr (q := k) hlt
        have i1 : (0 : Int) ≤ (k : Int) := Int.natCast_nonneg _
        have i2 : (k : Int) < (D.n : Int) := by omega
        have Hst : Hid (Dtep w wr D ({ D with tick := x }.upTo k Pe.tick) B m) := hst
        by_cases hsf : k = D.self
        · have c0' : wr.cell? ⟨D.br, k, none⟩ = some (.pointer none) := by rw [c0]; simp [optr, hsf]
          have Hsf : Hid (k = D.self) := hsf
          clear hst c0 hsf
          go_wp2
          exact ⟨⟨k + 1, by omega, by go_num, by have := Hst.out; rw [Hsf.out] at this ⊢; have e2 := upTo_self { D with tick := x } Pe.tick; simp only at e2; rw [e2]; exact this⟩, by simp [intOf]; omega⟩
        · have hq : ({ D with tick := x }.upTo k Pe.tick).is k := ⟨hlt, hsf⟩
          have c0' : wr.cell? ⟨D.br, k, none⟩ = some (.pointer (some ⟨D.bo k, 0, none⟩)) := by rw [c0]; simp [optr, hsf]
          have c5 : wr.cell? ⟨D.bo k, 5, none⟩ = some (.bool (D.pe k).heard) := by have := (hst.ok.co hq).2.2.2.2.2.1; rw [upTo_at] at this; exact this
          have hup := upTo_succ { D with tick := x } k Pe.tick hsf
          cases hh : (D.pe k).heard with
          | false =>
            rw [hh] at c5
            rw [show Pe.tick (({ D with tick := x } : De).pe k) = ({ D with tick := x }.upTo k Pe.tick).pe k by rw [upTo_at]; simp [Pe.tick, hh], De.set, upd_self] at hup
            have Hup : Hid ({ D with tick := x }.upTo (k + 1) Pe.tick = { D with tick := x }.upTo k Pe.tick) := hup
            clear hst c0 hsf hup hq hh
            go_wp2
            exact ⟨⟨k + 1, by omega, by go_num, by rw [Hup.out]; exact Hst.out⟩, by simp [intOf]; omega⟩
          | true =>
            rw [hh] at c5
            have HG : Hid (Calls Try.prog 22 #[.pointer (some ⟨D.bo k, 0, none⟩)] wr fun e w' => e = .returned (.tuple #[]) ∧ Dtep wr w' ({ D with tick := x }.upTo k Pe.tick) ({ D with tick := x }.upTo (k + 1) Pe.tick) B m) := by
              have := growOlder_any hst.ok hq (by rw [upTo_at]; exact hh)
              rw [upTo_at] at this
              rw [hup, show Pe.tick (({ D with tick := x } : De).pe k) = (({ D with tick := x } : De).pe k).older by simp [Pe.tick, hh]]
              exact this
            clear hst c0 hsf hup hq hh
            go_wp2_with (first | (go_at_call 22; refine HG.out.mono ?_; rintro e w2 ⟨rfl, h2⟩) | fail)
            exact ⟨⟨k + 1, by omega, by go_num, Hst.out.trans h2⟩, by simp [intOf]; omega⟩
      · obtain rfl : k = D.n := by omega
        go_wp2
        go_end0
        exact ⟨rfl, hst⟩
set_option maxHeartbeats 1000000 in
theorem leave_any (h : D.Ok w B m) : Calls Try.prog 12 #[.pointer (some ⟨D.b, 0, none⟩)] w fun e w' => e = .returned (.tuple #[]) ∧ Dtep w w' D D.gone B m := by
  have hn := h.num
  have h16 := h.n16
  have c3 := h.c3
  have f3 := h.fb 3
  generalize hW : w.setCell ⟨D.b, 3, none⟩ (.bool true) = W
  have hs : Dtep w W D { D with left := true } B m := by
    subst hW
    exact ⟨h.setB 3 _ rfl rfl ⟨hn.2.2.2.2.2.2.1, hn.2.2.2.2.2.2.2⟩, kset _ _ _ _ (.inl rfl), fun _ => Iff.rfl⟩
  have c4 := hs.ok.c4
  have Hs : Hid (Dtep w W D { D with left := true } B m) := hs
  have hT : D.gone = { D with left := true }.upTo D.n Pe.deaf := rfl
  rw [hT]
  clear h hs hT
  go_enter Try.func12, Try.ntmps12
  go_wp2
  go_loopw [12] (fun i wr => ∃ k : Nat, k ≤ D.n ∧ i = .int .i64 k ∧ Dtep w wr D ({ D with left := true }.upTo k Pe.deaf) B m) (fun i _ => D.n - (intOf i).toNat)
  case atStart => exact ⟨0, Nat.zero_le _, rfl, by rw [upTo_zero]; exact Hs.out⟩
  case round =>
    obtain ⟨k, hk, rfl, hst⟩ := hrel
    by_cases hlt : k < D.n
    · have c0 : wr.cell? ⟨D.br, k, none⟩ = some (optr D k) := hst.ok.cr (q := k) hlt
      have i1 : (0 : Int) ≤ (k : Int) := Int.natCast_nonneg _
      have i2 : (k : Int) < (D.n : Int) := by omega
      have Hst : Hid (Dtep w wr D ({ D with left := true }.upTo k Pe.deaf) B m) := hst
      by_cases hsf : k = D.self
      · have c0' : wr.cell? ⟨D.br, k, none⟩ = some (.pointer none) := by rw [c0]; simp [optr, hsf]
        have Hsf : Hid (k = D.self) := hsf
        clear hst c0 hsf
        go_wp2
        exact ⟨⟨k + 1, by omega, by go_num, by have := Hst.out; rw [Hsf.out] at this ⊢; have e2 := upTo_self { D with left := true } Pe.deaf; simp only at e2; rw [e2]; exact this⟩, by simp [intOf]; omega⟩
      · have hq : ({ D with left := true }.upTo k Pe.deaf).is k := ⟨hlt, hsf⟩
        have c0' : wr.cell? ⟨D.br, k, none⟩ = some (.pointer (some ⟨D.bo k, 0, none⟩)) := by rw [c0]; simp [optr, hsf]
        have c5 : wr.cell? ⟨D.bo k, 5, none⟩ = some (.bool (D.pe k).heard) := by have := (hst.ok.co hq).2.2.2.2.2.1; rw [upTo_at] at this; exact this
        have f5 : wr.frozen? ⟨D.bo k, 5, none⟩ = false := hst.ok.fo hq 5
        have HG : Hid (Dtep wr (wr.setCell ⟨D.bo k, 5, none⟩ (.bool false)) ({ D with left := true }.upTo k Pe.deaf) ({ D with left := true }.upTo (k + 1) Pe.deaf) B m) := by
          rw [upTo_succ { D with left := true } k Pe.deaf hsf]
          have h2 := hst.ok.oth k hq
          have h3 := hst.ok.ris k hq
          have hr := hst.ok.rng k hq
          rw [upTo_at] at h2 h3 hr
          exact Dtep.put hst.ok hq _ ((kset (P := fun j => j = D.bo k) _ _ _ _ rfl).mono (fun _ _ e => .inl e)) (blk_set h2 (by rfl)) (blk_set_ne h3 (fun e => hst.ok.ot hq hq e.symm)) { hr with heard := fun e => by cases e }
        clear hst c0 hsf hq
        go_wp2
        exact ⟨⟨k + 1, by omega, by go_num, Hst.out.trans HG.out⟩, by simp [intOf]; omega⟩
    · obtain rfl : k = D.n := by omega
      go_wp2
      go_end0
      exact ⟨rfl, hst⟩
end
end Go.Proofs.Ytfbollifegngjaa.Dt
