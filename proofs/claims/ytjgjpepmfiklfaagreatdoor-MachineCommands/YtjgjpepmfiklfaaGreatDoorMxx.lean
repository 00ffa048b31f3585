import Derived.Test.YtjgjpepmfiklfaaGreatDoorMra
import Derived.Test.YtjgjpepmfiklfaaGreatDoorMxt
import Derived.Lib.BufferRead
namespace Go.Proofs.YtjgjpepmfiklfaaGreatDoor.Mx
open Go.RowKit Mb Mh Lo
set_option linter.unusedVariables false
set_option maxRecDepth 100000
set_option linter.unusedSimpArgs false
section
variable {w w' W : World} {B : Nat}
def Rs (w : World) (rb : Nat) (ao : Option Addr) (n c : Nat) : Option Nat → Prop
  | some a => RRb w rb ao n c (a : Int) 0
  | none => ∃ a x : Int, x ≠ 0 ∧ RRb w rb ao n c a x
def numQ (bs : List Int) (lo hi : Int) : Option Nat → Int × Option Nat
  | none => (0, none)
  | some a => match cntO bs a lo hi with
    | none => (0, none)
    | some (v, a') => (v, some a')
def txtQ (bs : List Int) (hi : Int) : Option Nat → ByteArray × Option Nat
  | none => (⟨#[]⟩, none)
  | some a => match txtO bs a 0 hi with
    | none => (⟨#[]⟩, none)
    | some (s, a') => (strOfNums s, some a')
def endQ (bs : List Int) : Option Nat → Option Nat
  | none => none
  | some a => if a = bs.length then some a else none
theorem cnt_of {bs : List Int} {a a' : Nat} {lo hi v : Int} (h : cntO bs a lo hi = some (v, a')) : cnt bs a lo hi = .ok (v, a') := by
  obtain ⟨h1, h2, h3, _⟩ := cnt_some h
  unfold cnt
  rw [h1]
  simp [inR, h2, h3]
theorem cnt_no {bs : List Int} {a : Nat} {lo hi : Int} (h : cntO bs a lo hi = none) : ∃ x, cnt bs a lo hi = .error x := by
  cases hc : cnt bs a lo hi with
  | error x => exact ⟨x, rfl⟩
  | ok p =>
    obtain ⟨v, m⟩ := p
    obtain ⟨h1, h2, h3, _⟩ := cnt_ok hc
    unfold cntO at h
    rw [h1] at h
    unfold inR at h2
    simp at h2
    simp [h2.1, h2.2] at h
theorem qnum_any {rb n c : Nat} {ao : Option Addr} {bs : List Int} {lo hi : Int} {st : Option Nat} (hs : Rs w rb ao n c st) (hr : Rd w ao n c bs) (hlen : n ≤ 140737488355328) : Calls Tryz.prog 34 #[.pointer (some ⟨rb, 0, none⟩), .int .i64 lo, .int .i64 hi] w fun e w' => e = .returned (.int .i64 (numQ bs lo hi st).1) ∧ Rs w' rb ao n c (numQ bs lo hi st).2 ∧ Bk.Kept w w' (fun j => j = rb) := by
  cases st with
  | none =>
    obtain ⟨a, x, hx, hb⟩ := hs
    exact (rnum_stuck rb n c ao a lo hi x w hb hx).mono fun e w' ⟨e1, e2⟩ => ⟨e1, by subst e2; exact ⟨a, x, hx, hb⟩, by subst e2; exact Bk.Kept.refl _ _⟩
  | some a =>
    cases hc : cntO bs a lo hi with
    | none =>
      have e0 : numQ bs lo hi (some a) = (0, none) := by unfold numQ; simp only [hc]
      rw [e0]
      obtain ⟨x, hx⟩ := cnt_no hc
      exact (rnum_err rb n c ao bs a lo hi x w hs hr hlen hx).mono fun e w' ⟨e1, ⟨a', e2⟩, e3⟩ => ⟨e1, ⟨a', x, cnt_nz hx, e2⟩, e3⟩
    | some p =>
      obtain ⟨v, a'⟩ := p
      have e0 : numQ bs lo hi (some a) = (v, some a') := by unfold numQ; simp only [hc]
      rw [e0]
      exact rnum_ok rb n c ao bs a a' lo hi v w hs hr hlen (cnt_of hc)
theorem qend_any {rb n c : Nat} {ao : Option Addr} {bs : List Int} {st : Option Nat} (hs : Rs w rb ao n c st) (hl : bs.length = n) : Calls Tryz.prog 36 #[.pointer (some ⟨rb, 0, none⟩)] w fun e w' => e = .returned (.tuple #[]) ∧ Rs w' rb ao n c (endQ bs st) ∧ Bk.Kept w w' (fun j => j = rb) := by
  cases st with
  | none =>
    obtain ⟨a, x, hx, hb⟩ := hs
    exact (rend_stuck rb n c ao a x w hb hx).mono fun e w' ⟨e1, e2, e3⟩ => ⟨e1, ⟨a, x, hx, e2⟩, e3⟩
  | some a =>
    by_cases ha : a = bs.length
    · have e0 : endQ bs (some a) = some a := if_pos ha
      rw [e0]
      exact rend_ok rb n c ao a w hs (by omega)
    · have e0 : endQ bs (some a) = none := if_neg ha
      rw [e0]
      exact (rend_tail rb n c ao a w hs (by omega)).mono fun e w' ⟨e1, ⟨a', e2⟩, e3⟩ => ⟨e1, ⟨a', 15, by decide, e2⟩, e3⟩
def rngL (bs : List Int) : Prop := ∀ i, 0 ≤ bs.getD i 0 ∧ bs.getD i 0 ≤ 255
theorem own_conv {b : Nat} {v : Value} {bs : List Int} (ho : Own w b v bs) (hr : rngL bs) : (convert 24 9 v).run Tryz.prog w = .ok (.string (strOfNums bs)) w := by
  obtain ⟨ao, c, rfl, hrd⟩ := ho.rdAny hr
  have h := conv_at (ad := ao) (c' := c) (a := 0) (k := bs.length) hrd (by rw [Nat.zero_add]; exact Nat.le_refl _) (fun h => h) (fun b off h => .inl h)
  rw [List.drop_zero, List.take_length] at h
  exact h
theorem qtext_any {rb n c : Nat} {ao : Option Addr} {bs : List Int} {hi : Int} {st : Option Nat} {w0 : World} (hs : Rs w rb ao n c st) (hr : Rd w0 ao n c bs) (hb0 : Below w0.heap.size w0 w) (hrb : w0.heap.size ≤ rb) (hlen : n ≤ 140737488355328) (hnc : n ≤ c) : Calls Tryz.prog 35 #[.pointer (some ⟨rb, 0, none⟩), .int .i64 hi] w fun e w' => e = .returned (.string (txtQ bs hi st).1) ∧ Rs w' rb ao n c (txtQ bs hi st).2 ∧ Bk.Kept w w' (fun j => j = rb) := by
  have hnil : ∀ X : World, (convert 24 9 (.slice none 0 0)).run Tryz.prog X = .ok (.string ⟨#[]⟩) X := fun X => Lib.run_convert_nil_bytes X 24 9 5 0 Tryz.underlying24 Tryz.underlying5 Tryz.underlying9
  have fail_case : (∀ st', (txtQ bs hi st) = (⟨#[]⟩, none) → (Calls Tryz.prog 64 #[.pointer (some ⟨rb, 0, none⟩), .int .i64 0, .int .i64 hi] w fun e w' => e = .returned (.slice none 0 0) ∧ (∃ a x : Int, x ≠ 0 ∧ RRb w' rb ao n c a x) ∧ Bk.Kept w w' (fun j => j = rb)) → st' = st → Calls Tryz.prog 35 #[.pointer (some ⟨rb, 0, none⟩), .int .i64 hi] w fun e w' => e = .returned (.string (txtQ bs hi st).1) ∧ Rs w' rb ao n c (txtQ bs hi st).2 ∧ Bk.Kept w w' (fun j => j = rb)) := fun st' ht HB _ => by
    rw [ht]
    clear hs hr hb0
    go_enter Tryz.func35, Tryz.ntmps35
    go_wp2_with (fail)
    refine HB.mono ?_
    rintro e w1 ⟨rfl, h1, h2⟩
    have H1 : Hid (∃ a x : Int, x ≠ 0 ∧ RRb w1 rb ao n c a x) := h1
    have H2 : Hid (Bk.Kept w w1 (fun j => j = rb)) := h2
    have hcv := hnil w1
    clear h1 h2 hnil
    go_wp2
    go_ret
    exact ⟨rfl, H1.out, H2.out⟩
  cases st with
  | none =>
    obtain ⟨a, x, hx, hb⟩ := hs
    exact fail_case none rfl ((rbytes_stuck rb n c ao a 0 hi x w hb hx).mono fun e w' ⟨e1, e2⟩ => ⟨e1, by subst e2; exact ⟨a, x, hx, hb⟩, by subst e2; exact Bk.Kept.refl _ _⟩) rfl
  | some a =>
    cases ht : txtO bs a 0 hi with
    | none =>
      refine fail_case (some a) (by unfold txtQ; simp only [ht]) ?_ rfl
      rcases txt_none ht with hc | ⟨v, a', hc, hl⟩
      · obtain ⟨x, hx⟩ := cnt_no hc
        exact (rbytes_err rb n c ao bs a 0 hi x w hs (hr.below hb0) hlen hx).mono fun e w' ⟨e1, ⟨a', e2⟩, e3⟩ => ⟨e1, ⟨a', x, cnt_nz hx, e2⟩, e3⟩
      · exact (rbytes_short rb n c ao bs a a' v 0 hi w hs (hr.below hb0) hlen (cnt_of hc) hl).mono fun e w' ⟨e1, ⟨a', e2⟩, e3⟩ => ⟨e1, ⟨a', 10, by decide, e2⟩, e3⟩
    | some p =>
      obtain ⟨s, a2⟩ := p
      obtain ⟨v, a', hc, hl, rfl, rfl⟩ := txt_some ht
      have HB := rbytes_ok w0 rb n c ao bs a a' v 0 hi w hs hr hb0 hrb hlen hnc (cnt_of hc) hl
      have hrg : rngL ((bs.drop a').take v.toNat) := getD_range (fun x hx => mem_range hr.2.2.2 x (List.mem_of_mem_drop (List.mem_of_mem_take hx)))
      have e0 : txtQ bs hi (some a) = (strOfNums ((bs.drop a').take v.toNat), some (a' + v.toNat)) := by unfold txtQ; simp only [ht]
      rw [e0]
      clear hs hr hb0 fail_case hnil ht hc e0
      go_enter Tryz.func35, Tryz.ntmps35
      go_wp2_with (fail)
      refine HB.mono ?_
      rintro e w1 ⟨u, rfl, h1, h2, h3⟩
      have hcv := own_conv h1 hrg
      have H2 : Hid (RRb w1 rb ao n c ((a' + v.toNat : Nat) : Int) 0) := h2
      have H3 : Hid (Bk.Kept w w1 (fun j => j = rb)) := h3
      clear h1 h2 h3 hrg HB hl
      go_wp2
      go_ret
      exact ⟨rfl, H2.out, H3.out⟩
end
end Go.Proofs.YtjgjpepmfiklfaaGreatDoor.Mx
