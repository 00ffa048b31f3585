import Derived.Test.YtapenemfnngniaaPo3
import Derived.Test.YtapenemfnngniaaPt
namespace Go.Proofs.Ytapenemfnngniaa.Qm
open Go.RowKit Mb
set_option linter.unusedVariables false
set_option maxRecDepth 100000
set_option linter.unusedSimpArgs false
theorem zi_nv {xs : List Int} (h : okI xs = true) : zi (nv xs) = xs := by
  have h1 : xs.all in9 = true := by
    unfold okI at h
    simp only [Bool.and_eq_true] at h
    exact h.2.1
  unfold zi nv
  rw [List.map_map]
  have h2 : xs.map (Int.ofNat ∘ Int.toNat) = xs.map id := List.map_congr_left fun x hx => by
    have := of_decide_eq_true (List.all_eq_true.1 h1 x hx)
    show ((x.toNat : Nat) : Int) = x
    omega
  rw [h2, List.map_id]
def mnL (xs : List Int) : List Nat := if okI xs then frm (nv xs) (xs.length + 1) 0 0 else []
section
variable {w w' W : World} {B : Nat}
set_option maxHeartbeats 1000000 in
theorem min_no {ao : Option Addr} {n c : Nat} {xs : List Int} (hr : RdI w ao n c xs) (hok : okI xs = false) : Calls Try.prog 9 #[.slice ao n c] w fun e w' => e = .returned (.tuple #[.slice none 0 0, .int .i64 110]) ∧ Below w.heap.size w w' := by
  have HC0 := counted_any hr
  rw [hok] at HC0
  have HC : Hid (Calls Try.prog 33 #[.slice ao n c] w fun e w' => ∃ r, e = .returned (.tuple #[.agg (ints r).toArray, .bool false]) ∧ r.length = 19 ∧ Below w.heap.size w w') := HC0.mono fun e w' ⟨r, e1, e2, e3, e4⟩ => ⟨r, e1, e2, e4⟩
  clear HC0 hr
  go_enter Try.func9, Try.ntmps9
  go_wp2_with (first
    | (go_at_call 33; refine HC.out.mono ?_; rintro e w1 ⟨r, rfl, hrl, hb1⟩; obtain ⟨A1, V, hA1, HA1, hV, HV, HBV⟩ := newbal w1 r hrl)
    | (refine store_mid 72 (.tmp 4) (.tmp 11) (xs := r) HA1.out (info_bl hrl) rfl rfl rfl rfl ?_; rw [hV]; have HBW : Hid (Below w.heap.size w V) := bstep hb1 HBV.out; generalize w1.heap.size = gb at *; clear hV HA1 hA1 hb1 HV HBV)
    | fail)
  (try simp only [Exit.inBlock, Exit.then])
  refine bodyPost_ret (results_tmp2 rfl _ _ _) rfl ?_
  exact ⟨rfl, HBW.out⟩
theorem minT {ao : Option Addr} {n c : Nat} {xs : List Int} (hr : RdI w ao n c xs) : Calls Try.prog 9 #[.slice ao n c] w fun e w' => ∃ x E, e = .returned (.tuple #[x, .int .i64 (chkE xs)]) ∧ E.map El.s = mnL xs ∧ Ll w' w.heap.size n x E ∧ Below w.heap.size w w' := by
  cases hok : okI xs with
  | false =>
    unfold chkE mnL
    rw [hok]
    exact (min_no hr hok).mono fun e w' ⟨h1, h2⟩ => ⟨_, [], h1, rfl, Ll.none _ _ _, h2⟩
  | true =>
    have ho := okI_ok hok
    have hl : (nv xs).length = n := by rw [nv_len, hr.len]
    have h16 : n ≤ 16 := by rw [← hl]; exact ho.1
    have hr2 := hr
    rw [← zi_nv hok] at hr2
    unfold chkE mnL
    rw [hok, hr.len]
    refine (minimals_any2 hr2 ho hl).mono fun e w' ⟨g, c', E, h1, h2, h3, h4, h5⟩ => ⟨_, E, h1, ?_, h3, h4⟩
    have e1 := frm_all ho
    rw [hl] at e1
    exact perm_uniq h16 _ _ (h2.trans e1.symm) (fun s hs => (ML_mem.1 (h2.mem_iff.1 hs)).1) h5 (by
      have := frm_sorted ho.1 ((nv xs).length + 1) 0 0 (by simp) (Nat.zero_le _) (by omega)
      rw [hl] at this
      exact this)
set_option maxHeartbeats 1000000 in
theorem rminT {ao : Option Addr} {n c : Nat} {xs : List Int} (hr : RdI w ao n c xs) : Calls Try.prog 13 #[.slice ao n c] w fun e w' => ∃ x E, e = .returned (.tuple #[x, .int .i64 (chkE xs)]) ∧ E.map El.s = mnL xs ∧ Ll w' w.heap.size n x E ∧ Below w.heap.size w w' := by
  have HC0 := rcheck_any hr
  cases hok : okI xs with
  | false =>
    unfold chkE at HC0
    unfold chkE mnL
    rw [hok] at HC0 ⊢
    have HC : Hid (Calls Try.prog 26 #[.slice ao n c] w fun e w' => e = .returned (.int .i64 110) ∧ w = w') := HC0
    clear HC0 hr
    go_enter Try.func13, Try.ntmps13
    go_wp2_with (first
      | (go_at_call 26; refine HC.out.mono ?_; rintro e w1 ⟨rfl, rfl⟩)
      | fail)
    (try simp only [Exit.inBlock, Exit.then])
    refine bodyPost_ret (results_tmp2 rfl _ _ _) rfl ?_
    first
      | exact ⟨_, [], rfl, rfl, Ll.none _ _ _, Below.refl _ _⟩
      | exact ⟨_, rfl, Ll.none _ _ _, Below.refl _ _⟩
      | exact ⟨_, rfl, [], rfl, Ll.none _ _ _, Below.refl _ _⟩
  | true =>
    have HF : Hid (Calls Try.prog 39 #[.slice ao n c, .int .i64 0, .int .i64 0] w fun e w' => ∃ x E, e = .returned x ∧ E.map El.s = frm (nv xs) (n + 1) 0 0 ∧ Ll w' w.heap.size n x E ∧ Below w.heap.size w w') := rfrom_any hok (n + 1) w 0 0 hr (by simp) (Nat.zero_le _) (by omega)
    unfold chkE at HC0
    unfold chkE mnL
    rw [hok] at HC0 ⊢
    rw [hr.len]
    have HC : Hid (Calls Try.prog 26 #[.slice ao n c] w fun e w' => e = .returned (.int .i64 0) ∧ w = w') := HC0
    clear HC0 hr
    generalize frm (nv xs) (n + 1) 0 0 = FF at *
    go_enter Try.func13, Try.ntmps13
    go_wp2_with (first
      | (go_at_call 26; refine HC.out.mono ?_; rintro e w1 ⟨rfl, rfl⟩)
      | (go_at_call 39; refine HF.out.mono ?_; rintro e w1 ⟨x, E, rfl, h1, h2, h3⟩; have HX : Hid (E.map El.s = FF ∧ Ll w1 w.heap.size n x E ∧ Below w.heap.size w w1) := ⟨h1, h2, h3⟩; clear h1 h2 h3)
      | fail)
    (try simp only [Exit.inBlock, Exit.then])
    refine bodyPost_ret (results_tmp2 rfl _ _ _) rfl ?_
    first
      | exact ⟨_, E, rfl, HX.out.1, HX.out.2.1, HX.out.2.2⟩
      | exact ⟨_, rfl, E, HX.out.1, HX.out.2.1, HX.out.2.2⟩
end
end Go.Proofs.Ytapenemfnngniaa.Qm
