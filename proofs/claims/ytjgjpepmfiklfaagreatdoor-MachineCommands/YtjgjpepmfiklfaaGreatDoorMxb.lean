import Derived.Test.YtjgjpepmfiklfaaGreatDoorMxa
import Derived.Lib.AppendIntMem
namespace Go.Proofs.YtjgjpepmfiklfaaGreatDoor.Mx
open Go.RowKit Mb Mh
set_option linter.unusedVariables false
set_option maxRecDepth 100000
set_option linter.unusedSimpArgs false
section
variable {w w' W : World} {B : Nat}
theorem atoi_ok (s : ByteArray) (n : Int) (hl : s.size ≤ 8) (h : Lib.atoi s.data.toList = some n) : Calls Tryz.prog 82 #[.string s] w fun e w' => e = .returned (.tuple #[.int .i64 n, .nilIface]) ∧ Below w.heap.size w w' :=
  (Any.strconv_Atoi Tryz.atoiL s n (by omega) h w).mono fun e w' ⟨h1, t, h2⟩ => ⟨h1, by rw [h2]; exact Lib.bytesWorld_below _ _ _⟩
theorem atoi_no (hg : Gl w) (s : ByteArray) (hl : s.size ≤ 8) (h : Lib.atoi s.data.toList = none) : Calls Tryz.prog 82 #[.string s] w fun e w' => ∃ t p, e = .returned (.tuple #[.int .i64 0, .iface t (.pointer p)]) ∧ Below w.heap.size w w' := by
  obtain ⟨te, pe, he⟩ := hg.e
  exact (Any.strconv_Atoi_err Tryz.atoiC s (by omega) h _ w he (.inr ⟨te, pe, rfl⟩)).mono fun e w' ⟨N, h1, _, _, h2⟩ => ⟨_, _, h1, h2⟩
theorem itoa_ok (hg : Gl w) (n : Int) (h0 : -1000000000 ≤ n) (h1 : n ≤ 1000000000) : Calls Tryz.prog 83 #[.int .i64 n] w fun e w' => e = .returned (.string ⟨(Lib.itoa n).toArray⟩) ∧ Below w.heap.size w w' :=
  (Any.strconv_Itoa Tryz.itoaL n (by omega) (by omega) w hg.t).mono fun e w' ⟨h1, k, os, h2⟩ => ⟨h1, by rw [h2]; exact Lib.below_grow _ _ (Nat.le_refl _) _ _⟩
set_option maxHeartbeats 2000000 in
theorem numberOf_any (hg : Gl w) (s : ByteArray) : Calls Tryz.prog 72 #[.string s] w fun e w' => e = .returned (.tuple #[.int .i64 ((numF s).getD 0), .bool (numF s).isSome]) ∧ Below w.heap.size w w' := by
  have HV : Hid (∀ X : World, Calls Tryz.prog 47 #[.string s] X fun e w' => e = .returned (.bool (valB s)) ∧ X = w') := fun X => isValue_any s
  by_cases h8 : s.size ≤ 8
  · have hv : valB s = true := by unfold valB; simp; omega
    rw [hv] at HV
    cases ha : Lib.atoi s.data.toList with
    | none =>
      have hn : numF s = none := by unfold numF; rw [if_pos h8, ha]; rfl
      have HA : Hid (∀ X : World, Gl X → Calls Tryz.prog 82 #[.string s] X fun e w' => ∃ t p, e = .returned (.tuple #[.int .i64 0, .iface t (.pointer p)]) ∧ Below X.heap.size X w') := fun X hX => atoi_no hX s h8 ha
      rw [hn]
      have HG : Hid (Gl w) := hg
      clear ha hn hv hg h8
      go_enter Tryz.func72, Tryz.ntmps72
      go_wp2_with (first
        | (go_at_call 47; refine (HV.out _).mono ?_; rintro e wx ⟨rfl, rfl⟩)
        | (go_at_call 82; refine (HA.out _ HG.out).mono ?_; rintro e w1 ⟨t, p, rfl, hb⟩)
        | fail)
      (try simp only [Exit.inBlock, Exit.then])
      refine bodyPost_ret (results_tmp2 Tryz.results72 _ _ _) rfl ⟨rfl, hb⟩
    | some n =>
      have h7 : s.data.toList.length = s.size := Array.length_toList
      have hb := atoi_bound ha (by omega)
      clear h7
      have HA : Hid (∀ X : World, Calls Tryz.prog 82 #[.string s] X fun e w' => e = .returned (.tuple #[.int .i64 n, .nilIface]) ∧ Below X.heap.size X w') := fun X => atoi_ok s n h8 ha
      have HI : Hid (∀ X : World, Gl X → Calls Tryz.prog 83 #[.int .i64 n] X fun e w' => e = .returned (.string ⟨(Lib.itoa n).toArray⟩) ∧ Below X.heap.size X w') := fun X hX => itoa_ok hX n hb.1 hb.2
      have HG : Hid (Gl w) := hg
      by_cases he : Lib.itoa n = s.data.toList
      · have hn : numF s = some n := by unfold numF; rw [if_pos h8, ha]; simp [he]
        have hs : (⟨(Lib.itoa n).toArray⟩ : ByteArray) = s := by
          apply ByteArray.ext
          rw [← Array.toList_inj]
          simpa using he
        rw [hs] at HI
        rw [hn]
        clear ha hn hv hg he hs h8
        go_enter Tryz.func72, Tryz.ntmps72
        go_wp2_with (first
          | (go_at_call 47; refine (HV.out _).mono ?_; rintro e wx ⟨rfl, rfl⟩)
          | (go_at_call 82; refine (HA.out _).mono ?_; rintro e w1 ⟨rfl, hb1⟩; have HB1 : Hid (Below w.heap.size w w1) := hb1; clear hb1)
          | (go_at_call 83; refine (HI.out _ (HG.out.still HB1.out)).mono ?_; rintro e w2 ⟨rfl, hb2⟩; have HB2 : Hid (Below w.heap.size w w2) := bstep HB1.out hb2; clear hb2)
          | fail)
        (try simp only [Exit.inBlock, Exit.then])
        refine bodyPost_ret (results_tmp2 Tryz.results72 _ _ _) rfl ⟨rfl, HB2.out⟩
      · have hn : numF s = none := by unfold numF; rw [if_pos h8, ha]; simp [he]
        have hs : ((⟨(Lib.itoa n).toArray⟩ : ByteArray).toList == s.toList) = false := by
          rw [beq_eq_false_iff_ne]
          intro e
          rw [ByteArray.toList_eq, ByteArray.toList_eq] at e
          exact he (by simpa using e)
        obtain ⟨u, hu⟩ : ∃ u : ByteArray, (⟨(Lib.itoa n).toArray⟩ : ByteArray) = u := ⟨_, rfl⟩
        rw [hu] at HI hs
        rw [hn]
        clear ha hn hv hg he hu h8
        go_enter Tryz.func72, Tryz.ntmps72
        go_wp2_with (first
          | (go_at_call 47; refine (HV.out _).mono ?_; rintro e wx ⟨rfl, rfl⟩)
          | (go_at_call 82; refine (HA.out _).mono ?_; rintro e w1 ⟨rfl, hb1⟩; have HB1 : Hid (Below w.heap.size w w1) := hb1; clear hb1)
          | (go_at_call 83; refine (HI.out _ (HG.out.still HB1.out)).mono ?_; rintro e w2 ⟨rfl, hb2⟩; have HB2 : Hid (Below w.heap.size w w2) := bstep HB1.out hb2; clear hb2)
          | fail)
        (try simp only [Exit.inBlock, Exit.then])
        refine bodyPost_ret (results_tmp2 Tryz.results72 _ _ _) rfl ⟨rfl, HB2.out⟩
  · have hv : valB s = false := by unfold valB; simp; omega
    have hn : numF s = none := by unfold numF; rw [if_neg h8]
    rw [hv] at HV
    rw [hn]
    clear hv hn h8
    go_enter Tryz.func72, Tryz.ntmps72
    go_wp2_with (first
      | (go_at_call 47; refine (HV.out _).mono ?_; rintro e wx ⟨rfl, rfl⟩)
      | fail)
    (try simp only [Exit.inBlock, Exit.then])
    refine bodyPost_ret (results_tmp2 Tryz.results72 _ _ _) rfl ⟨rfl, Below.refl _ _⟩
def nmB (s : ByteArray) : Bool := (numF s).isSome
def tkB (s : ByteArray) : Bool := (numF s).isSome && decide (0 < (numF s).getD 0)
def ctB (s : ByteArray) : Bool := (numF s).isSome && cliB ((numF s).getD 0)
theorem isNumber_any (hg : Gl w) (s : ByteArray) : Calls Tryz.prog 53 #[.string s] w fun e w' => e = .returned (.bool (nmB s)) ∧ Below w.heap.size w w' := by
  have H := numberOf_any hg s
  unfold nmB
  generalize (numF s).getD 0 = n at *
  generalize (numF s).isSome = b at *
  go_enter Tryz.func53, Tryz.ntmps53
  go_wp2_with (fail)
  refine H.mono ?_
  rintro e w1 ⟨rfl, hb⟩
  go_wp2
  go_ret
  exact ⟨rfl, hb⟩
theorem isToken_any (hg : Gl w) (s : ByteArray) : Calls Tryz.prog 57 #[.string s] w fun e w' => e = .returned (.bool (tkB s)) ∧ Below w.heap.size w w' := by
  have H := numberOf_any hg s
  unfold tkB
  generalize (numF s).getD 0 = n at *
  generalize (numF s).isSome = b at *
  cases b with
  | false =>
    go_enter Tryz.func57, Tryz.ntmps57
    go_wp2_with (fail)
    refine H.mono ?_
    rintro e w1 ⟨rfl, hb⟩
    go_wp2
    go_ret
    exact ⟨rfl, hb⟩
  | true =>
    by_cases h0 : 0 < n
    · go_enter Tryz.func57, Tryz.ntmps57
      go_wp2_with (fail)
      refine H.mono ?_
      rintro e w1 ⟨rfl, hb⟩
      go_wp2
      go_ret
      exact ⟨by simp [h0], hb⟩
    · go_enter Tryz.func57, Tryz.ntmps57
      go_wp2_with (fail)
      refine H.mono ?_
      rintro e w1 ⟨rfl, hb⟩
      go_wp2
      go_ret
      exact ⟨by simp [h0], hb⟩
theorem isClientText_any (hg : Gl w) (s : ByteArray) : Calls Tryz.prog 59 #[.string s] w fun e w' => e = .returned (.bool (ctB s)) ∧ Below w.heap.size w w' := by
  have H := numberOf_any hg s
  have HC : Hid (∀ (X : World) (n : Int), Calls Tryz.prog 27 #[.int .i64 n] X fun e w' => e = .returned (.bool (cliB n)) ∧ X = w') := fun X n => isClient_any n
  unfold ctB
  generalize (numF s).getD 0 = n at *
  generalize (numF s).isSome = b at *
  generalize hc : cliB n = c at *
  have HC2 : Hid (∀ (X : World), Calls Tryz.prog 27 #[.int .i64 n] X fun e w' => e = .returned (.bool c) ∧ X = w') := fun X => by rw [← hc]; exact HC.out X n
  clear HC hc
  cases b with
  | false =>
    go_enter Tryz.func59, Tryz.ntmps59
    go_wp2_with (fail)
    refine H.mono ?_
    rintro e w1 ⟨rfl, hb⟩
    go_wp2
    go_ret
    exact ⟨rfl, hb⟩
  | true =>
    go_enter Tryz.func59, Tryz.ntmps59
    go_wp2_with (fail)
    refine H.mono ?_
    rintro e w1 ⟨rfl, hb⟩
    go_wp2_with (first | (go_at_call 27; refine (HC2.out _).mono ?_; rintro e wx ⟨rfl, rfl⟩) | fail)
    go_ret
    exact ⟨by simp, hb⟩
end
end Go.Proofs.YtjgjpepmfiklfaaGreatDoor.Mx
