import Derived.Test.YtfodkackfahldaaScC
namespace Go.Proofs.Ytfodkackfahldaa.Lo
open Go.RowKit
set_option linter.unusedVariables false
set_option linter.unusedSimpArgs false

theorem headC_true {no wi ba st ca ro fl : Int} {n : Nat} (h : headC no wi ba st ca ro fl n = true) : (1 ≤ no ∧ no ≤ 16) ∧ (1 ≤ wi ∧ wi ≤ 8) ∧ (1 ≤ ca ∧ ca ≤ 64) ∧ (1 ≤ ba ∧ ba ≤ ca) ∧ (1 ≤ st ∧ st ≤ ca) ∧ (1 ≤ ro ∧ ro ≤ 20000) ∧ (0 ≤ fl ∧ fl ≤ 4611686018427387904) ∧ (n : Int) = no := by
  simp only [headC, inR, Bool.and_eq_true, decide_eq_true_eq] at h
  omega
theorem headC_false {no wi ba st ca ro fl : Int} {n : Nat} (h : headC no wi ba st ca ro fl n = false) : ¬ ((1 ≤ no ∧ no ≤ 16) ∧ (1 ≤ wi ∧ wi ≤ 8) ∧ (1 ≤ ca ∧ ca ≤ 64) ∧ (1 ≤ ba ∧ ba ≤ ca) ∧ (1 ≤ st ∧ st ≤ ca) ∧ (1 ≤ ro ∧ ro ≤ 20000) ∧ (0 ≤ fl ∧ fl ≤ 4611686018427387904) ∧ (n : Int) = no) := by
  intro g
  have : headC no wi ba st ca ro fl n = true := by
    simp only [headC, inR, Bool.and_eq_true, decide_eq_true_eq]
    omega
  rw [h] at this
  cases this

set_option maxRecDepth 100000 in
set_option maxHeartbeats 4000000 in
theorem rcheck_any (no wi ba st ca ro fl : Int) (ao : Option Addr) (n c : Nat) (xs : List Int) (r : Bool) (w : World) (hr : Ri w ao n c xs) (hn : n ≤ 140737488355328) (hB : votesB xs = r) :
    Calls Try.prog 7 #[.agg #[.int .i64 no, .int .i64 wi, .int .i64 ba, .int .i64 st, .int .i64 ca, .int .i64 ro, .int .i64 fl, .slice ao n c]] w fun e w' => e = .returned (.int .i64 (cfgE no wi ba st ca ro fl n r)) ∧ Below w.heap.size w w' := by
  have HC : Hid (n = 0 ∨ ∃ b off, ao = some ⟨b, off, none⟩ ∧ ∀ i, i < n → w.cell? ⟨b, off + i, none⟩ = some (.int .i64 (xs.getD i 0))) := hr.2.2
  have HL : Hid (xs.length = n) := hr.1
  have HRR : Hid (votesB xs = r) := hB
  clear hr hB
  cases hg : headC no wi ba st ca ro fl n
  · have HE : Hid (cfgE no wi ba st ca ro fl n r = 22) := by show _ = _; rw [cfgE, hg]; rfl
    have HG : Hid (¬ ((1 ≤ no ∧ no ≤ 16) ∧ (1 ≤ wi ∧ wi ≤ 8) ∧ (1 ≤ ca ∧ ca ≤ 64) ∧ (1 ≤ ba ∧ ba ≤ ca) ∧ (1 ≤ st ∧ st ≤ ca) ∧ (1 ≤ ro ∧ ro ≤ 20000) ∧ (0 ≤ fl ∧ fl ≤ 4611686018427387904) ∧ (n : Int) = no)) := headC_false hg
    rw [HE.out]
    clear hg HL HRR HC
    go_enter Try.func7, Try.ntmps7
    go_wp2_with fail
    all_goals first
      | (go_ret; exact ⟨rfl, (Below.refl _ _).alloc (Nat.le_refl _) _⟩)
      | (exfalso; apply HG.out; omega)
      | (exfalso; apply HG.out; simp_all)
      | (exfalso; apply HG.out; simp_all; omega)
  · obtain ⟨⟨h1, h2⟩, ⟨h3, h4⟩, ⟨h5, h6⟩, ⟨h7, h8⟩, ⟨h9, h10⟩, ⟨h11, h12⟩, ⟨h13, h14⟩, h15⟩ := headC_true hg
    obtain ⟨E, hE⟩ : ∃ E, cfgE no wi ba st ca ro fl n r = E := ⟨_, rfl⟩
    have HE : Hid (E = if r then 0 else 22) := by show _ = _; rw [← hE, cfgE, hg]; rfl
    rw [hE]
    clear hg hE
    have HB : Hid (Below w.heap.size w (w.alloc (.cells #[.int .i64 no, .int .i64 wi, .int .i64 ba, .int .i64 st, .int .i64 ca, .int .i64 ro, .int .i64 fl, .slice ao n c] 24))) := (Below.refl _ _).alloc (Nat.le_refl _) _
    have hpc := fun i => blk_cell (heap_new w #[.int .i64 no, .int .i64 wi, .int .i64 ba, .int .i64 st, .int .i64 ca, .int .i64 ro, .int .i64 fl, .slice ao n c] 24) i
    have HC2 : Hid (n = 0 ∨ ∃ b off, ao = some ⟨b, off, none⟩ ∧ ∀ i, i < n → (w.alloc (.cells #[.int .i64 no, .int .i64 wi, .int .i64 ba, .int .i64 st, .int .i64 ca, .int .i64 ro, .int .i64 fl, .slice ao n c] 24)).cell? ⟨b, off + i, none⟩ = some (.int .i64 (xs.getD i 0))) := by
      rcases HC.out with h | ⟨b, off, rfl, hc⟩
      · exact .inl h
      · exact .inr ⟨b, off, rfl, fun i hi => (HB.out.cell (World.block_lt_of_cell? w _ (hc i hi))).trans (hc i hi)⟩
    clear HC
    go_enter Try.func7, Try.ntmps7
    go_wp2_with fail
    generalize hW : w.alloc (.cells #[.int .i64 no, .int .i64 wi, .int .i64 ba, .int .i64 st, .int .i64 ca, .int .i64 ro, .int .i64 fl, .slice ao n c] 24) = W at *
    go_loopw [3,4] (fun s x wr => ∃ (j : Nat) (t : Int), j ≤ n ∧ x = .int .i64 j ∧ s = .int .i64 t ∧ Hid ((xs.take j).all okV = true) ∧ Hid ((xs.take j).sum = t) ∧ W = wr) (fun _ x _ => n - (intOf x).toNat)
    case atStart => exact ⟨0, 0, Nat.zero_le _, rfl, rfl, (by simp : (xs.take 0).all okV = true), (by simp : (xs.take 0).sum = 0), rfl⟩
    case round =>
      obtain ⟨j, t, hj, rfl, rfl, hall, hsum, rfl⟩ := hrel
      have hrg : 0 ≤ t ∧ t ≤ 9 * 140737488355328 := by
        have h1 := sum_range hall.out
        rw [hsum.out, List.length_take] at h1
        have := HL.out
        omega
      by_cases hjn : j < n
      · obtain ⟨b, off, rfl, hcx⟩ : ∃ b off, ao = some ⟨b, off, none⟩ ∧ W.cell? ⟨b, off + j, none⟩ = some (.int .i64 (xs.getD j 0)) := by
          rcases HC2.out with h | ⟨b, off, rfl, hc⟩
          · omega
          · exact ⟨b, off, rfl, hc j hjn⟩
        obtain ⟨x, hx⟩ : ∃ x, xs.getD j 0 = x := ⟨_, rfl⟩
        rw [hx] at hcx
        have HS : Hid ((xs.take (j + 1)).all okV = okV x) := by
          show _ = _
          rw [all_take_succ (by have := HL.out; omega), hall.out, hx, Bool.true_and]
        have HT : Hid ((xs.take (j + 1)).sum = t + x) := by
          show _ = _
          rw [sum_take_succ (by have := HL.out; omega), hsum.out, hx]
        clear hx HC2
        by_cases hok : 0 ≤ x ∧ x ≤ 9
        · have HS' : Hid ((xs.take (j + 1)).all okV = true) := HS.out.trans (by simpa [okV, inR] using hok)
          have hxr := hok
          clear hok
          go_wp2_with fail
          go_roundw
          case rel => exact ⟨j + 1, t + x, by omega, by go_num, by go_num, HS', HT, (by first | exact rfl | exact True.intro)⟩
          case measure => simp [intOf]; omega
        · have HF : Hid (r = false) := votes_stop (HS.out.trans (by simp only [okV, inR, Bool.and_eq_false_iff, decide_eq_false_iff_not]; omega)) HRR.out
          rcases (by omega : x < 0 ∨ (0 ≤ x ∧ 9 < x)) with hx | ⟨hx, hx'⟩
          all_goals clear hok
          all_goals go_wp2_with fail
          all_goals go_ret
          all_goals exact ⟨by rw [HE.out, HF.out]; rfl, HB.out⟩
      · have HF : Hid (r = decide (0 < t)) := votes_end HL.out hjn hall.out hsum.out HRR.out
        by_cases ht : t = 0
        · have HG : Hid (E = 22) := by show _ = _; rw [HE.out, HF.out, ht]; rfl
          subst ht
          go_wp2_with fail
          go_ret
          exact ⟨by rw [HG.out]; rfl, HB.out⟩
        · have HG : Hid (E = 0) := by show _ = _; rw [HE.out, HF.out, if_pos (by simp; omega)]
          have ht' : (t == 0) = false := by simpa using ht
          go_wp2_with fail
          go_ret
          exact ⟨by rw [HG.out]; rfl, HB.out⟩

end Go.Proofs.Ytfodkackfahldaa.Lo
