import Derived.Test.YtfodkackfahldaaBtb
namespace Go.Proofs.Ytfodkackfahldaa.Lo
open Go.RowKit
set_option linter.unusedVariables false
set_option linter.unusedSimpArgs false

def okP (b : Nat → Bool) (s : Nat → Int) (xs : List Int) (most : Int) (q p : Nat) : Bool := decide (p = q) || (!(b (33 + p * 16 + q) == decide ((p : Int) ∈ xs)) && (!decide ((p : Int) ∈ xs) || decide (s (289 + p * 16 + q) ≤ most)))
def okQ (b : Nat → Bool) (s : Nat → Int) (N : Nat) (xs : List Int) (most : Int) (q : Nat) : Bool := b (1 + q) && !b (17 + q) && (List.range N).all (okP b s xs most q)
def dP (s : Nat → Int) (xs : List Int) (q : Nat) (d : Int) : Nat → Int
  | 0 => d
  | p + 1 => if p ≠ q ∧ (p : Int) ∈ xs then max (dP s xs q d p) (s (289 + p * 16 + q)) else dP s xs q d p
def dL (s : Nat → Int) (N : Nat) (xs : List Int) : Nat → Int
  | 0 => 1
  | i + 1 => dP s xs (xs.getD i 0).toNat (dL s N xs i) N
def alR (b : Nat → Bool) (s : Nat → Int) (N : Nat) (xs : List Int) (most : Int) : Bool × Int := if xs.all (fun x => okQ b s N xs most x.toNat) then (true, dL s N xs xs.length) else (false, 0)
theorem all_range {f : Nat → Bool} {j N : Nat} (hj : j < N) (h : f j = false) : (List.range N).all f = false := by
  rw [List.all_eq_false]
  exact ⟨j, List.mem_range.2 hj, by rw [h]; simp⟩
theorem all_list {f : Int → Bool} {xs : List Int} {i : Nat} (hi : i < xs.length) (h : f (xs.getD i 0) = false) : xs.all f = false := by
  rw [List.all_eq_false]
  refine ⟨xs.getD i 0, ?_, by rw [h]; simp⟩
  rw [List.getD_eq_getElem?_getD, List.getElem?_eq_getElem hi]
  exact List.getElem_mem _
set_option maxRecDepth 100000 in
set_option maxHeartbeats 2000000 in
theorem ralone_any (b : Nat → Bool) (s : Nat → Int) (N : Nat) (ao : Option Addr) (n c : Nat) (xs : List Int) (most : Int) (w : World) (hN : s 0 = (N : Int)) (n2 : N ≤ 16) (hr : Ri w ao n c xs) (hn : n ≤ 140737488355328) (hx : ∀ x ∈ xs, 0 ≤ x ∧ x < N) : Calls Try.prog 54 #[.agg (rvl b s).toArray, .slice ao n c, .int .i64 most] w fun e w' => e = .returned (.tuple #[.bool (alR b s N xs most).1, .int .i64 (alR b s N xs most).2]) ∧ Below w.heap.size w w' := by
  have HB : Hid (Below w.heap.size w (w.alloc (.cells (rvl b s).toArray 87))) := bsp _ _ _
  have hS := Sb.new w b s
  generalize hW : w.alloc (.cells (rvl b s).toArray 87) = W at *
  have hl : xs.length = n := hr.1
  have hRW := hr.below HB.out
  have HS : Hid (Sb W w.heap.size b s) := hS
  have HRi : Hid (Ri W ao n c xs) := hRW
  have HX : Hid (∀ x ∈ xs, 0 ≤ x ∧ x < N) := hx
  have c0 := hS.no
  rw [hN] at c0
  obtain ⟨⟨rk, rd⟩, hq⟩ : ∃ q, alR b s N xs most = q := ⟨_, rfl⟩
  rw [hq]
  have HQ : Hid (alR b s N xs most = (rk, rd)) := hq
  have HF : Hid (∀ q : Nat, (∃ i, i < n ∧ xs.getD i 0 = (q : Int)) → okQ b s N xs most q = false → rk = false ∧ rd = 0) := (show ∀ q : Nat, _ from fun q ⟨i, hi, e⟩ h => by
    have h1 := HQ.out
    unfold alR at h1
    rw [if_neg (by rw [all_list (i := i) (by omega) (by rw [e]; exact h)]; simp)] at h1
    cases h1
    exact ⟨rfl, rfl⟩)
  have HI : Hid (∀ p : Nat, Calls Try.prog 60 #[.slice ao n c, .int .i64 (p : Int)] W fun r w' => r = .returned (.bool (decide ((p : Int) ∈ xs))) ∧ W = w') := (show ∀ p : Nat, _ from fun p => rin_any ao n c xs p W hRW hn)
  clear hq hS hRW hr hx
  go_enter Try.func54, Try.ntmps54
  go_wp2_with fail
  go_loopw [8, 9] (fun y x wr => ∃ (i : Nat), i ≤ n ∧ x = .int .i64 i ∧ y = .int .i64 (dL s N xs i) ∧ Hid (∀ k, k < i → okQ b s N xs most (xs.getD k 0).toNat = true) ∧ W = wr) (fun _ x _ => n - (intOf x).toNat)
  case atStart => exact ⟨0, Nat.zero_le _, rfl, rfl, (show ∀ k, _ from fun k hk => by omega), rfl⟩
  case round =>
    obtain ⟨i, hi, rfl, rfl, hok, rfl⟩ := hrel
    by_cases hin : i < n
    · have i1 : (0 : Int) ≤ (i : Int) := Int.natCast_nonneg _
      have i3 : (i : Int) < (n : Int) := by omega
      rcases HRi.out.2.2 with h0 | ⟨lb, lo, rfl, hlc⟩
      · omega
      have e1 := hlc i hin
      have hm := HX.out (xs.getD i 0) (by rw [List.getD_eq_getElem?_getD, List.getElem?_eq_getElem (by omega)]; exact List.getElem_mem _)
      have HdL : Hid (dL s N xs (i + 1) = dP s xs (xs.getD i 0).toNat (dL s N xs i) N) := (show _ = _ from rfl)
      obtain ⟨q, hq⟩ : ∃ q : Nat, xs.getD i 0 = (q : Int) := ⟨(xs.getD i 0).toNat, by omega⟩
      have HFq : Hid (okQ b s N xs most q = false → rk = false ∧ rd = 0) := (show _ → _ from HF.out q ⟨i, hin, hq⟩)
      have HOk : Hid (okQ b s N xs most q = true → ∀ k, k < i + 1 → okQ b s N xs most (xs.getD k 0).toNat = true) := (show _ → _ from fun h k hk => by
        by_cases e : k = i
        · subst e; rw [hq]; exact h
        · exact hok.out k (by omega))
      rw [hq] at e1 hm HdL
      have q1 : (0 : Int) ≤ (q : Int) := hm.1
      have hq16 : q < 16 := by omega
      have q2 : (q : Int) < 16 := by omega
      have u1 := HS.out.bo (i := 1 + q) (by omega) (by omega)
      have u2 := HS.out.bo (i := 17 + q) (by omega) (by omega)
      have hqN : q < N := by omega
      rw [show ((q : Int).toNat) = q from rfl] at HdL
      generalize hd0 : dL s N xs i = d0 at *
      clear hlc hm hq hd0 hok
      cases hb1 : b (1 + q)
      · rw [hb1] at u1
        obtain ⟨rfl, rfl⟩ := HFq.out (by unfold okQ; rw [hb1]; rfl)
        clear HFq HOk HdL hb1
        go_wp2_with fail
        (try simp only [Exit.inBlock, Exit.then])
        refine bodyPost_ret (results_tmp2 rfl _ _ _) rfl ?_
        exact ⟨rfl, HB.out⟩
      · cases hb2 : b (17 + q)
        case true =>
          rw [hb1] at u1
          rw [hb2] at u2
          obtain ⟨rfl, rfl⟩ := HFq.out (by unfold okQ; rw [hb1, hb2]; rfl)
          clear HFq HOk HdL hb1 hb2
          go_wp2_with fail
          (try simp only [Exit.inBlock, Exit.then])
          refine bodyPost_ret (results_tmp2 rfl _ _ _) rfl ?_
          exact ⟨rfl, HB.out⟩
        have HE : Hid ((List.range N).all (okP b s xs most q) = okQ b s N xs most q) := (show _ = _ from by unfold okQ; rw [hb1, hb2]; rfl)
        rw [hb1] at u1
        rw [hb2] at u2
        clear hb1 hb2
        go_wp2_with fail
        clear u1 u2 e1
        go_loopw [8, 11] (fun y x wr => ∃ (j : Nat), j ≤ N ∧ x = .int .i64 j ∧ y = .int .i64 (dP s xs q d0 j) ∧ Hid (∀ p, p < j → okP b s xs most q p = true) ∧ W = wr) (fun _ x _ => N - (intOf x).toNat)
        case atStart => exact ⟨0, Nat.zero_le _, rfl, rfl, (show ∀ p, _ from fun p hp => by omega), rfl⟩
        case round =>
          obtain ⟨j, hj, rfl, rfl, hop, rfl⟩ := hrel
          by_cases hjn : j < N
          · have j1 : (0 : Int) ≤ (j : Int) := Int.natCast_nonneg _
            have j2 : (j : Int) < 16 := by omega
            have j3 : (j : Int) < (N : Int) := by omega
            have v1 := HS.out.bo (i := 33 + j * 16 + q) (by omega) (by omega)
            have v2 := HS.out.io (i := 289 + j * 16 + q) (by omega) (by omega)
            have HIj : Hid (Calls Try.prog 60 #[.slice (some ⟨lb, lo, none⟩) n c, .int .i64 (j : Int)] W fun r w' => r = .returned (.bool (decide ((j : Int) ∈ xs))) ∧ W = w') := HI.out j
            have HdP : Hid (dP s xs q d0 (j + 1) = if j ≠ q ∧ (j : Int) ∈ xs then max (dP s xs q d0 j) (s (289 + j * 16 + q)) else dP s xs q d0 j) := (show _ = _ from rfl)
            have HFj : Hid (okP b s xs most q j = false → rk = false ∧ rd = 0) := (show _ → _ from fun h => HFq.out (by rw [← HE.out]; exact all_range hjn h))
            have HOj : Hid (okP b s xs most q j = true → ∀ p, p < j + 1 → okP b s xs most q p = true) := (show _ → _ from fun h p hp => by
              by_cases e : p = j
              · subst e; exact h
              · exact hop.out p (by omega))
            have HPj : Hid (okP b s xs most q j = (decide (j = q) || (!(b (33 + j * 16 + q) == decide ((j : Int) ∈ xs)) && (!decide ((j : Int) ∈ xs) || decide (s (289 + j * 16 + q) ≤ most))))) := (show _ = _ from rfl)
            generalize hdj : dP s xs q d0 j = dj at *
            clear hdj hop
            by_cases ejq : j = q
            · subst ejq
              have HN1 : Hid (∀ p, p < j + 1 → okP b s xs most j p = true) := (show ∀ p, _ from HOj.out (by rw [HPj.out]; simp))
              have HN2 : Hid (dP s xs j d0 (j + 1) = dj) := (show _ = _ from by rw [HdP.out, if_neg (by simp)])
              clear HOj HPj HdP HFj
              generalize decide ((j : Int) ∈ xs) = ins at *
              go_wp2_with (first | (go_at_call 60; refine HIj.out.mono ?_; rintro e w' ⟨rfl, rfl⟩) | fail)
              go_roundw
              case rel => exact ⟨j + 1, by omega, by go_num, by rw [HN2.out], HN1, (by trivial)⟩
              case measure => simp [intOf]; omega
            · have ej1 : ((j : Int) == (q : Int)) = false := by rw [beq_eq_false_iff_ne]; omega
              have ej2 : ((j : Int) != (q : Int)) = true := by simp; omega
              have hdq : decide (j = q) = false := decide_eq_false ejq
              have HdP2 : Hid (dP s xs q d0 (j + 1) = if decide ((j : Int) ∈ xs) = true then max dj (s (289 + j * 16 + q)) else dj) := (show _ = _ from by
                rw [HdP.out]
                by_cases hm : (j : Int) ∈ xs
                · rw [if_pos ⟨ejq, hm⟩, if_pos (decide_eq_true hm)]
                · rw [if_neg (fun h => hm h.2), if_neg (by rw [decide_eq_false hm]; simp)])
              rw [hdq] at HPj
              clear HdP hdq ejq
              generalize decide ((j : Int) ∈ xs) = ins at *
              generalize b (33 + j * 16 + q) = sh at *
              generalize hsl : s (289 + j * 16 + q) = sl at *
              clear hsl
              by_cases hsi : sh = ins
              · obtain ⟨rfl, rfl⟩ := HFj.out (by rw [HPj.out, hsi]; simp)
                subst hsi
                clear HFj HPj HOj HdP2
                go_wp2_with (first | (go_at_call 60; refine HIj.out.mono ?_; rintro e w' ⟨rfl, rfl⟩) | fail)
                (try simp only [Exit.inBlock, Exit.then])
                refine bodyPost_ret (results_tmp2 rfl _ _ _) rfl ?_
                exact ⟨rfl, HB.out⟩
              · have hsi1 : (sh == ins) = false := by rw [beq_eq_false_iff_ne]; exact hsi
                rw [hsi1] at HPj
                cases ins
                · obtain rfl : sh = true := by cases sh; exact absurd rfl hsi; rfl
                  have HN1 : Hid (∀ p, p < j + 1 → okP b s xs most q p = true) := (show ∀ p, _ from HOj.out (by rw [HPj.out]; simp))
                  have HN2 : Hid (dP s xs q d0 (j + 1) = dj) := (show _ = _ from by rw [HdP2.out, if_neg (by simp)])
                  clear HFj HPj HOj HdP2 hsi hsi1
                  go_wp2_with (first | (go_at_call 60; refine HIj.out.mono ?_; rintro e w' ⟨rfl, rfl⟩) | fail)
                  go_roundw
                  case rel => exact ⟨j + 1, by omega, by go_num, by rw [HN2.out], HN1, (by trivial)⟩
                  case measure => simp [intOf]; omega
                · obtain rfl : sh = false := by cases sh; rfl; exact absurd rfl hsi
                  by_cases hsm : sl ≤ most
                  · have HN1 : Hid (∀ p, p < j + 1 → okP b s xs most q p = true) := (show ∀ p, _ from HOj.out (by rw [HPj.out]; simp [hsm]))
                    have HN2 : Hid (dP s xs q d0 (j + 1) = max dj sl) := (show _ = _ from by rw [HdP2.out, if_pos rfl])
                    have g1 : ¬ most < sl := by omega
                    clear HFj HPj HOj HdP2 hsi hsi1 hsm
                    by_cases g2 : dj < sl
                    all_goals
                      go_wp2_with (first | (go_at_call 60; refine HIj.out.mono ?_; rintro e w' ⟨rfl, rfl⟩) | fail)
                      go_roundw
                      case rel => exact ⟨j + 1, by omega, by go_num, by rw [HN2.out], HN1, (by trivial)⟩
                      case measure => simp [intOf]; omega
                  · obtain ⟨rfl, rfl⟩ := HFj.out (by rw [HPj.out]; simp; omega)
                    have g1 : most < sl := by omega
                    clear HFj HPj HOj HdP2 hsi hsi1 hsm
                    go_wp2_with (first | (go_at_call 60; refine HIj.out.mono ?_; rintro e w' ⟨rfl, rfl⟩) | fail)
                    (try simp only [Exit.inBlock, Exit.then])
                    refine bodyPost_ret (results_tmp2 rfl _ _ _) rfl ?_
                    exact ⟨rfl, HB.out⟩
          · obtain rfl : N = j := by omega
            have HK : Hid (∀ k, k < i + 1 → okQ b s N xs most (xs.getD k 0).toNat = true) := (show ∀ k, _ from HOk.out (by
              rw [← HE.out, List.all_eq_true]
              intro p hp
              exact hop.out p (List.mem_range.1 hp)))
            rw [← HdL.out]
            clear hop HOk HFq HE
            go_wp2_with fail
            go_roundw
            case rel => exact ⟨i + 1, by omega, by go_num, rfl, HK, (by trivial)⟩
            case measure => simp [intOf]; omega
    · obtain rfl : n = i := by omega
      obtain ⟨rfl, rfl⟩ : rk = true ∧ rd = dL s N xs n := by
        have h1 := HQ.out
        unfold alR at h1
        rw [if_pos (by
          rw [List.all_eq_true]
          intro x hx
          obtain ⟨k, hk, rfl⟩ := List.mem_iff_getElem.1 hx
          have := hok.out k (by omega)
          rw [List.getD_eq_getElem?_getD, List.getElem?_eq_getElem hk] at this
          exact this), hl] at h1
        cases h1
        exact ⟨rfl, rfl⟩
      clear hok HF HQ
      go_wp2_with fail
      (try simp only [Exit.inBlock, Exit.then])
      refine bodyPost_ret (results_tmp2 rfl _ _ _) rfl ?_
      exact ⟨rfl, HB.out⟩
end Go.Proofs.Ytfodkackfahldaa.Lo
