import Derived.Test.YtbdefhagpgpoiaaAl
namespace Go.Proofs.Ytbdefhagpgpoiaa.Mb
open Go.RowKit
set_option linter.unusedVariables false
set_option maxRecDepth 100000
set_option linter.unusedSimpArgs false
section
variable {A A' : Ag} {w w' W : World} {B : Nat} {T : Int}
theorem begA_b (A : Ag) (s : List Int) : (A.begA s).b = A.b := by
  unfold Ag.begA
  split
  · rfl
  · split
    · exact revA_b A _
    · rfl
def Ag.folE (A : Ag) (q : Nat) : Int := if A.chg then A.revE A.own else if A.leaves q then A.begE A.own.set else 0
def Ag.folA (A : Ag) (q : Nat) : Ag := if A.chg then A.revA A.own else if A.leaves q then A.begA A.own.set else A
def Ag.folB (A : Ag) (q : Nat) : Bool := if A.chg then false else if A.leaves q then A.begE A.own.set == 0 else false
set_option maxHeartbeats 1000000 in
theorem follow_any (h : A.Ok w B T) (hT : 4611686018427387903 ≤ T) (q : Nat) (hq : q < 16) : Calls Try.prog 42 #[.pointer (some ⟨A.b, 0, none⟩), .int .i64 q] w fun e w' => e = .returned (.tuple #[.bool (A.folB q), .int .i64 (A.folE q)]) ∧ (A.folA q).Ok w' B T ∧ Kept w w' (fun j => j = A.b) := by
  have c0 := h.c670
  have HA : Hid (A.Ok w B T) := h
  have Lo : Hid A.own.L := h.ol
  have HRv : Hid (Calls Try.prog 56 #[.pointer (some ⟨A.b, 0, none⟩), .agg (ints A.own.fl).toArray] w fun e w' => e = .returned (.int .i64 (A.revE A.own)) ∧ (A.revA A.own).Ok w' B T ∧ Kept w w' (fun j => j = A.b)) := revise_any h A.own h.ol h.cid h.rev h.top
  have HLv : Hid (Calls Try.prog 57 #[.pointer (some ⟨A.b, 0, none⟩), .int .i64 q] w fun e w' => e = .returned (.bool (A.leaves q)) ∧ Below w.heap.size w w') := leaves_any h q hq
  have HE : Hid (A.folE q = if A.chg then A.revE A.own else if A.leaves q then A.begE A.own.set else 0) := rfl
  have HA' : Hid (A.folA q = if A.chg then A.revA A.own else if A.leaves q then A.begA A.own.set else A) := rfl
  have HBb : Hid (A.folB q = if A.chg then false else if A.leaves q then A.begE A.own.set == 0 else false) := rfl
  clear h
  cases hc : A.chg with
  | true =>
    rw [hc] at c0 HE HA' HBb
    go_enter Try.func42, Try.ntmps42
    go_wp2_with (first
      | (go_at_call 56; refine HRv.out.mono ?_; rintro e w2 ⟨rfl, hO, hK⟩)
      | (refine load_mid 102 (.tmp 15) HA.out.own_r _ Try.underlying102 rfl (by rw [ints_len, Lo.out.fl]; exact info_prop) rfl rfl rfl ?_)
      | fail)
    (try simp only [Exit.inBlock, Exit.then]); refine bodyPost_ret (results_tmp2 rfl _ _ _) rfl ?_
    exact ⟨by rw [HE.out, HBb.out]; rfl, by rw [HA'.out]; exact hO, hK⟩
  | false =>
    rw [hc] at c0 HE HA' HBb
    cases hl : A.leaves q with
    | false =>
      rw [hl] at HLv HE HA' HBb
      go_enter Try.func42, Try.ntmps42
      go_wp2_with (first | (go_at_call 57; refine HLv.out.mono ?_; rintro e w2 ⟨rfl, hb2⟩) | fail)
      (try simp only [Exit.inBlock, Exit.then]); refine bodyPost_ret (results_tmp2 rfl _ _ _) rfl ?_
      exact ⟨by rw [HE.out, HBb.out]; rfl, by rw [HA'.out]; exact HA.out.still hb2, Kept.ofBelow hb2 _⟩
    | true =>
      rw [hl] at HLv HE HA' HBb
      go_enter Try.func42, Try.ntmps42
      go_wp2_with (first
        | (go_at_call 44; refine (begin_any (HA.out.still HB2.out) hT A.own.set Lo.out.ls).mono ?_; rintro e w3 ⟨rfl, hO, hK⟩)
        | (go_at_call 57; refine HLv.out.mono ?_; rintro e w2 ⟨rfl, hb2⟩; have HB2 : Hid (Below w.heap.size w w2) := hb2; clear hb2)
        | (refine load_mid 100 (.tmp 26) (HA.out.still HB2.out).set_r _ Try.underlying100 rfl (by rw [ints_len, Lo.out.ls]; exact info_row) rfl rfl rfl ?_)
        | fail)
      (try simp only [Exit.inBlock, Exit.then]); refine bodyPost_ret (results_tmp2 rfl _ _ _) rfl ?_
      exact ⟨by rw [HE.out, HBb.out]; rfl, by rw [HA'.out]; exact hO, (Kept.ofBelow HB2.out _).trans hK⟩
end
end Go.Proofs.Ytbdefhagpgpoiaa.Mb
