import Derived.Test.YtcieinejjkddfabPn2
import Derived.Test.YtcieinejjkddfabPp
namespace Go.Proofs.Ytcieinejjkddfab.Qm
open Go.RowKit Mb
set_option linter.unusedVariables false
set_option maxRecDepth 100000
set_option linter.unusedSimpArgs false
section
variable {w w' : World} {B : Nat} {A : Wa} {R R' : Rq} {v : Vw} {s : Nat}
theorem viewP_ep {n : Nat} (h : viewP n v = some s) : 1 ≤ v.ep ∧ v.ms.length ≠ 0 := by
  unfold viewP at h
  cases hm : memP n 0 v.ms with
  | none => rw [hm] at h; cases h
  | some s2 =>
    rw [hm] at h
    simp only at h
    split at h
    · cases h
    · rename_i h0
      split at h
      · rename_i hc
        exact ⟨(of_decide_eq_true hc).1, h0⟩
      · cases h
theorem getD_v (l : List Ve) (i : Nat) : (l.getD i ve0).v = (l.map (·.v)).getD i ve0.v := by
  simp only [List.getD, List.getElem?_map]
  cases l[i]? <;> rfl
theorem es_len (hm : R'.es.map (·.v) = R.es.map (·.v) ++ [v]) : R'.es.length = R.es.length + 1 := by
  have := congrArg List.length hm
  simpa using this
theorem es_lt (hm : R'.es.map (·.v) = R.es.map (·.v) ++ [v]) {i : Nat} (hi : i < R.es.length) : (R'.es.getD i ve0).v = (R.es.getD i ve0).v := by
  rw [getD_v, getD_v, hm]
  simp [List.getD, List.getElem?_append_left, hi]
theorem es_last (hm : R'.es.map (·.v) = R.es.map (·.v) ++ [v]) : (R'.es.getD R.es.length ve0).v = v := by
  rw [getD_v, hm]
  simp [List.getD]
theorem qb_lt (hv : R'.v = R.v) (hm : R'.es.map (·.v) = R.es.map (·.v) ++ [v]) {i : Nat} (hi : i < R.es.length) : qb R' i = qb R i := by
  unfold qb
  rw [hv, es_lt hm hi]
theorem qb_last (hv : R'.v = R.v) (hm : R'.es.map (·.v) = R.es.map (·.v) ++ [v]) (hvp : viewP R.v.length v = some s) : qb R' R.es.length = wins R.v s := by
  unfold qb
  rw [hv, es_last hm, hvp]
  rfl
theorem laI_lt (hv : R'.v = R.v) (hm : R'.es.map (·.v) = R.es.map (·.v) ++ [v]) : ∀ k, k ≤ R.es.length → laI R' k = laI R k
  | 0, _ => rfl
  | k + 1, hk => by
      simp only [laI]
      rw [qb_lt hv hm (by omega), laI_lt hv hm k (by omega)]
      unfold idI
      rw [es_lt hm (by omega)]
theorem old_eq (hs : Sim A R) {e : Int} (he : 1 ≤ e) : oldE R e = decide (e ≤ A.ep) := by
  unfold oldE
  rw [hs.ep]
  by_cases h0 : R.es.length = 0
  · simp [h0]; omega
  · simp [h0, show 0 < R.es.length by omega]
theorem sim_yes (hs : Sim A R) (hv : R'.v = R.v) (hm : R'.es.map (·.v) = R.es.map (·.v) ++ [v]) (hvp : viewP R.v.length v = some s) (hold : oldE R v.ep = false) : Sim (A.enA v) R' := by
  have he := (viewP_ep hvp).1
  rw [old_eq hs he] at hold
  have hle : ¬ v.ep ≤ A.ep := of_decide_eq_false hold
  have hl := es_len hm
  have e1 : A.enA v = if wins A.v s then { A with ep := v.ep, inn := true, en := A.en + 1, qu := A.qu + 1, l0 := v.ep, l1 := v.ld, l2 := v.ic, l3 := v.cd } else { A with ep := v.ep, inn := false, en := A.en + 1 } := by
    unfold Wa.enA
    rw [hs.v, hvp]
    simp only [if_neg hle]
  have hq := qb_last hv hm hvp
  have hc : cnt (qb R') R'.es.length = cnt (qb R) R.es.length + if wins R.v s then 1 else 0 := by
    rw [hl]
    simp only [cnt]
    rw [hq, cnt_congr (P := qb R') (Q := qb R) R.es.length (fun i hi => qb_lt hv hm hi)]
  have hi : inB R' = wins R.v s := by
    unfold inB
    rw [hl, if_neg (by omega), Nat.add_sub_cancel, hq]
  have hla : laI R' R'.es.length = if wins R.v s then v.id else laI R R.es.length := by
    rw [hl]
    simp only [laI]
    rw [hq, laI_lt hv hm _ (Nat.le_refl _)]
    unfold idI
    rw [es_last hm]
  have hep : (if R'.es.length = 0 then (0 : Int) else (R'.es.getD (R'.es.length - 1) ve0).v.ep) = v.ep := by
    rw [hl, if_neg (by omega), Nat.add_sub_cancel, es_last hm]
  rw [e1, hs.v]
  cases hw : wins R.v s with
  | true =>
    rw [hw] at hc hi hla
    simp only [if_true] at hc hla ⊢
    exact ⟨by rw [hv], by rw [hl, hs.en], by rw [hc, hs.qu], hi.symm, hla.symm, hep.symm⟩
  | false =>
    rw [hw] at hc hi hla
    simp only [Bool.false_eq_true, if_false] at hc hla ⊢
    exact ⟨by rw [hv], by rw [hl, hs.en], by rw [hc, Nat.add_zero]; exact hs.qu, hi.symm, by rw [hla]; exact hs.la, hep.symm⟩
theorem en_yes (hs : Sim A R) (hvp : viewP R.v.length v = some s) (hold : oldE R v.ep = false) : A.enE v = 0 ∧ A.enB v = wins R.v s := by
  have he := (viewP_ep hvp).1
  rw [old_eq hs he] at hold
  have hle : ¬ v.ep ≤ A.ep := of_decide_eq_false hold
  unfold Wa.enE Wa.enB
  rw [hs.v, hvp]
  simp only [if_neg hle]
  exact ⟨trivial, trivial⟩
theorem en_no (hs : Sim A R) (hne : ¬ reE R v = 0) : A.enA v = A ∧ A.enE v = reE R v ∧ A.enB v = false := by
  unfold reE at hne ⊢
  unfold Wa.enA Wa.enE Wa.enB
  rw [hs.v]
  cases hvp : viewP R.v.length v with
  | none => exact ⟨rfl, rfl, rfl⟩
  | some t =>
    have he := (viewP_ep hvp).1
    have ho := old_eq hs he
    rw [hvp] at hne
    simp only [Option.isSome_some, if_true] at hne ⊢
    cases hO : oldE R v.ep with
    | false => rw [hO] at hne; simp at hne
    | true =>
      rw [hO] at ho
      have hle : v.ep ≤ A.ep := of_decide_eq_true ho.symm
      simp only [if_pos hle, if_true]
      exact ⟨trivial, trivial, trivial⟩
theorem re_cases : (∃ s, viewP R.v.length v = some s ∧ oldE R v.ep = false) ∨ ¬ reE R v = 0 := by
  unfold reE
  cases hvp : viewP R.v.length v with
  | none => right; simp
  | some t =>
    cases hO : oldE R v.ep with
    | false => left; exact ⟨t, rfl, rfl⟩
    | true => right; simp
theorem rent_any (h : R.Ok w B) (hBw : B ≤ w.heap.size) (hs : Sim A R) {a : Option Addr} {mn mc C : Nat} (ho : w.ownsRow C 115 3 (.slice a mn mc) mn (ints (fl3 v.ms))) (hm : mn ≤ 5864062014634) (hmax : R.es.length ≤ 2300000000000) (hnb : ∀ g, (Value.slice a mn mc).ownBlock = some g → g ≠ R.b ∧ ¬ some g = (Value.slice R.wo R.es.length R.wc).ownBlock) : Calls Try.prog 69 #[.pointer (some ⟨R.b, 0, none⟩), .agg #[.int .i64 v.ep, .int .i64 v.ld, .int .i64 v.ic, .int .i64 v.cd, .slice a mn mc]] w fun e w' => ∃ R' : Rq, e = .returned (.tuple #[.bool (A.enB v), .int .i64 (A.enE v)]) ∧ R'.Ok w' B ∧ R'.b = R.b ∧ Sim (A.enA v) R' ∧ R'.es.length ≤ R.es.length + 1 ∧ (∀ e ∈ R'.es, e ∈ R.es ∨ ∀ g, (Value.slice e.mo e.mn e.mc).ownBlock = some g → w.heap.size ≤ g) ∧ (∀ g, (Value.slice R'.wo R'.es.length R'.wc).ownBlock = some g → some g = (Value.slice R.wo R.es.length R.wc).ownBlock ∨ w.heap.size ≤ g) ∧ Kept w w' (fun j => j = R.b ∨ some j = (Value.slice R.wo R.es.length R.wc).ownBlock) := by
  rcases re_cases (R := R) (v := v) with ⟨s, hvp, hold⟩ | hne
  · have hl := (own3_rd ho).len
    have h0 := (viewP_ep hvp).2
    cases a with
    | none =>
      have h1 := (own3_rd ho).nil rfl
      have h2 := (own3_rd ho).cap
      omega
    | some ad =>
      refine (renter_yes h hBw (own3_rd ho) hm hmax hvp hold (fun b off e => hnb b ?_)).mono ?_
      · cases e
        rfl
      · rintro e w1 ⟨R', rfl, hok, hb, hv, hmp, hf, hrw, hk⟩
        obtain ⟨e1, e2⟩ := en_yes hs hvp hold
        rw [e1, e2]
        exact ⟨R', rfl, hok, hb, sim_yes hs hv hmp hvp hold, by rw [es_len hmp]; omega, hf, hrw, hk⟩
  · refine (renter_no h (own3_rd ho) hm hmax hne).mono ?_
    rintro e w1 ⟨rfl, hb1⟩
    obtain ⟨e1, e2, e3⟩ := en_no hs hne
    rw [e1, e2, e3]
    exact ⟨R, rfl, h.still hb1, rfl, hs, by omega, fun e he => .inl he, fun g hg => .inl hg.symm, Kept.ofBelow hb1 _⟩
theorem Wa.enA_b (A : Wa) (v : Vw) : (A.enA v).b = A.b := by
  unfold Wa.enA
  split
  · rfl
  · split
    · rfl
    · split <;> rfl
end
end Go.Proofs.Ytcieinejjkddfab.Qm
