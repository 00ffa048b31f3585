import Derived.Test.YtfbollifegngjaaVh
import Derived.Test.YtfbollifegngjaaVi
import Derived.Test.YtfbollifegngjaaVj
namespace Go.Proofs.Ytfbollifegngjaa.Dt
open Go.RowKit
set_option linter.unusedVariables false
set_option maxRecDepth 100000
set_option linter.unusedSimpArgs false
section
variable {D D' : De} {w w' W V : World} {B m : Nat}
def De.herr (D : De) (q inc t : Int) (xs : List Int) : Int :=
  if D.okArg q inc t xs = false then 1 else if inc < (D.pe q.toNat).known then 50 else if inc = (D.pe q.toNat).known ∧ t ≤ (D.pe q.toNat).last then 51 else 0
def De.blame (D : De) (p : Pe) (inc : Int) : Pe := if inc = p.known ∧ p.heard = false ∧ D.left = false then ({ p with wrong := p.wrong + 1 } : Pe).grown D else p
def De.taken (D : De) (p : Pe) (inc t x : Int) : Pe := { (D.blame p inc).got inc t with heard := !D.left, both := decide (x = D.inc) }
def De.after (D : De) (q inc t : Int) (xs : List Int) : De := if D.herr q inc t xs = 0 then D.set q.toNat (D.taken (D.pe q.toNat) inc t (xs.getD D.self 0)) else D
theorem Dtep.up (s : Dtep w w' D D' B m) (hm : m + 1 ≤ 4611686018427387904) : Dtep w w' D D' B (m + 1) := ⟨s.ok.mono (Nat.le_succ m) hm, s.kept, s.own⟩
theorem Dtep.no (h : D.Ok w B m) (hb : Below w.heap.size w w') : Dtep w w' D D B m := (Dtep.of h).post hb
theorem heard_any (h : D.Ok w B m) (hm : m + 1 ≤ 4611686018427387904) (q inc t : Int) {ao : Option Addr} {n c : Nat} {xs : List Int} (hr : RdI w ao n xs) (hap : ∀ g, (∃ o, ao = some ⟨g, o, none⟩) → ¬ D.own g) : Calls Try.prog 11 #[.pointer (some ⟨D.b, 0, none⟩), .int .i64 q, .int .i64 inc, .agg #[.int .i64 t, .slice ao n c]] w fun e w' => e = .returned (.int .i64 (D.herr q inc t xs)) ∧ Dtep w w' D (D.after q inc t xs) B (m + 1) := by
  unfold De.after De.herr
  cases hok : D.okArg q inc t xs with
  | false =>
    simp only [if_true]
    exact (heard_arg h q inc t hr hok).mono fun e w' ⟨e1, e2⟩ => ⟨e1, by rw [if_neg (by omega)]; exact (Dtep.no h e2).up hm⟩
  | true =>
    simp only [Bool.true_eq_false, if_false]
    by_cases h1 : inc < (D.pe q.toNat).known
    · simp only [h1, if_true]
      exact (heard_old h q inc t hr hok h1).mono fun e w' ⟨e1, e2⟩ => ⟨e1, by rw [if_neg (by omega)]; exact (Dtep.no h e2).up hm⟩
    · simp only [h1, if_false]
      by_cases h2 : inc = (D.pe q.toNat).known ∧ t ≤ (D.pe q.toNat).last
      · rw [if_pos h2]
        exact (heard_stale h q inc t hr hok h2.1 h2.2).mono fun e w' ⟨e1, e2⟩ => ⟨e1, by rw [if_neg (by omega)]; exact (Dtep.no h e2).up hm⟩
      · rw [if_neg h2, if_pos rfl]
        unfold De.taken De.blame
        by_cases h3 : inc = (D.pe q.toNat).known
        · have h4 : (D.pe q.toNat).last < t := by omega
          cases hh : (D.pe q.toNat).heard with
          | true =>
            rw [if_neg (by simp)]
            exact (heard_ok3 h q inc t hr hok hap h3 h4 hh).mono fun e w' ⟨e1, e2⟩ => ⟨e1, e2.up hm⟩
          | false =>
            cases hl : D.left with
            | true =>
              rw [if_neg (by simp)]
              have := (heard_ok4 (c := c) h q inc t hr hok hap h3 h4 hh hl).mono fun e w' ⟨e1, e2⟩ => (⟨e1, e2.up hm⟩ : _ ∧ _)
              rw [hl] at this
              exact this
            | false =>
              rw [if_pos ⟨h3, rfl, rfl⟩]
              have := heard_ok1 (c := c) h q inc t hr hok hap h3 h4 hh hl hm
              rw [hl] at this
              exact this
        · rw [if_neg (fun e => h3 e.1)]
          exact (heard_ok2 h q inc t hr hok hap (by omega)).mono fun e w' ⟨e1, e2⟩ => ⟨e1, e2.up hm⟩
end
end Go.Proofs.Ytfbollifegngjaa.Dt
