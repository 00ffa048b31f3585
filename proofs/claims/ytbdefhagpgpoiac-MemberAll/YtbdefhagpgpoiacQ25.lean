import Derived.Test.YtbdefhagpgpoiacQ00
import Derived.Test.YtbdefhagpgpoiacQ24
namespace Go.Proofs.Ytbdefhagpgpoiac.Mb
open Go.RowKit
set_option linter.unusedVariables false
set_option maxRecDepth 100000
set_option linter.unusedSimpArgs false
section
variable {A A' : Ag} {w w' W : World} {B : Nat} {T : Int}
def Ag.apart (A : Ag) (q : Nat) : Bool := decide (q ≠ A.self) && !(decide ((A.lat q).vec = A.own.vec))
def Ag.tog (A : Ag) (q : Nat) : Bool := decide (q = A.self) || (!(decide (A.own.prev = [0, 0, 0, 0])) && decide ((A.lat q).prev = A.own.prev))
def Ag.all1 (A : Ag) (q : Nat) : Bool := true
set_option maxHeartbeats 2000000 in
theorem apart_any (h : A.Ok w B T) (ka : Nat) (c0 : w.cell? ⟨ka, 0, none⟩ = some (.pointer (some ⟨A.b, 0, none⟩))) (q : Nat) (hq : q < 16) : Calls Try.prog 60 #[.int .i64 q, .pointer (some ⟨ka, 0, none⟩)] w fun e w' => e = .returned (.bool (A.apart q)) ∧ Below w.heap.size w w' := by
  have c1 := h.c1
  have r1 := h.lvec_r q hq
  have r2 := h.vec_r
  have l1 := (h.ll q).lv
  have l2 := h.ol.lv
  clear h
  unfold Ag.apart
  by_cases hs : q = A.self
  · rw [decide_eq_false (fun hn => hn hs), Bool.false_and]
    go_enter Try.func60, Try.ntmps60
    go_wp2
    refine wp_region_held_drew (S := (fun w' => w'.cell? ⟨ka, 0, none⟩ = some (.pointer (some ⟨A.b, 0, none⟩)) ∧ w'.cell? ⟨A.b, 1, none⟩ = some (.int .i64 A.self) ∧ w'.rangeAt A.b (41 + q * 39 + 23) (ints (A.lat q).vec) ∧ w'.rangeAt A.b 25 (ints A.own.vec))) (by kernel_rfl) ⟨below_at (Below.refl _ _).drew c0, below_at (Below.refl _ _).drew c1, (World.rangeAt_drew _ _ _ _).2 r1, (World.rangeAt_drew _ _ _ _).2 r2⟩ (fun hHeld => ?_)
    simp only [Act.put, List.size_toArray, List.length_cons, List.length_nil, Nat.zero_add]
    refine tkI 0 (.int .i64 (q : Int)) rfl hHeld ?_
    simp only [Act.put, gA, gB, gC, gD, gE, gF]
    refine tkL 1 (.pointer (some ⟨A.b, 0, none⟩)) rfl (fun w' hS => by (obtain ⟨s0, s1, s2, s3⟩ := hS; go_simp)) hHeld ?_
    simp only [Act.put, gA, gB, gC, gD, gE, gF]
    refine tkI 2 (.pointer (some ⟨A.b, 0, none⟩)) rfl hHeld ?_
    simp only [Act.put, gA, gB, gC, gD, gE, gF]
    refine tkI 3 (.pointer (some ⟨A.b, 1, none⟩)) rfl hHeld ?_
    simp only [Act.put, gA, gB, gC, gD, gE, gF]
    refine tkL 4 (.int .i64 A.self) rfl (fun w' hS => by (obtain ⟨s0, s1, s2, s3⟩ := hS; go_simp)) hHeld ?_
    simp only [Act.put, gA, gB, gC, gD, gE, gF]
    refine tkL 5 (.bool false) rfl (fun w' hS => by (go_simp <;> first | omega | simp_all)) hHeld ?_
    simp only [Act.put, gA, gB, gC, gD, gE, gF]
    refine tkI 6 (.bool false) rfl hHeld ?_
    simp only [Act.put, gA, gB, gC, gD, gE, gF]
    refine tkO 7 rfl hHeld ?_
    simp only [Act.put, gA, gB, gC, gD, gE, gF]
    refine tkO 8 rfl hHeld ?_
    simp only [Act.put, gA, gB, gC, gD, gE, gF]
    refine tkO 9 rfl hHeld ?_
    simp only [Act.put, gA, gB, gC, gD, gE, gF]
    refine tkO 10 rfl hHeld ?_
    simp only [Act.put, gA, gB, gC, gD, gE, gF]
    refine tkO 11 rfl hHeld ?_
    simp only [Act.put, gA, gB, gC, gD, gE, gF]
    refine tkO 12 rfl hHeld ?_
    simp only [Act.put, gA, gB, gC, gD, gE, gF]
    refine tkO 13 rfl hHeld ?_
    simp only [Act.put, gA, gB, gC, gD, gE, gF]
    refine tkO 14 rfl hHeld ?_
    simp only [Act.put, gA, gB, gC, gD, gE, gF]
    refine tkO 15 rfl hHeld ?_
    simp only [Act.put, gA, gB, gC, gD, gE, gF]
    refine tkO 16 rfl hHeld ?_
    simp only [Act.put, gA, gB, gC, gD, gE, gF]
    refine tkO 17 rfl hHeld ?_
    simp only [Act.put, gA, gB, gC, gD, gE, gF]
    refine tkO 18 rfl hHeld ?_
    simp only [Act.put, gA, gB, gC, gD, gE, gF]
    refine tkO 19 rfl hHeld ?_
    simp only [Act.put, gA, gB, gC, gD, gE, gF]
    refine tkI 20 (.bool false) rfl hHeld ?_
    simp only [Act.put, gA, gB, gC, gD, gE, gF]
    refine tkI 21 (.bool false) rfl hHeld ?_
    simp only [Act.put, gA, gB, gC, gD, gE, gF]
    refine wpAnyH_done (by kernel_rfl) ?_ _
    clear hHeld
    go_wp2
    go_ret
    exact ⟨rfl, (Below.refl _ _).drew⟩
  · rw [decide_eq_true hs, Bool.true_and]
    have hs' : ¬ ((q : Int) = (A.self : Int)) := by omega
    go_enter Try.func60, Try.ntmps60
    go_wp2
    refine wp_region_held_drew (S := (fun w' => w'.cell? ⟨ka, 0, none⟩ = some (.pointer (some ⟨A.b, 0, none⟩)) ∧ w'.cell? ⟨A.b, 1, none⟩ = some (.int .i64 A.self) ∧ w'.rangeAt A.b (41 + q * 39 + 23) (ints (A.lat q).vec) ∧ w'.rangeAt A.b 25 (ints A.own.vec))) (by kernel_rfl) ⟨below_at (Below.refl _ _).drew c0, below_at (Below.refl _ _).drew c1, (World.rangeAt_drew _ _ _ _).2 r1, (World.rangeAt_drew _ _ _ _).2 r2⟩ (fun hHeld => ?_)
    simp only [Act.put, List.size_toArray, List.length_cons, List.length_nil, Nat.zero_add]
    refine tkI 0 (.int .i64 (q : Int)) rfl hHeld ?_
    simp only [Act.put, gA, gB, gC, gD, gE, gF]
    refine tkL 1 (.pointer (some ⟨A.b, 0, none⟩)) rfl (fun w' hS => by (obtain ⟨s0, s1, s2, s3⟩ := hS; go_simp)) hHeld ?_
    simp only [Act.put, gA, gB, gC, gD, gE, gF]
    refine tkI 2 (.pointer (some ⟨A.b, 0, none⟩)) rfl hHeld ?_
    simp only [Act.put, gA, gB, gC, gD, gE, gF]
    refine tkI 3 (.pointer (some ⟨A.b, 1, none⟩)) rfl hHeld ?_
    simp only [Act.put, gA, gB, gC, gD, gE, gF]
    refine tkL 4 (.int .i64 A.self) rfl (fun w' hS => by (obtain ⟨s0, s1, s2, s3⟩ := hS; go_simp)) hHeld ?_
    simp only [Act.put, gA, gB, gC, gD, gE, gF]
    refine tkL 5 (.bool true) rfl (fun w' hS => by (go_simp <;> first | omega | simp_all)) hHeld ?_
    simp only [Act.put, gA, gB, gC, gD, gE, gF]
    refine tkI 6 (.bool true) rfl hHeld ?_
    simp only [Act.put, gA, gB, gC, gD, gE, gF]
    refine tkL 7 (.pointer (some ⟨A.b, 0, none⟩)) rfl (fun w' hS => by (obtain ⟨s0, s1, s2, s3⟩ := hS; go_simp)) hHeld ?_
    simp only [Act.put, gA, gB, gC, gD, gE, gF]
    refine tkI 8 (.int .i64 (q : Int)) rfl hHeld ?_
    simp only [Act.put, gA, gB, gC, gD, gE, gF]
    refine tkI 9 (.pointer (some ⟨A.b, 0, none⟩)) rfl hHeld ?_
    simp only [Act.put, gA, gB, gC, gD, gE, gF]
    refine tkI 10 (.pointer (some ⟨A.b, 41, none⟩)) rfl hHeld ?_
    simp only [Act.put, gA, gB, gC, gD, gE, gF]
    refine tkL 11 (.pointer (some ⟨A.b, 41 + q * 39, none⟩)) rfl (fun w' hS => by (go_simp <;> (intro hh; omega))) hHeld ?_
    simp only [Act.put, gA, gB, gC, gD, gE, gF]
    refine tkI 12 (.pointer (some ⟨A.b, 41 + q * 39 + 23, none⟩)) rfl hHeld ?_
    simp only [Act.put, gA, gB, gC, gD, gE, gF]
    refine wpAnyH_take (i := 13) (v := .agg (ints (A.lat q).vec).toArray) rfl (by kernel_rfl) (by kernel_rfl) (by kernel_rfl) (fun _ _ _ h => h) (yieldsIf_load_mid (by rfl) 45 (.tmp 16) rfl A.b (41 + q * 39 + 23) (by rfl) (ints (A.lat q).vec) _ (fun w' hS => hS.2.2.1) Try.underlying45 rfl (by rw [ints_len, l1]; exact info_row)) hHeld ?_
    simp only [Act.put, gA, gB, gC, gD, gE, gF]
    refine tkL 14 (.pointer (some ⟨A.b, 0, none⟩)) rfl (fun w' hS => by (obtain ⟨s0, s1, s2, s3⟩ := hS; go_simp)) hHeld ?_
    simp only [Act.put, gA, gB, gC, gD, gE, gF]
    refine tkI 15 (.pointer (some ⟨A.b, 0, none⟩)) rfl hHeld ?_
    simp only [Act.put, gA, gB, gC, gD, gE, gF]
    refine tkI 16 (.pointer (some ⟨A.b, 2, none⟩)) rfl hHeld ?_
    simp only [Act.put, gA, gB, gC, gD, gE, gF]
    refine tkI 17 (.pointer (some ⟨A.b, 25, none⟩)) rfl hHeld ?_
    simp only [Act.put, gA, gB, gC, gD, gE, gF]
    refine wpAnyH_take (i := 18) (v := .agg (ints A.own.vec).toArray) rfl (by kernel_rfl) (by kernel_rfl) (by kernel_rfl) (fun _ _ _ h => h) (yieldsIf_load_mid (by rfl) 45 (.tmp 21) rfl A.b (25) (by rfl) (ints A.own.vec) _ (fun w' hS => hS.2.2.2) Try.underlying45 rfl (by rw [ints_len, l2]; exact info_row)) hHeld ?_
    simp only [Act.put, gA, gB, gC, gD, gE, gF]
    refine tkL 19 (.bool (!(decide ((A.lat q).vec = A.own.vec)))) rfl (fun w' hS => run_neqop 45 (.tmp 17) (.tmp 22) 45 rfl _ _ (by rfl) (by rfl) (by kernel_rfl) _ (eq_row_ _ _ l1 l2)) hHeld ?_
    simp only [Act.put, gA, gB, gC, gD, gE, gF]
    refine tkI 20 (.bool (!(decide ((A.lat q).vec = A.own.vec)))) rfl hHeld ?_
    simp only [Act.put, gA, gB, gC, gD, gE, gF]
    refine tkI 21 (.bool (!(decide ((A.lat q).vec = A.own.vec)))) rfl hHeld ?_
    simp only [Act.put, gA, gB, gC, gD, gE, gF]
    refine wpAnyH_done (by kernel_rfl) ?_ _
    clear hHeld
    go_wp2
    go_ret
    exact ⟨rfl, (Below.refl _ _).drew⟩
theorem all1_any (q : Nat) : Calls Try.prog 62 #[.int .i64 q] w fun e w' => e = .returned (.bool (A.all1 q)) ∧ Below w.heap.size w w' := by
  go_enter Try.func62, Try.ntmps62
  go_wp2
  go_ret
  exact ⟨rfl, Below.refl _ _⟩
set_option maxHeartbeats 2000000 in
theorem tog_any (h : A.Ok w B T) (ka : Nat) (c0 : w.cell? ⟨ka, 0, none⟩ = some (.pointer (some ⟨A.b, 0, none⟩))) (q : Nat) (hq : q < 16) : Calls Try.prog 63 #[.int .i64 q, .pointer (some ⟨ka, 0, none⟩)] w fun e w' => e = .returned (.bool (A.tog q)) ∧ Below w.heap.size w w' := by
  have c1 := h.c1
  have r1 := h.prev_r
  have r2 := h.lprev_r q hq
  have l1 := h.ol.lp
  have l2 := (h.ll q).lp
  clear h
  unfold Ag.tog
  by_cases hs : q = A.self
  · rw [decide_eq_true hs, Bool.true_or]
    go_enter Try.func63, Try.ntmps63
    go_wp2
    refine wp_region_held_drew (S := (fun w' => w'.cell? ⟨ka, 0, none⟩ = some (.pointer (some ⟨A.b, 0, none⟩)) ∧ w'.cell? ⟨A.b, 1, none⟩ = some (.int .i64 A.self) ∧ w'.rangeAt A.b 21 (ints A.own.prev) ∧ w'.rangeAt A.b (41 + q * 39 + 19) (ints (A.lat q).prev))) (by kernel_rfl) ⟨below_at (Below.refl _ _).drew c0, below_at (Below.refl _ _).drew c1, (World.rangeAt_drew _ _ _ _).2 r1, (World.rangeAt_drew _ _ _ _).2 r2⟩ (fun hHeld => ?_)
    simp only [Act.put, List.size_toArray, List.length_cons, List.length_nil, Nat.zero_add]
    refine tkI 0 (.int .i64 (q : Int)) rfl hHeld ?_
    simp only [Act.put, gA, gB, gC, gD, gE, gF]
    refine tkL 1 (.pointer (some ⟨A.b, 0, none⟩)) rfl (fun w' hS => by (obtain ⟨s0, s1, s2, s3⟩ := hS; go_simp)) hHeld ?_
    simp only [Act.put, gA, gB, gC, gD, gE, gF]
    refine tkI 2 (.pointer (some ⟨A.b, 0, none⟩)) rfl hHeld ?_
    simp only [Act.put, gA, gB, gC, gD, gE, gF]
    refine tkI 3 (.pointer (some ⟨A.b, 1, none⟩)) rfl hHeld ?_
    simp only [Act.put, gA, gB, gC, gD, gE, gF]
    refine tkL 4 (.int .i64 A.self) rfl (fun w' hS => by (obtain ⟨s0, s1, s2, s3⟩ := hS; go_simp)) hHeld ?_
    simp only [Act.put, gA, gB, gC, gD, gE, gF]
    refine tkL 5 (.bool true) rfl (fun w' hS => by (go_simp <;> first | omega | simp_all)) hHeld ?_
    simp only [Act.put, gA, gB, gC, gD, gE, gF]
    refine tkI 6 (.bool true) rfl hHeld ?_
    simp only [Act.put, gA, gB, gC, gD, gE, gF]
    refine tkO 7 rfl hHeld ?_
    simp only [Act.put, gA, gB, gC, gD, gE, gF]
    refine tkO 8 rfl hHeld ?_
    simp only [Act.put, gA, gB, gC, gD, gE, gF]
    refine tkO 9 rfl hHeld ?_
    simp only [Act.put, gA, gB, gC, gD, gE, gF]
    refine tkO 10 rfl hHeld ?_
    simp only [Act.put, gA, gB, gC, gD, gE, gF]
    refine tkO 11 rfl hHeld ?_
    simp only [Act.put, gA, gB, gC, gD, gE, gF]
    refine tkO 12 rfl hHeld ?_
    simp only [Act.put, gA, gB, gC, gD, gE, gF]
    refine tkO 13 rfl hHeld ?_
    simp only [Act.put, gA, gB, gC, gD, gE, gF]
    refine tkO 14 rfl hHeld ?_
    simp only [Act.put, gA, gB, gC, gD, gE, gF]
    refine tkO 15 rfl hHeld ?_
    simp only [Act.put, gA, gB, gC, gD, gE, gF]
    refine tkO 16 rfl hHeld ?_
    simp only [Act.put, gA, gB, gC, gD, gE, gF]
    refine tkO 17 rfl hHeld ?_
    simp only [Act.put, gA, gB, gC, gD, gE, gF]
    refine tkO 18 rfl hHeld ?_
    simp only [Act.put, gA, gB, gC, gD, gE, gF]
    refine tkO 19 rfl hHeld ?_
    simp only [Act.put, gA, gB, gC, gD, gE, gF]
    refine tkO 20 rfl hHeld ?_
    simp only [Act.put, gA, gB, gC, gD, gE, gF]
    refine tkO 21 rfl hHeld ?_
    simp only [Act.put, gA, gB, gC, gD, gE, gF]
    refine tkO 22 rfl hHeld ?_
    simp only [Act.put, gA, gB, gC, gD, gE, gF]
    refine tkO 23 rfl hHeld ?_
    simp only [Act.put, gA, gB, gC, gD, gE, gF]
    refine tkO 24 rfl hHeld ?_
    simp only [Act.put, gA, gB, gC, gD, gE, gF]
    refine tkO 25 rfl hHeld ?_
    simp only [Act.put, gA, gB, gC, gD, gE, gF]
    refine tkO 26 rfl hHeld ?_
    simp only [Act.put, gA, gB, gC, gD, gE, gF]
    refine tkO 27 rfl hHeld ?_
    simp only [Act.put, gA, gB, gC, gD, gE, gF]
    refine tkO 28 rfl hHeld ?_
    simp only [Act.put, gA, gB, gC, gD, gE, gF]
    refine tkI 29 (.bool true) rfl hHeld ?_
    simp only [Act.put, gA, gB, gC, gD, gE, gF]
    refine tkI 30 (.bool true) rfl hHeld ?_
    simp only [Act.put, gA, gB, gC, gD, gE, gF]
    refine wpAnyH_done (by kernel_rfl) ?_ _
    clear hHeld
    go_wp2
    go_ret
    exact ⟨rfl, (Below.refl _ _).drew⟩
  · rw [decide_eq_false hs, Bool.false_or]
    have hs' : ¬ ((q : Int) = (A.self : Int)) := by omega
    by_cases hp : A.own.prev = [0, 0, 0, 0]
    · have hz : (!(decide (A.own.prev = [0, 0, 0, 0]))) = false := by rw [decide_eq_true hp]; rfl
      rw [hz, Bool.false_and]
      clear hp
      go_enter Try.func63, Try.ntmps63
      go_wp2
      refine wp_region_held_drew (S := (fun w' => w'.cell? ⟨ka, 0, none⟩ = some (.pointer (some ⟨A.b, 0, none⟩)) ∧ w'.cell? ⟨A.b, 1, none⟩ = some (.int .i64 A.self) ∧ w'.rangeAt A.b 21 (ints A.own.prev) ∧ w'.rangeAt A.b (41 + q * 39 + 19) (ints (A.lat q).prev))) (by kernel_rfl) ⟨below_at (Below.refl _ _).drew c0, below_at (Below.refl _ _).drew c1, (World.rangeAt_drew _ _ _ _).2 r1, (World.rangeAt_drew _ _ _ _).2 r2⟩ (fun hHeld => ?_)
      simp only [Act.put, List.size_toArray, List.length_cons, List.length_nil, Nat.zero_add]
      refine tkI 0 (.int .i64 (q : Int)) rfl hHeld ?_
      simp only [Act.put, gA, gB, gC, gD, gE, gF]
      refine tkL 1 (.pointer (some ⟨A.b, 0, none⟩)) rfl (fun w' hS => by (obtain ⟨s0, s1, s2, s3⟩ := hS; go_simp)) hHeld ?_
      simp only [Act.put, gA, gB, gC, gD, gE, gF]
      refine tkI 2 (.pointer (some ⟨A.b, 0, none⟩)) rfl hHeld ?_
      simp only [Act.put, gA, gB, gC, gD, gE, gF]
      refine tkI 3 (.pointer (some ⟨A.b, 1, none⟩)) rfl hHeld ?_
      simp only [Act.put, gA, gB, gC, gD, gE, gF]
      refine tkL 4 (.int .i64 A.self) rfl (fun w' hS => by (obtain ⟨s0, s1, s2, s3⟩ := hS; go_simp)) hHeld ?_
      simp only [Act.put, gA, gB, gC, gD, gE, gF]
      refine tkL 5 (.bool false) rfl (fun w' hS => by (go_simp <;> first | omega | simp_all)) hHeld ?_
      simp only [Act.put, gA, gB, gC, gD, gE, gF]
      refine tkI 6 (.bool false) rfl hHeld ?_
      simp only [Act.put, gA, gB, gC, gD, gE, gF]
      refine tkL 7 (.pointer (some ⟨A.b, 0, none⟩)) rfl (fun w' hS => by (obtain ⟨s0, s1, s2, s3⟩ := hS; go_simp)) hHeld ?_
      simp only [Act.put, gA, gB, gC, gD, gE, gF]
      refine tkI 8 (.pointer (some ⟨A.b, 0, none⟩)) rfl hHeld ?_
      simp only [Act.put, gA, gB, gC, gD, gE, gF]
      refine tkI 9 (.pointer (some ⟨A.b, 2, none⟩)) rfl hHeld ?_
      simp only [Act.put, gA, gB, gC, gD, gE, gF]
      refine tkI 10 (.pointer (some ⟨A.b, 21, none⟩)) rfl hHeld ?_
      simp only [Act.put, gA, gB, gC, gD, gE, gF]
      refine wpAnyH_take (i := 11) (v := .agg (ints A.own.prev).toArray) rfl (by kernel_rfl) (by kernel_rfl) (by kernel_rfl) (fun _ _ _ h => h) (yieldsIf_load_mid (by rfl) 38 (.tmp 14) rfl A.b (21) (by rfl) (ints A.own.prev) _ (fun w' hS => hS.2.2.1) Try.underlying38 rfl (by rw [ints_len, l1]; exact info_id)) hHeld ?_
      simp only [Act.put, gA, gB, gC, gD, gE, gF]
      refine tkL 12 (.agg (ints [0, 0, 0, 0]).toArray) rfl (fun w' hS => by exact run_buildop 38 _ rfl _ (by kernel_rfl)) hHeld ?_
      simp only [Act.put, gA, gB, gC, gD, gE, gF]
      refine tkL 13 (.bool false) rfl (fun w' hS => (run_neqop 38 (.tmp 15) (.tmp 16) 38 rfl (ints A.own.prev).toArray (ints [0, 0, 0, 0]).toArray (by rfl) (by rfl) (by kernel_rfl) _ (eq_id_ _ _ l1 rfl)).trans (by rw [hz])) hHeld ?_
      simp only [Act.put, gA, gB, gC, gD, gE, gF]
      refine tkI 14 (.bool false) rfl hHeld ?_
      simp only [Act.put, gA, gB, gC, gD, gE, gF]
      refine tkO 15 rfl hHeld ?_
      simp only [Act.put, gA, gB, gC, gD, gE, gF]
      refine tkO 16 rfl hHeld ?_
      simp only [Act.put, gA, gB, gC, gD, gE, gF]
      refine tkO 17 rfl hHeld ?_
      simp only [Act.put, gA, gB, gC, gD, gE, gF]
      refine tkO 18 rfl hHeld ?_
      simp only [Act.put, gA, gB, gC, gD, gE, gF]
      refine tkO 19 rfl hHeld ?_
      simp only [Act.put, gA, gB, gC, gD, gE, gF]
      refine tkO 20 rfl hHeld ?_
      simp only [Act.put, gA, gB, gC, gD, gE, gF]
      refine tkO 21 rfl hHeld ?_
      simp only [Act.put, gA, gB, gC, gD, gE, gF]
      refine tkO 22 rfl hHeld ?_
      simp only [Act.put, gA, gB, gC, gD, gE, gF]
      refine tkO 23 rfl hHeld ?_
      simp only [Act.put, gA, gB, gC, gD, gE, gF]
      refine tkO 24 rfl hHeld ?_
      simp only [Act.put, gA, gB, gC, gD, gE, gF]
      refine tkO 25 rfl hHeld ?_
      simp only [Act.put, gA, gB, gC, gD, gE, gF]
      refine tkO 26 rfl hHeld ?_
      simp only [Act.put, gA, gB, gC, gD, gE, gF]
      refine tkO 27 rfl hHeld ?_
      simp only [Act.put, gA, gB, gC, gD, gE, gF]
      refine tkI 28 (.bool false) rfl hHeld ?_
      simp only [Act.put, gA, gB, gC, gD, gE, gF]
      refine tkI 29 (.bool false) rfl hHeld ?_
      simp only [Act.put, gA, gB, gC, gD, gE, gF]
      refine tkI 30 (.bool false) rfl hHeld ?_
      simp only [Act.put, gA, gB, gC, gD, gE, gF]
      refine wpAnyH_done (by kernel_rfl) ?_ _
      clear hHeld
      go_wp2
      go_ret
      exact ⟨rfl, (Below.refl _ _).drew⟩
    · have hz : (!(decide (A.own.prev = [0, 0, 0, 0]))) = true := by rw [decide_eq_false hp]; rfl
      rw [hz, Bool.true_and]
      clear hp
      go_enter Try.func63, Try.ntmps63
      go_wp2
      refine wp_region_held_drew (S := (fun w' => w'.cell? ⟨ka, 0, none⟩ = some (.pointer (some ⟨A.b, 0, none⟩)) ∧ w'.cell? ⟨A.b, 1, none⟩ = some (.int .i64 A.self) ∧ w'.rangeAt A.b 21 (ints A.own.prev) ∧ w'.rangeAt A.b (41 + q * 39 + 19) (ints (A.lat q).prev))) (by kernel_rfl) ⟨below_at (Below.refl _ _).drew c0, below_at (Below.refl _ _).drew c1, (World.rangeAt_drew _ _ _ _).2 r1, (World.rangeAt_drew _ _ _ _).2 r2⟩ (fun hHeld => ?_)
      simp only [Act.put, List.size_toArray, List.length_cons, List.length_nil, Nat.zero_add]
      refine tkI 0 (.int .i64 (q : Int)) rfl hHeld ?_
      simp only [Act.put, gA, gB, gC, gD, gE, gF]
      refine tkL 1 (.pointer (some ⟨A.b, 0, none⟩)) rfl (fun w' hS => by (obtain ⟨s0, s1, s2, s3⟩ := hS; go_simp)) hHeld ?_
      simp only [Act.put, gA, gB, gC, gD, gE, gF]
      refine tkI 2 (.pointer (some ⟨A.b, 0, none⟩)) rfl hHeld ?_
      simp only [Act.put, gA, gB, gC, gD, gE, gF]
      refine tkI 3 (.pointer (some ⟨A.b, 1, none⟩)) rfl hHeld ?_
      simp only [Act.put, gA, gB, gC, gD, gE, gF]
      refine tkL 4 (.int .i64 A.self) rfl (fun w' hS => by (obtain ⟨s0, s1, s2, s3⟩ := hS; go_simp)) hHeld ?_
      simp only [Act.put, gA, gB, gC, gD, gE, gF]
      refine tkL 5 (.bool false) rfl (fun w' hS => by (go_simp <;> first | omega | simp_all)) hHeld ?_
      simp only [Act.put, gA, gB, gC, gD, gE, gF]
      refine tkI 6 (.bool false) rfl hHeld ?_
      simp only [Act.put, gA, gB, gC, gD, gE, gF]
      refine tkL 7 (.pointer (some ⟨A.b, 0, none⟩)) rfl (fun w' hS => by (obtain ⟨s0, s1, s2, s3⟩ := hS; go_simp)) hHeld ?_
      simp only [Act.put, gA, gB, gC, gD, gE, gF]
      refine tkI 8 (.pointer (some ⟨A.b, 0, none⟩)) rfl hHeld ?_
      simp only [Act.put, gA, gB, gC, gD, gE, gF]
      refine tkI 9 (.pointer (some ⟨A.b, 2, none⟩)) rfl hHeld ?_
      simp only [Act.put, gA, gB, gC, gD, gE, gF]
      refine tkI 10 (.pointer (some ⟨A.b, 21, none⟩)) rfl hHeld ?_
      simp only [Act.put, gA, gB, gC, gD, gE, gF]
      refine wpAnyH_take (i := 11) (v := .agg (ints A.own.prev).toArray) rfl (by kernel_rfl) (by kernel_rfl) (by kernel_rfl) (fun _ _ _ h => h) (yieldsIf_load_mid (by rfl) 38 (.tmp 14) rfl A.b (21) (by rfl) (ints A.own.prev) _ (fun w' hS => hS.2.2.1) Try.underlying38 rfl (by rw [ints_len, l1]; exact info_id)) hHeld ?_
      simp only [Act.put, gA, gB, gC, gD, gE, gF]
      refine tkL 12 (.agg (ints [0, 0, 0, 0]).toArray) rfl (fun w' hS => by exact run_buildop 38 _ rfl _ (by kernel_rfl)) hHeld ?_
      simp only [Act.put, gA, gB, gC, gD, gE, gF]
      refine tkL 13 (.bool true) rfl (fun w' hS => (run_neqop 38 (.tmp 15) (.tmp 16) 38 rfl (ints A.own.prev).toArray (ints [0, 0, 0, 0]).toArray (by rfl) (by rfl) (by kernel_rfl) _ (eq_id_ _ _ l1 rfl)).trans (by rw [hz])) hHeld ?_
      simp only [Act.put, gA, gB, gC, gD, gE, gF]
      refine tkI 14 (.bool true) rfl hHeld ?_
      simp only [Act.put, gA, gB, gC, gD, gE, gF]
      refine tkL 15 (.pointer (some ⟨A.b, 0, none⟩)) rfl (fun w' hS => by (obtain ⟨s0, s1, s2, s3⟩ := hS; go_simp)) hHeld ?_
      simp only [Act.put, gA, gB, gC, gD, gE, gF]
      refine tkI 16 (.int .i64 (q : Int)) rfl hHeld ?_
      simp only [Act.put, gA, gB, gC, gD, gE, gF]
      refine tkI 17 (.pointer (some ⟨A.b, 0, none⟩)) rfl hHeld ?_
      simp only [Act.put, gA, gB, gC, gD, gE, gF]
      refine tkI 18 (.pointer (some ⟨A.b, 41, none⟩)) rfl hHeld ?_
      simp only [Act.put, gA, gB, gC, gD, gE, gF]
      refine tkL 19 (.pointer (some ⟨A.b, 41 + q * 39, none⟩)) rfl (fun w' hS => by (go_simp <;> (intro hh; omega))) hHeld ?_
      simp only [Act.put, gA, gB, gC, gD, gE, gF]
      refine tkI 20 (.pointer (some ⟨A.b, 41 + q * 39 + 19, none⟩)) rfl hHeld ?_
      simp only [Act.put, gA, gB, gC, gD, gE, gF]
      refine wpAnyH_take (i := 21) (v := .agg (ints (A.lat q).prev).toArray) rfl (by kernel_rfl) (by kernel_rfl) (by kernel_rfl) (fun _ _ _ h => h) (yieldsIf_load_mid (by rfl) 38 (.tmp 24) rfl A.b (41 + q * 39 + 19) (by rfl) (ints (A.lat q).prev) _ (fun w' hS => hS.2.2.2) Try.underlying38 rfl (by rw [ints_len, l2]; exact info_id)) hHeld ?_
      simp only [Act.put, gA, gB, gC, gD, gE, gF]
      refine tkL 22 (.pointer (some ⟨A.b, 0, none⟩)) rfl (fun w' hS => by (obtain ⟨s0, s1, s2, s3⟩ := hS; go_simp)) hHeld ?_
      simp only [Act.put, gA, gB, gC, gD, gE, gF]
      refine tkI 23 (.pointer (some ⟨A.b, 0, none⟩)) rfl hHeld ?_
      simp only [Act.put, gA, gB, gC, gD, gE, gF]
      refine tkI 24 (.pointer (some ⟨A.b, 2, none⟩)) rfl hHeld ?_
      simp only [Act.put, gA, gB, gC, gD, gE, gF]
      refine tkI 25 (.pointer (some ⟨A.b, 21, none⟩)) rfl hHeld ?_
      simp only [Act.put, gA, gB, gC, gD, gE, gF]
      refine wpAnyH_take (i := 26) (v := .agg (ints A.own.prev).toArray) rfl (by kernel_rfl) (by kernel_rfl) (by kernel_rfl) (fun _ _ _ h => h) (yieldsIf_load_mid (by rfl) 38 (.tmp 29) rfl A.b (21) (by rfl) (ints A.own.prev) _ (fun w' hS => hS.2.2.1) Try.underlying38 rfl (by rw [ints_len, l1]; exact info_id)) hHeld ?_
      simp only [Act.put, gA, gB, gC, gD, gE, gF]
      refine tkL 27 (.bool (decide ((A.lat q).prev = A.own.prev))) rfl (fun w' hS => run_eqlop 38 (.tmp 25) (.tmp 30) 38 rfl _ _ (by rfl) (by rfl) (by kernel_rfl) _ (eq_id_ _ _ l2 l1)) hHeld ?_
      simp only [Act.put, gA, gB, gC, gD, gE, gF]
      refine tkI 28 (.bool (decide ((A.lat q).prev = A.own.prev))) rfl hHeld ?_
      simp only [Act.put, gA, gB, gC, gD, gE, gF]
      refine tkI 29 (.bool (decide ((A.lat q).prev = A.own.prev))) rfl hHeld ?_
      simp only [Act.put, gA, gB, gC, gD, gE, gF]
      refine tkI 30 (.bool (decide ((A.lat q).prev = A.own.prev))) rfl hHeld ?_
      simp only [Act.put, gA, gB, gC, gD, gE, gF]
      refine wpAnyH_done (by kernel_rfl) ?_ _
      clear hHeld
      go_wp2
      go_ret
      exact ⟨rfl, (Below.refl _ _).drew⟩
end
end Go.Proofs.Ytbdefhagpgpoiac.Mb
