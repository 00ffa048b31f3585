import Derived.Test.YthogcanfinjfdaaMe
import Derived.Laws.Tables
import Derived.Great.Ranges
namespace Go.Proofs.Ythogcanfinjfdaa.Et
open Go.RowKit Go.Maps
set_option linter.unusedVariables false
set_option linter.unusedSimpArgs false
set_option maxRecDepth 100000
section
variable {R R' : Rn} {w w' : World} {B : Nat}
set_option maxHeartbeats 400000 in
theorem rsplit_len (h : R.Ok w B) (ao : Option Addr) (n c : Nat) (hn : n ≠ R.nn) : Calls Try.prog 94 #[.pointer (some ⟨R.b, 0, none⟩), .slice ao n c] w fun e w' => e = .returned (.int .i64 1) ∧ w = w' := by
  have c0 := h.c0
  have hne : ¬ (n : Int) = (R.nn : Int) := by omega
  clear h
  go_enter Try.func94, Try.ntmps94
  go_wp2
  go_ret
  exact ⟨rfl, rfl⟩

def rspl (f : Nat → Nat → Bool) (xs : List Int) (nn i j : Nat) : Nat → Nat → Bool := fun a b => if (a < i ∨ (a = i ∧ b < j)) ∧ b < nn then decide (xs.getD a 0 ≠ xs.getD b 0) else f a b
theorem rspl_start (f : Nat → Nat → Bool) (xs : List Int) (nn : Nat) : rspl f xs nn 0 0 = f := by
  funext a b
  simp [rspl]
theorem rspl_row (f : Nat → Nat → Bool) (xs : List Int) (nn i : Nat) : rspl f xs nn i nn = rspl f xs nn (i + 1) 0 := by
  funext a b
  unfold rspl
  by_cases e : (a < i ∨ (a = i ∧ b < nn)) ∧ b < nn
  · rw [if_pos e, if_pos (by omega)]
  · rw [if_neg e, if_neg (by omega)]
theorem rspl_next (f : Nat → Nat → Bool) (xs : List Int) (nn i j : Nat) (hj : j < nn) : upd2 (rspl f xs nn i j) i j (decide (xs.getD i 0 ≠ xs.getD j 0)) = rspl f xs nn i (j + 1) := by
  funext a b
  unfold upd2
  by_cases e : a = i ∧ b = j
  · obtain ⟨rfl, rfl⟩ := e
    rw [if_pos ⟨rfl, rfl⟩]
    unfold rspl
    rw [if_pos (by omega)]
  · rw [if_neg e]
    unfold rspl
    by_cases e2 : (a < i ∨ (a = i ∧ b < j)) ∧ b < nn
    · rw [if_pos e2, if_pos (by omega)]
    · rw [if_neg e2, if_neg (by omega)]
theorem Rtep.at {R R' : Rn} (s : Rtep w w' R R' B) {k i : Nat} {v : Value} (hk : ¬ R.own k) (hc : w.cell? ⟨k, i, none⟩ = some v) : w'.cell? ⟨k, i, none⟩ = some v :=
  (World.cell?_of_block (w := w) (s.kept.block k (World.block_lt_of_cell? w _ hc) hk)).trans hc

set_option maxHeartbeats 1000000 in
theorem rsplit_bad (h : R.Ok w B) (sb off c : Nat) (xs : List Int) (hs : ∀ i, i < R.nn → w.cell? ⟨sb, off + i, none⟩ = some (.int .i64 (xs.getD i 0))) (i0 : Nat) (hi0 : i0 < R.nn) (hbad : ¬ okSide (xs.getD i0 0)) : Calls Try.prog 94 #[.pointer (some ⟨R.b, 0, none⟩), .slice (some ⟨sb, off, none⟩) R.nn c] w fun e w' => e = .returned (.int .i64 1) ∧ Below w.heap.size w w' := by
  have c0 := h.c0
  have hn16 := h.n16
  have Hs : Hid (∀ i, i < R.nn → w.cell? ⟨sb, off + i, none⟩ = some (.int .i64 (xs.getD i 0))) := hs
  clear h hs
  go_enter Try.func94, Try.ntmps94
  go_wp2
  go_loopw [5] (fun i wr => ∃ k : Nat, k ≤ R.nn ∧ i = .int .i64 k ∧ w = wr ∧ ∀ j, j < k → okSide (xs.getD j 0)) (fun i _ => R.nn - (intOf i).toNat)
  case atStart => exact ⟨0, Nat.zero_le _, rfl, rfl, fun j hj => by omega⟩
  case round =>
    obtain ⟨k, hk, rfl, rfl, hok⟩ := hrel
    by_cases hlt : k < R.nn
    · have hck := Hs.out k hlt
      have i1 : (0 : Int) ≤ (k : Int) := Int.natCast_nonneg _
      have i2 : (k : Int) < (R.nn : Int) := by omega
      by_cases hx : okSide (xs.getD k 0)
      · have hok1 : Hid (∀ j, j < k + 1 → okSide (xs.getD j 0)) := fun j hj => by
          by_cases e : j = k
          · subst e; exact hx
          · exact hok j (by omega)
        obtain ⟨x0, x1⟩ := hx
        generalize xs.getD k 0 = X at hck x0 x1
        clear hok hbad
        go_wp2
        go_roundw
        case rel => exact ⟨k + 1, by omega, by go_num, by first | rfl | trivial, hok1.out⟩
        case measure => simp [intOf]; omega
      · have hx : xs.getD k 0 < 0 ∨ 16 ≤ xs.getD k 0 := by unfold okSide at hx; omega
        generalize xs.getD k 0 = X at hck hx
        clear hok hbad
        go_wp2
        all_goals first | (exfalso; omega) | (go_ret; exact ⟨rfl, Below.refl _ _⟩)
    · exfalso
      exact hbad (hok i0 (by omega))

set_option maxHeartbeats 1000000 in
theorem rsplit_ok (h : R.Ok w B) (sb off c : Nat) (xs : List Int) (hs : ∀ i, i < R.nn → w.cell? ⟨sb, off + i, none⟩ = some (.int .i64 (xs.getD i 0))) (hsb : ¬ R.own sb) (hok : ∀ i, i < R.nn → okSide (xs.getD i 0)) : Calls Try.prog 94 #[.pointer (some ⟨R.b, 0, none⟩), .slice (some ⟨sb, off, none⟩) R.nn c] w fun e w' => e = .returned (.int .i64 0) ∧ Rtep w w' R { R with shut := rspl R.shut xs R.nn R.nn 0 } B := by
  have c0 := h.c0
  have hn16 := h.n16
  have Hs : Hid (∀ i, i < R.nn → w.cell? ⟨sb, off + i, none⟩ = some (.int .i64 (xs.getD i 0))) := hs
  have Hok : Hid (∀ i, i < R.nn → okSide (xs.getD i 0)) := hok
  have H0 : Hid (Rtep w w R { R with shut := rspl R.shut xs R.nn 0 0 } B) := by
    rw [rspl_start]
    exact Rtep.same h
  clear h hs hok
  go_enter Try.func94, Try.ntmps94
  go_wp2
  go_loopw [5] (fun i wr => ∃ k : Nat, k ≤ R.nn ∧ i = .int .i64 k ∧ w = wr) (fun i _ => R.nn - (intOf i).toNat)
  case atStart => exact ⟨0, Nat.zero_le _, rfl, rfl⟩
  case round =>
    obtain ⟨k, hk, rfl, rfl⟩ := hrel
    by_cases hlt : k < R.nn
    · have hck := Hs.out k hlt
      obtain ⟨x0, x1⟩ := Hok.out k hlt
      have i1 : (0 : Int) ≤ (k : Int) := Int.natCast_nonneg _
      have i2 : (k : Int) < (R.nn : Int) := by omega
      generalize xs.getD k 0 = X at hck x0 x1
      go_wp2
      go_roundw
      case rel => exact ⟨k + 1, by omega, by go_num, by first | rfl | trivial⟩
      case measure => simp [intOf]; omega
    · obtain rfl : k = R.nn := by omega
      clear Hok
      go_wp2
      go_loopw [6] (fun i wr => ∃ k : Nat, k ≤ R.nn ∧ i = .int .i64 k ∧ Rtep w wr R { R with shut := rspl R.shut xs R.nn k 0 } B) (fun i _ => R.nn - (intOf i).toNat)
      case atStart => exact ⟨0, Nat.zero_le _, rfl, H0.out⟩
      case round =>
        obtain ⟨k, hk, rfl, hst⟩ := hrel
        have HS : Hid (Rtep w wr R { R with shut := rspl R.shut xs R.nn k 0 } B) := hst
        have d0 : wr.cell? ⟨R.b, 0, none⟩ = some (.int .i64 R.nn) := hst.ok.c0
        clear hst
        by_cases hlt : k < R.nn
        · go_wp2
          go_loopw [7] (fun i wr => ∃ j : Nat, j ≤ R.nn ∧ i = .int .i64 j ∧ Rtep w wr R { R with shut := rspl R.shut xs R.nn k j } B) (fun i _ => R.nn - (intOf i).toNat)
          case atStart => exact ⟨0, Nat.zero_le _, rfl, HS.out⟩
          case round =>
            obtain ⟨j, hj, rfl, hst2⟩ := hrel
            clear HS d0
            have HS2 : Hid (Rtep w wr R { R with shut := rspl R.shut xs R.nn k j } B) := hst2
            have d0 : wr.cell? ⟨R.b, 0, none⟩ = some (.int .i64 R.nn) := hst2.ok.c0
            by_cases hjlt : j < R.nn
            · have hck := HS2.out.at hsb (Hs.out k hlt)
              have hcj := HS2.out.at hsb (Hs.out j hjlt)
              obtain ⟨q0, _⟩ := hst2.ok.csh (p := k) (q := j) (by omega) (by omega)
              have q0 : wr.cell? ⟨R.b, 51 + k * 16 + j, none⟩ = some (.bool (rspl R.shut xs R.nn k j k j)) := q0
              have qf : wr.frozen? ⟨R.b, 51 + k * 16 + j, none⟩ = false := hst2.ok.fz _
              have HN : Hid (Rtep w (wr.setCell ⟨R.b, 51 + k * 16 + j, none⟩ (.bool (decide (xs.getD k 0 ≠ xs.getD j 0)))) R { R with shut := rspl R.shut xs R.nn k (j + 1) } B) := by
                have s2 : Rtep wr (wr.setCell ⟨R.b, 51 + k * 16 + j, none⟩ (.bool (decide (xs.getD k 0 ≠ xs.getD j 0)))) { R with shut := rspl R.shut xs R.nn k j } { R with shut := rspl R.shut xs R.nn k (j + 1) } B := Rtep.cell hst2.ok (fun cs hb => by
                  have := hb.setShut k j (by omega) (by omega) (decide (xs.getD k 0 ≠ xs.getD j 0))
                  rw [← rspl_next R.shut xs R.nn k j hjlt]
                  exact this) rfl rfl rfl rfl rfl
                exact hst2.trans s2
              generalize hX : xs.getD k 0 = X at hck HN
              generalize hY : xs.getD j 0 = Y at hcj HN
              generalize rspl R.shut xs R.nn k j k j = z at q0
              have i1 : (0 : Int) ≤ (k : Int) := Int.natCast_nonneg _
              have i2 : (k : Int) < (R.nn : Int) := by omega
              have i3 : (0 : Int) ≤ (j : Int) := Int.natCast_nonneg _
              have i4 : (j : Int) < (R.nn : Int) := by omega
              have i5 : (k : Int) < 16 := by omega
              have i6 : (j : Int) < 16 := by omega
              clear hst2 HS2
              have HN2 : Hid (Rtep w (wr.setCell ⟨R.b, 51 + k * 16 + j, none⟩ (.bool (X != Y))).drew R { R with shut := rspl R.shut xs R.nn k (j + 1) } B) := by
                have e1 : (X != Y) = decide (X ≠ Y) := by by_cases e : X = Y <;> simp [e]
                rw [e1]
                exact HN.out.post (Below.refl _ _).drew
              clear HN
              go_wp2
              go_region_law (fail)
              all_goals
                go_wp2
                go_roundw
                case rel => exact ⟨j + 1, by omega, by go_num, HN2.out⟩
                case measure => simp [intOf]; omega
            · obtain rfl : j = R.nn := by omega
              have HS3 : Hid (Rtep w wr R { R with shut := rspl R.shut xs R.nn (k + 1) 0 } B) := by
                have := HS2.out
                rw [rspl_row] at this
                exact this
              clear HS2 hst2
              go_wp2
              go_roundw
              case rel => exact ⟨k + 1, by omega, by go_num, HS3.out⟩
              case measure => simp [intOf]; omega
        · obtain rfl : k = R.nn := by omega
          go_wp2
          go_ret
          exact ⟨rfl, HS.out⟩
end
end Go.Proofs.Ythogcanfinjfdaa.Et
namespace Go.Proofs.Ythogcanfinjfdaa.Et
open Go.RowKit Go.Maps
set_option linter.unusedVariables false
set_option linter.unusedSimpArgs false
set_option maxRecDepth 100000
section
variable {R R' : Rn} {w w' : World} {B : Nat}
set_option maxHeartbeats 400000 in
theorem rnew_no (n r : Int) (hb : badNew n r) : Calls Try.prog 31 #[.int .i64 n, .int .i64 r] w fun e w' => e = .returned (.tuple #[.pointer none, .int .i64 1]) ∧ w = w' := by
  unfold badNew at hb
  go_enter Try.func31, Try.ntmps31
  go_wp2
  all_goals first | (exfalso; omega) | (go_ret2; exact ⟨rfl, rfl⟩)

def newCsP (P : Program) (n r : Int) : Array Value := (P.built 116 [(0, .int .i64 n), (1, .int .i64 r)]).getD #[]
theorem newCs_some (n r : Int) : (Try.prog.built 116 [(0, .int .i64 n), (1, .int .i64 r)]).isSome = true := by kernel_rfl
theorem newCs_list (n r : Int) : (newCsP Try.prog n r).toList = [.int .i64 n, .int .i64 r, .int .i64 0] ++ List.replicate 16 (.bool false) ++ List.replicate 32 (.int .i64 0) ++ List.replicate 256 (.bool false) ++ List.replicate 256 (.int .i64 0) ++ [.slice none 0 0] := by kernel_rfl
def newR (b n : Nat) (r : Int) (u s t : Nat) : Rn := ⟨b, n, r, 0, fun i => decide (i < u), fun i => if i < u then 1 else 0, fun _ => 0, fun _ _ => false, fun a c => if a < s ∨ (a = s ∧ c < t) then 1 else 0, none, 0, []⟩
theorem newCs_get (n r : Int) (i : Nat) : (newCsP Try.prog n r)[i]? = ([.int .i64 n, .int .i64 r, .int .i64 0] ++ List.replicate 16 (.bool false) ++ List.replicate 32 (.int .i64 0) ++ List.replicate 256 (.bool false) ++ List.replicate 256 (.int .i64 0) ++ [.slice none 0 0] : List Value)[i]? := by
  rw [← newCs_list n r]
  simp
theorem rep_at (A C : List Value) (m : Nat) (v : Value) (i : Nat) (h1 : A.length ≤ i) (h2 : i < A.length + m) : (A ++ (List.replicate m v ++ C))[i]? = some v := by
  rw [List.getElem?_append_right h1, List.getElem?_append_left (by rw [List.length_replicate]; omega), List.getElem?_replicate, if_pos (by omega)]
theorem newCs_at (n r : Int) : (newCsP Try.prog n r).size = 564 ∧ (newCsP Try.prog n r)[0]? = some (.int .i64 n) ∧ (newCsP Try.prog n r)[1]? = some (.int .i64 r) ∧ (newCsP Try.prog n r)[2]? = some (.int .i64 0) ∧ (∀ p, p < 16 → (newCsP Try.prog n r)[3 + p]? = some (.bool false)) ∧ (∀ p, p < 32 → (newCsP Try.prog n r)[19 + p]? = some (.int .i64 0)) ∧ (∀ p, p < 256 → (newCsP Try.prog n r)[51 + p]? = some (.bool false)) ∧ (∀ p, p < 256 → (newCsP Try.prog n r)[307 + p]? = some (.int .i64 0)) ∧ (newCsP Try.prog n r)[563]? = some (.slice none 0 0) := by
  have hsz : (newCsP Try.prog n r).size = 564 := by
    have := congrArg List.length (newCs_list n r)
    simp only [List.length_append, List.length_replicate, List.length_cons, List.length_nil, Array.length_toList] at this
    exact this
  have hg := newCs_get n r
  generalize hA : ([.int .i64 n, .int .i64 r, .int .i64 0] : List Value) = A at hg
  have hAl : A.length = 3 := by rw [← hA]; rfl
  simp only [List.append_assoc] at hg
  refine ⟨hsz, ?_, ?_, ?_, ?_, ?_, ?_, ?_, ?_⟩
  · rw [hg, ← hA]; rfl
  · rw [hg, ← hA]; rfl
  · rw [hg, ← hA]; rfl
  · intro p hp
    rw [hg]
    exact rep_at A _ 16 _ _ (by omega) (by omega)
  · intro p hp
    rw [hg, ← List.append_assoc]
    exact rep_at _ _ 32 _ _ (by rw [List.length_append, List.length_replicate, hAl]; omega) (by rw [List.length_append, List.length_replicate, hAl]; omega)
  · intro p hp
    rw [hg, ← List.append_assoc, ← List.append_assoc]
    exact rep_at _ _ 256 _ _ (by rw [List.length_append, List.length_append, List.length_replicate, List.length_replicate, hAl]; omega) (by rw [List.length_append, List.length_append, List.length_replicate, List.length_replicate, hAl]; omega)
  · intro p hp
    rw [hg, ← List.append_assoc, ← List.append_assoc, ← List.append_assoc]
    exact rep_at _ _ 256 _ _ (by rw [List.length_append, List.length_append, List.length_append, List.length_replicate, List.length_replicate, List.length_replicate, hAl]; omega) (by rw [List.length_append, List.length_append, List.length_append, List.length_replicate, List.length_replicate, List.length_replicate, hAl]; omega)
  · rw [hg, ← List.append_assoc, ← List.append_assoc, ← List.append_assoc, ← List.append_assoc, List.getElem?_append_right (by rw [List.length_append, List.length_append, List.length_append, List.length_append, List.length_replicate, List.length_replicate, List.length_replicate, List.length_replicate, hAl]; omega)]
    rw [List.length_append, List.length_append, List.length_append, List.length_append, List.length_replicate, List.length_replicate, List.length_replicate, List.length_replicate, hAl]
    rfl

theorem rnew_first (n : Nat) (r : Int) (h1 : 1 ≤ n) (h2 : n ≤ 16) : (newR w.heap.size n r 0 0 0).Ok (w.alloc (.cells (newCsP Try.prog n r) 116)) w.heap.size := by
  obtain ⟨hs, a0, a1, a2, a3, a4, a5, a6, a7⟩ := newCs_at n r
  refine ⟨⟨newCsP Try.prog n r, ⟨heap_alloc_new w _, hs, a0, a1, a2, (fun p hp => by rw [a3 p hp]; simp [newR]), (fun p hp => by rw [a4 p (by omega)]; simp [newR]), fun p hp => ?_, fun p q hp hq => ?_, fun p q hp hq => ?_, a7⟩⟩, ⟨rfl, .inl ⟨rfl, rfl⟩⟩, (fun p hp => by cases hp), List.Pairwise.nil, Nat.le_refl _, ⟨h1, h2⟩, (fun p hp => by cases hp)⟩
  · have := a4 (16 + p) (by omega)
    rw [show 19 + (16 + p) = 35 + p by omega] at this
    rw [this]; rfl
  · have := a5 (p * 16 + q) (by omega)
    rw [← Nat.add_assoc] at this
    rw [this]; rfl
  · have := a6 (p * 16 + q) (by omega)
    rw [← Nat.add_assoc] at this
    rw [this]; simp [newR]
theorem rnew_up {b n u s t : Nat} {r : Int} (h : (newR b n r u s t).Ok w B) (hu : u < 16) : (newR b n r (u + 1) s t).Ok ((w.setCell ⟨b, 3 + u, none⟩ (.bool true)).setCell ⟨b, 19 + u, none⟩ (.int .i64 1)) B := by
  have s1 : Rtep w (w.setCell ⟨b, 3 + u, none⟩ (.bool true)) (newR b n r u s t) { newR b n r u s t with up := upd1 (newR b n r u s t).up u true } B := Rtep.cell h (fun cs hb => hb.setUp u hu true) rfl rfl rfl rfl rfl
  have s2 : Rtep _ ((w.setCell ⟨b, 3 + u, none⟩ (.bool true)).setCell ⟨b, 19 + u, none⟩ (.int .i64 1)) _ { newR b n r u s t with up := upd1 (newR b n r u s t).up u true, inc := upd1 (newR b n r u s t).inc u 1 } B := Rtep.cell s1.ok (fun cs hb => hb.setInc u hu 1) rfl rfl rfl rfl rfl
  have e : newR b n r (u + 1) s t = { newR b n r u s t with up := upd1 (newR b n r u s t).up u true, inc := upd1 (newR b n r u s t).inc u 1 } := by
    unfold newR upd1
    congr 1
    · funext i
      by_cases hi : i = u
      · subst hi; simp
      · have : (i < u + 1) ↔ (i < u) := by omega
        simp [hi, this]
    · funext i
      by_cases hi : i = u
      · subst hi; simp
      · have : (i < u + 1) ↔ (i < u) := by omega
        simp [hi, this]
  rw [e]
  exact s2.ok
theorem rnew_slow {b n u s t : Nat} {r : Int} (h : (newR b n r u s t).Ok w B) (hs : s < 16) (ht : t < 16) : (newR b n r u s (t + 1)).Ok (w.setCell ⟨b, 307 + s * 16 + t, none⟩ (.int .i64 1)) B := by
  have s1 : Rtep w (w.setCell ⟨b, 307 + s * 16 + t, none⟩ (.int .i64 1)) (newR b n r u s t) { newR b n r u s t with slow := upd2 (newR b n r u s t).slow s t 1 } B := Rtep.cell h (fun cs hb => hb.setSlow s t hs ht 1) rfl rfl rfl rfl rfl
  have e : newR b n r u s (t + 1) = { newR b n r u s t with slow := upd2 (newR b n r u s t).slow s t 1 } := by
    simp only [newR]
    congr 1
    funext a c
    unfold upd2
    by_cases hi : a = s ∧ c = t
    · rw [if_pos (by omega), if_pos hi]
    · rw [if_neg hi]
      by_cases h2 : a < s ∨ (a = s ∧ c < t)
      · rw [if_pos (by omega)]
        exact (if_pos h2).symm
      · rw [if_neg (by omega)]
        exact (if_neg h2).symm
  rw [e]
  exact s1.ok
theorem rnew_row {b n u s : Nat} {r : Int} (h : (newR b n r u s 16).Ok w B) : (newR b n r u (s + 1) 0).Ok w B := by
  obtain ⟨cs, hb⟩ := h.blk
  refine ⟨⟨cs, hb.blk, hb.sz, hb.c0, hb.c1, hb.c2, hb.up, hb.inc, hb.tick, hb.shut, fun p q hp hq => ?_, hb.c563⟩, h.row, h.byt, h.apt, h.ge, h.n16, h.pth⟩
  rw [hb.slow p q hp hq]
  simp only [newR]
  by_cases e : p < s ∨ (p = s ∧ q < 16)
  · rw [if_pos e, if_pos (by omega)]
  · rw [if_neg e, if_neg (by omega)]

set_option maxHeartbeats 400000 in
theorem rnew_ok (n : Nat) (r : Int) (h1 : 1 ≤ n) (h2 : n ≤ 16) (h3 : 1 ≤ r) (h4 : r ≤ 20000) : Calls Try.prog 31 #[.int .i64 n, .int .i64 r] w fun e w' => ∃ R : Rn, e = .returned (.tuple #[.pointer (some ⟨R.b, 0, none⟩), .int .i64 0]) ∧ R.Ok w' w.heap.size ∧ Below w.heap.size w w' ∧ R.nn = n ∧ R.room = r ∧ R.now = 0 ∧ R.all = [] ∧ ∀ i, i < 16 → R.up i = true ∧ R.inc i = 1 ∧ R.tick i = 0 ∧ ∀ j, j < 16 → R.shut i j = false ∧ R.slow i j = 1 := by
  have i1 : (1 : Int) ≤ (n : Int) := by omega
  have i2 : (n : Int) ≤ 16 := by omega
  go_enter Try.func31, Try.ntmps31
  go_wp2_with (first
    | (refine wpList_build rfl _ _ rfl (newCs_some n r) ?_)
    | fail)
  have H1 : Hid ((newR w.heap.size n r 0 0 0).Ok (w.alloc (.cells (newCsP Try.prog n r) 116)) w.heap.size) := rnew_first n r h1 h2
  go_loopw [7] (fun i wr => ∃ k : Nat, k ≤ 16 ∧ i = .int .i64 k ∧ (newR w.heap.size n r k k 0).Ok wr w.heap.size ∧ Below w.heap.size w wr) (fun i _ => 16 - (intOf i).toNat)
  case atStart => exact ⟨0, Nat.zero_le _, rfl, H1.out, balloc (Below.refl _ w)⟩
  case round =>
    obtain ⟨k, hk, rfl, hok, hbel⟩ := hrel
    have HK : Hid ((newR w.heap.size n r k k 0).Ok wr w.heap.size) := hok
    have HB : Hid (Below w.heap.size w wr) := hbel
    by_cases hlt : k < 16
    · obtain ⟨d0, d1, _⟩ := hok.cup hlt
      have d0 : wr.cell? ⟨w.heap.size, 3 + k, none⟩ = some (.bool (decide (k < k))) := d0
      have d1 : wr.cell? ⟨w.heap.size, 19 + k, none⟩ = some (.int .i64 (if k < k then 1 else 0)) := d1
      simp only [Nat.lt_irrefl, decide_false, if_false] at d0 d1
      have f0 : wr.frozen? ⟨w.heap.size, 3 + k, none⟩ = false := hok.fz _
      have f1 : wr.frozen? ⟨w.heap.size, 19 + k, none⟩ = false := hok.fz _
      have j1 : (0 : Int) ≤ (k : Int) := Int.natCast_nonneg _
      have j2 : (k : Int) < 16 := by omega
      have HU : Hid ((newR w.heap.size n r (k + 1) k 0).Ok ((wr.setCell ⟨w.heap.size, 3 + k, none⟩ (.bool true)).setCell ⟨w.heap.size, 19 + k, none⟩ (.int .i64 1)) w.heap.size) := rnew_up hok hlt
      have HB2 : Hid (Below w.heap.size w ((wr.setCell ⟨w.heap.size, 3 + k, none⟩ (.bool true)).setCell ⟨w.heap.size, 19 + k, none⟩ (.int .i64 1))) := bset (bset hbel (Nat.le_refl _) _ _) (Nat.le_refl _) _ _
      clear hok hbel H1
      go_wp2
      go_loopw [8] (fun i wr => ∃ j : Nat, j ≤ 16 ∧ i = .int .i64 j ∧ (newR w.heap.size n r (k + 1) k j).Ok wr w.heap.size ∧ Below w.heap.size w wr) (fun i _ => 16 - (intOf i).toNat)
      case atStart => exact ⟨0, Nat.zero_le _, rfl, HU.out, HB2.out⟩
      case round =>
        obtain ⟨j, hj, rfl, hok, hbel⟩ := hrel
        clear HU HB2 HK HB d0 d1 f0 f1
        have HK : Hid ((newR w.heap.size n r (k + 1) k j).Ok wr w.heap.size) := hok
        have HB : Hid (Below w.heap.size w wr) := hbel
        by_cases hjlt : j < 16
        · obtain ⟨_, e1⟩ := hok.csh (p := k) (q := j) hlt hjlt
          have e1 : wr.cell? ⟨w.heap.size, 307 + k * 16 + j, none⟩ = some (.int .i64 ((newR w.heap.size n r (k + 1) k j).slow k j)) := e1
          have f1 : wr.frozen? ⟨w.heap.size, 307 + k * 16 + j, none⟩ = false := hok.fz _
          generalize (newR w.heap.size n r (k + 1) k j).slow k j = z at e1
          have j3 : (0 : Int) ≤ (j : Int) := Int.natCast_nonneg _
          have j4 : (j : Int) < 16 := by omega
          have HN : Hid ((newR w.heap.size n r (k + 1) k (j + 1)).Ok (wr.setCell ⟨w.heap.size, 307 + k * 16 + j, none⟩ (.int .i64 1)) w.heap.size) := rnew_slow hok hlt hjlt
          clear hok hbel HK
          go_wp2
          go_roundw
          case rel => exact ⟨j + 1, by omega, by go_num, HN.out, bset HB.out (Nat.le_refl _) _ _⟩
          case measure => simp [intOf]; omega
        · obtain rfl : j = 16 := by omega
          have HN : Hid ((newR w.heap.size n r (k + 1) (k + 1) 0).Ok wr w.heap.size) := rnew_row hok
          clear hok hbel HK
          go_wp2
          go_roundw
          case rel => exact ⟨k + 1, by omega, by go_num, HN.out, HB.out⟩
          case measure => simp [intOf]; omega
    · obtain rfl : k = 16 := by omega
      go_wp2
      go_ret2
      exact ⟨newR w.heap.size n r 16 16 0, rfl, HK.out, HB.out, rfl, rfl, rfl, rfl, fun i hi => ⟨by simp [newR, hi], by simp [newR, hi], rfl, fun j hj => ⟨rfl, by simp [newR, hi]⟩⟩⟩
end
end Go.Proofs.Ythogcanfinjfdaa.Et
namespace Go.Proofs.Ythogcanfinjfdaa.Et
open Go.RowKit Go.Maps
set_option linter.unusedVariables false
set_option linter.unusedSimpArgs false
set_option maxRecDepth 100000
section
variable {R R' : Rn} {w w' : World} {B : Nat}
theorem far5 {W : World} {k i : Nat} {v0 v1 v2 v3 v4 u : Value} (h : W.cell? ⟨k, i, none⟩ = some u) : (((((W.setCell ⟨k + 1, 0, none⟩ v0).setCell ⟨k + 1, 1, none⟩ v1).setCell ⟨k + 1, 2, none⟩ v2).setCell ⟨k + 1, 3, none⟩ v3).setCell ⟨k + 1, 4, none⟩ v4).cell? ⟨k, i, none⟩ = some u := by
  rw [put5_eq]
  have kp : Kept W (put5 W (k + 1) v0 v1 v2 v3 v4) (fun j => j = k + 1) := put5_kept _ _ _ _ _ _
  generalize put5 W (k + 1) v0 v1 v2 v3 v4 = X at kp
  have hb := kp.block k (World.block_lt_of_cell? W _ h) (show ¬ k = k + 1 by omega)
  exact (World.cell?_of_block (w := W) (w' := X) hb).trans h

set_option maxHeartbeats 400000 in
theorem given_any (fi src dst due : Int) (ao : Option Addr) (n c : Nat) (bs : List Int) (hr : Rd w ao n c bs) (hlen : n ≤ 140737488355327) : Calls Try.prog 90 #[.agg #[.int .i64 fi, .int .i64 src, .int .i64 dst, .int .i64 due, .slice ao n c]] w fun e w' => ∃ a c', e = .returned (.agg #[.int .i64 fi, .int .i64 src, .int .i64 dst, .int .i64 due, .slice a n c']) ∧ w'.ownsRow w.heap.size 5 1 (.slice a n c') n (bs.map (Value.int .u8)) ∧ Below w.heap.size w w' := by
  generalize hW : (w.alloc (.cells #[.int .i64 fi, .int .i64 src, .int .i64 dst, .int .i64 due, .slice ao n c] 48)).alloc (.cells #[.int .i64 0, .int .i64 0, .int .i64 0, .int .i64 0, .slice none 0 0] 48) = W
  have hbW : Below w.heap.size w W := by rw [← hW]; exact balloc (balloc (Below.refl _ w))
  have hWs : W.heap.size = w.heap.size + 1 + 1 := by rw [← hW]; simp
  have hblk : W.heap[w.heap.size]? = some (.cells #[.int .i64 fi, .int .i64 src, .int .i64 dst, .int .i64 due, .slice ao n c] 48 (0, 0)) := by rw [← hW]; exact blk_alloc (heap_alloc_new w _)
  have hblk2 : W.heap[w.heap.size + 1]? = some (.cells #[.int .i64 0, .int .i64 0, .int .i64 0, .int .i64 0, .slice none 0 0] 48 (0, 0)) := by
    rw [← hW]
    have := heap_alloc_new (w.alloc (.cells #[.int .i64 fi, .int .i64 src, .int .i64 dst, .int .i64 due, .slice ao n c] 48)) (.cells #[.int .i64 0, .int .i64 0, .int .i64 0, .int .i64 0, .slice none 0 0] 48)
    simpa using this
  have HC : Hid (∀ w', Below W.heap.size W w' → Calls Try.prog 97 #[.slice ao n c] w' fun e w2 => ∃ av cv, e = .returned (.slice av n cv) ∧ w2.ownsRow W.heap.size 5 1 (.slice av n cv) n (bs.map (Value.int .u8)) ∧ Below W.heap.size W w2) := fun w' hb => (twin_any ao n c bs ((hr.still hbW).still hb) hlen).mono fun e w2 ⟨v, x1, x2, x3⟩ => by
    obtain ⟨av, cv, hv⟩ := own_shape (B' := 0) x2
    subst hv
    exact ⟨av, cv, x1, own_lower x2 hb.size, bstep hb x3⟩
  obtain ⟨d0, d1, d2, d3, d4⟩ := fl_cells hblk
  have Hb : Hid (Below w.heap.size w W) := hbW
  have HB2 : Hid (W.heap[w.heap.size + 1]? = some (.cells #[.int .i64 0, .int .i64 0, .int .i64 0, .int .i64 0, .slice none 0 0] 48 (0, 0))) := hblk2
  have hlt0 : w.heap.size < W.heap.size := by omega
  clear hr hbW hblk hblk2
  go_enter Try.func90, Try.ntmps90
  go_wp2
  refine wp_region_held_drew (S := (fun w' => w'.cell? ⟨w.heap.size, 0, none⟩ = some (.int .i64 fi) ∧ w'.cell? ⟨w.heap.size, 1, none⟩ = some (.int .i64 src) ∧ w'.cell? ⟨w.heap.size, 2, none⟩ = some (.int .i64 dst) ∧ w'.cell? ⟨w.heap.size, 3, none⟩ = some (.int .i64 due) ∧ w'.cell? ⟨w.heap.size, 4, none⟩ = some (.slice ao n c))) (by kernel_rfl) ⟨d0, d1, d2, d3, d4⟩ (fun hHeld => ?_)
  simp only [Act.put, List.size_toArray, List.length_cons, List.length_nil, Nat.zero_add]
  refine wpAnyH_take (i := 0) (v := .pointer (some ⟨w.heap.size, 0, none⟩)) rfl (by kernel_rfl) (by kernel_rfl) (by kernel_rfl) (fun _ _ _ h => h) (Or.inl ⟨by rfl, fun w' hS => by go_simp⟩) hHeld ?_
  simp only [Act.put, List.getElem_toArray, List.getElem_cons_zero, List.getElem_cons_succ, List.setIfInBounds_toArray, List.set_cons_zero, List.set_cons_succ]
  refine wpAnyH_take (i := 1) (v := .int .i64 fi) rfl (by kernel_rfl) (by kernel_rfl) (by kernel_rfl) (fun _ _ _ h => h) (Or.inl ⟨by rfl, fun w' hS => by (obtain ⟨g0, g1, g2, g3, g4⟩ := hS; go_simp)⟩) hHeld ?_
  simp only [Act.put, List.getElem_toArray, List.getElem_cons_zero, List.getElem_cons_succ, List.setIfInBounds_toArray, List.set_cons_zero, List.set_cons_succ]
  refine wpAnyH_take (i := 2) (v := .pointer (some ⟨w.heap.size, 1, none⟩)) rfl (by kernel_rfl) (by kernel_rfl) (by kernel_rfl) (fun _ _ _ h => h) (Or.inl ⟨by rfl, fun w' hS => by go_simp⟩) hHeld ?_
  simp only [Act.put, List.getElem_toArray, List.getElem_cons_zero, List.getElem_cons_succ, List.setIfInBounds_toArray, List.set_cons_zero, List.set_cons_succ]
  refine wpAnyH_take (i := 3) (v := .int .i64 src) rfl (by kernel_rfl) (by kernel_rfl) (by kernel_rfl) (fun _ _ _ h => h) (Or.inl ⟨by rfl, fun w' hS => by (obtain ⟨g0, g1, g2, g3, g4⟩ := hS; go_simp)⟩) hHeld ?_
  simp only [Act.put, List.getElem_toArray, List.getElem_cons_zero, List.getElem_cons_succ, List.setIfInBounds_toArray, List.set_cons_zero, List.set_cons_succ]
  refine wpAnyH_take (i := 4) (v := .pointer (some ⟨w.heap.size, 2, none⟩)) rfl (by kernel_rfl) (by kernel_rfl) (by kernel_rfl) (fun _ _ _ h => h) (Or.inl ⟨by rfl, fun w' hS => by go_simp⟩) hHeld ?_
  simp only [Act.put, List.getElem_toArray, List.getElem_cons_zero, List.getElem_cons_succ, List.setIfInBounds_toArray, List.set_cons_zero, List.set_cons_succ]
  refine wpAnyH_take (i := 5) (v := .int .i64 dst) rfl (by kernel_rfl) (by kernel_rfl) (by kernel_rfl) (fun _ _ _ h => h) (Or.inl ⟨by rfl, fun w' hS => by (obtain ⟨g0, g1, g2, g3, g4⟩ := hS; go_simp)⟩) hHeld ?_
  simp only [Act.put, List.getElem_toArray, List.getElem_cons_zero, List.getElem_cons_succ, List.setIfInBounds_toArray, List.set_cons_zero, List.set_cons_succ]
  refine wpAnyH_take (i := 6) (v := .pointer (some ⟨w.heap.size, 3, none⟩)) rfl (by kernel_rfl) (by kernel_rfl) (by kernel_rfl) (fun _ _ _ h => h) (Or.inl ⟨by rfl, fun w' hS => by go_simp⟩) hHeld ?_
  simp only [Act.put, List.getElem_toArray, List.getElem_cons_zero, List.getElem_cons_succ, List.setIfInBounds_toArray, List.set_cons_zero, List.set_cons_succ]
  refine wpAnyH_take (i := 7) (v := .int .i64 due) rfl (by kernel_rfl) (by kernel_rfl) (by kernel_rfl) (fun _ _ _ h => h) (Or.inl ⟨by rfl, fun w' hS => by (obtain ⟨g0, g1, g2, g3, g4⟩ := hS; go_simp)⟩) hHeld ?_
  simp only [Act.put, List.getElem_toArray, List.getElem_cons_zero, List.getElem_cons_succ, List.setIfInBounds_toArray, List.set_cons_zero, List.set_cons_succ]
  refine wpAnyH_take (i := 8) (v := .pointer (some ⟨w.heap.size, 4, none⟩)) rfl (by kernel_rfl) (by kernel_rfl) (by kernel_rfl) (fun _ _ _ h => h) (Or.inl ⟨by rfl, fun w' hS => by go_simp⟩) hHeld ?_
  simp only [Act.put, List.getElem_toArray, List.getElem_cons_zero, List.getElem_cons_succ, List.setIfInBounds_toArray, List.set_cons_zero, List.set_cons_succ]
  refine wpAnyH_take (i := 9) (v := .slice ao n c) rfl (by kernel_rfl) (by kernel_rfl) (by kernel_rfl) (fun _ _ _ h => h) (Or.inl ⟨by rfl, fun w' hS => by (obtain ⟨g0, g1, g2, g3, g4⟩ := hS; go_simp)⟩) hHeld ?_
  simp only [Act.put, List.getElem_toArray, List.getElem_cons_zero, List.getElem_cons_succ, List.setIfInBounds_toArray, List.set_cons_zero, List.set_cons_succ]
  refine wpAnyH_ready (rs := [10]) (by kernel_rfl) (by simp) ?_
  refine AllReadyH.cons rfl (fun K hK => ?_) AllReadyH.nil
  go_simp
  refine (HC.out _ (by first | exact (Below.refl _ _).drew | exact Below.refl _ _)).mono ?_
  rintro e w1 ⟨av, cv, rfl, ho, hb1⟩
  have t0 := below_at (w := W) hb1 d0
  have t1 := below_at (w := W) hb1 d1
  have t2 := below_at (w := W) hb1 d2
  have t3 := below_at (w := W) hb1 d3
  have t4 := below_at (w := W) hb1 d4
  have HB3 : Hid (w1.heap[w.heap.size + 1]? = some (.cells #[.int .i64 0, .int .i64 0, .int .i64 0, .int .i64 0, .slice none 0 0] 48 (0, 0))) := ((hb1.block _ (show w.heap.size + 1 < W.heap.size by omega)).trans HB2.out)
  obtain ⟨z0, z1, z2, z3, z4⟩ := fl_cells HB3.out
  obtain ⟨y0, y1, y2, y3, y4⟩ := fl_frz HB3.out
  have Ho : Hid (w1.ownsRow (w.heap.size + 1 + 1) 5 1 (.slice av n cv) n (bs.map (Value.int .u8))) := (own_lower ho (by omega))
  have R1 : Hid (Below w.heap.size w w1) := (bstep Hb.out hb1)
  refine hK.out _ _ ⟨t0, t1, t2, t3, t4⟩ (fun hHeld => ?_)
  clear hK K ho hb1
  refine wpAnyH_take (i := 11) (v := .agg #[.int .i64 fi, .int .i64 src, .int .i64 dst, .int .i64 due, .slice av n cv]) rfl (by kernel_rfl) (by kernel_rfl) (by kernel_rfl) (fun _ _ _ h => h) (Or.inl ⟨by rfl, fun w' hS => by go_simp⟩) hHeld ?_
  simp only [Act.put, List.getElem_toArray, List.getElem_cons_zero, List.getElem_cons_succ, List.setIfInBounds_toArray, List.set_cons_zero, List.set_cons_succ]
  refine wpAnyH_ready (rs := [12]) (by kernel_rfl) (by simp) ?_
  refine AllReadyH.cons rfl (fun K hK => ?_) AllReadyH.nil
  go_simp
  refine hK.out _ _ ⟨far5 t0, far5 t1, far5 t2, far5 t3, far5 t4⟩ (fun hHeld => ?_)
  clear hK K
  refine wpAnyH_done (by kernel_rfl) ?_ _
  clear hHeld
  rw [put5_eq]
  have b6 := put5_blk (.int .i64 fi) (.int .i64 src) (.int .i64 dst) (.int .i64 due) (.slice av n cv) HB3.out
  have hbF := put5_below (k := w.heap.size + 1) (.int .i64 fi) (.int .i64 src) (.int .i64 dst) (.int .i64 due) (.slice av n cv) R1.out (Nat.le_succ _)
  have hoF := own_lower (B' := w.heap.size) ((put5_kept (W := w1) (w.heap.size + 1) (.int .i64 fi) (.int .i64 src) (.int .i64 dst) (.int .i64 due) (.slice av n cv)).owns Ho.out (fun q hq e => by have := (World.ownsRow.lt Ho.out q hq).1; omega)) (by omega)
  revert b6 hbF hoF
  generalize put5 w1 (w.heap.size + 1) (.int .i64 fi) (.int .i64 src) (.int .i64 dst) (.int .i64 due) (.slice av n cv) = WF
  intro b6 hbF hoF
  obtain ⟨q0, q1, q2, q3, q4⟩ := fl_cells b6
  go_wp2
  exact bodyPost_ret (v := .agg #[.int .i64 fi, .int .i64 src, .int .i64 dst, .int .i64 due, .slice av n cv]) (by simp [results, Try.results90, go_sem, q0, q1, q2, q3, q4]) rfl ⟨av, cv, rfl, hoF, hbF⟩
end
end Go.Proofs.Ythogcanfinjfdaa.Et
namespace Go.Proofs.Ythogcanfinjfdaa.Et
open Go.RowKit Go.Maps
set_option linter.unusedVariables false
set_option linter.unusedSimpArgs false
set_option maxRecDepth 100000
section
variable {R R' : Rn} {w w' W : World} {B : Nat} {cs : Array Value}
theorem RB.setAll (h : RB w R cs) (va : Option Addr) (n vc : Nat) (all : List Px) (hn : all.length = n) : RB (w.setCell ⟨R.b, 563, none⟩ (.slice va n vc)) { R with va := va, vc := vc, all := all } (cs.setIfInBounds 563 (.slice va n vc)) := by
  have hs := h.sz
  have g := getSet (cs := cs) (i := 563) (v := .slice va n vc) (by omega)
  refine ⟨heap_setCell_same w R.b _ cs 116 _ h.blk, by simpa using hs, ?_, ?_, ?_, ?_, ?_, ?_, ?_, ?_, ?_⟩
  · rw [g, if_neg (by omega)]; exact h.c0
  · rw [g, if_neg (by omega)]; exact h.c1
  · rw [g, if_neg (by omega)]; exact h.c2
  · intro p hp; rw [g, if_neg (by omega)]; exact h.up p hp
  · intro p hp; rw [g, if_neg (by omega)]; exact h.inc p hp
  · intro p hp; rw [g, if_neg (by omega)]; exact h.tick p hp
  · intro p q hp hq; rw [g, if_neg (by omega)]; exact h.shut p q hp hq
  · intro p q hp hq; rw [g, if_neg (by omega)]; exact h.slow p q hp hq
  · rw [g, if_pos rfl, hn]

theorem Rtep.push {w2 w3 : World} (h : R.Ok W B) (hB : B ≤ W.heap.size) (hb2 : Below W.heap.size W w2) (f : Fx) (hf : w2.ownsRow W.heap.size 5 1 f.v f.n (f.bs.map (Value.int .u8))) (hr : ∀ i, 0 ≤ f.bs.getD i 0 ∧ f.bs.getD i 0 ≤ 255)
    (hp : ∃ p q : Nat, f.src = p ∧ f.dst = q ∧ p < R.nn ∧ q < R.nn ∧ p ≠ q) (g cap : Nat) (hown : w3.ownsRow B 132 6 (.slice (some ⟨g, 0, none⟩) (R.all.length + 1) cap) (R.all.length + 1) (pkCells R.all ++ (Px.cs ⟨f, false⟩)))
    (hgrow : w2.grownBy w3 (Value.slice R.va R.all.length R.vc).ownBlock) (hat : (Value.slice R.va R.all.length R.vc).ownBlock = some g ∨ g = w2.heap.size) :
    Rtep W (w3.setCell ⟨R.b, 563, none⟩ (.slice (some ⟨g, 0, none⟩) (R.all.length + 1) cap)) R { R with va := some ⟨g, 0, none⟩, vc := cap, all := R.all ++ [⟨f, false⟩] } B := by
  obtain ⟨cs, hblk⟩ := h.blk
  have k3 : Kept W w3 (fun j => (Value.slice R.va R.all.length R.vc).ownBlock = some j) := (Kept.ofBelow hb2 _).trans ((Kept.ofGrown hgrow).mono (fun j _ e => e.symm))
  have hb3 : RB w3 R cs := hblk.keep k3 (fun e => h.row_ne e rfl)
  have hgb : (Value.slice (some (⟨g, 0, none⟩ : Addr)) (R.all.length + 1) cap).ownBlock ≠ some R.b := by
    intro e
    obtain ⟨cur, hc⟩ := row_ty hown e
    rw [hb3.blk] at hc
    simp at hc
  have ks : Kept w3 (w3.setCell ⟨R.b, 563, none⟩ (.slice (some ⟨g, 0, none⟩) (R.all.length + 1) cap)) (fun j => j = R.b) := kset w3 R.b 563 _ rfl
  have k4 : Kept W (w3.setCell ⟨R.b, 563, none⟩ (.slice (some ⟨g, 0, none⟩) (R.all.length + 1) cap)) (fun j => (Value.slice R.va R.all.length R.vc).ownBlock = some j ∨ j = R.b) := (k3.mono (fun _ _ e => .inl e)).trans (ks.mono (fun _ _ e => .inr e))
  have hfb : ∀ j, f.v.ownBlock = some j → W.heap.size ≤ j := fun j hj => (World.ownsRow.lt hf j hj).1
  have kf : Kept w2 (w3.setCell ⟨R.b, 563, none⟩ (.slice (some ⟨g, 0, none⟩) (R.all.length + 1) cap)) (fun j => (Value.slice R.va R.all.length R.vc).ownBlock = some j ∨ j = R.b) :=
    (((Kept.ofGrown hgrow).mono (fun j _ e => e.symm)).mono (fun _ _ e => .inl e)).trans (ks.mono (fun _ _ e => .inr e))
  have hrow_lt : ∀ j, (Value.slice R.va R.all.length R.vc).ownBlock = some j → j < W.heap.size := fun j hj => (World.ownsRow.lt h.row j hj).2
  have hb_lt : R.b < W.heap.size := lt_heap hblk.blk
  refine ⟨⟨⟨_, hb3.setAll _ _ _ _ (by simp)⟩, ?_, ?_, ?_, h.ge, h.n16, ?_⟩, ?_, ?_⟩
  · have := own_set (k := R.b) (i := 563) (u := .slice (some ⟨g, 0, none⟩) (R.all.length + 1) cap) hown hgb
    simp only [List.length_append, List.length_cons, List.length_nil]
    rw [pk_app]
    simpa [pkCells] using this
  · intro x hx
    rcases List.mem_append.1 hx with hx | hx
    · exact (h.byt x hx).keep k4 (fun j hj e => e.elim (fun e => (h.byt_ne hx hj).2 e) (fun e => (h.byt_ne hx hj).1 e))
    · obtain rfl := List.mem_singleton.1 hx
      exact ⟨own_lower (kf.owns hf (fun j hj e => by have := hfb j hj; rcases e with e | e; (have := hrow_lt j e; omega); (omega))) hB, hr⟩
  · rw [List.map_append]
    refine List.pairwise_append.2 ⟨h.apt, List.pairwise_singleton _ _, ?_⟩
    intro x hx y hy k hk e
    obtain ⟨p, hpm, rfl⟩ := List.mem_map.1 hx
    simp at hy
    subst hy
    have h1 := (World.ownsRow.lt (h.byt p hpm).1 k hk).2
    have h2 := hfb k e
    omega
  · intro x hx
    rcases List.mem_append.1 hx with hx | hx
    · exact h.pth x hx
    · obtain rfl := List.mem_singleton.1 hx
      exact hp
  · exact k4.mono (fun j _ e => e.elim (fun e => .inr (.inl e)) (fun e => .inl e))
  · intro j hj
    rcases hj with e | e | ⟨x, hx, e⟩
    · exact .inl (.inl e)
    · simp [Value.ownBlock] at e
      rcases hat with h1 | h1
      · exact .inl (.inr (.inl (by rw [h1, e])))
      · right; have := hb2.size; omega
    · rcases List.mem_append.1 hx with hx | hx
      · exact .inl (.inr (.inr ⟨x, hx, e⟩))
      · obtain rfl := List.mem_singleton.1 hx
        exact .inr (hfb j e)

end
end Go.Proofs.Ythogcanfinjfdaa.Et
namespace Go.Proofs.Ythogcanfinjfdaa.Et
open Go.RowKit Go.Maps
set_option linter.unusedVariables false
set_option linter.unusedSimpArgs false
set_option maxRecDepth 100000
section
variable {R R' : Rn} {w w' W : World} {B : Nat}
theorem put5_new (X : World) (z0 z1 z2 z3 z4 v0 v1 v2 v3 v4 : Value) (t : TypeId) : (put5 (X.alloc (.cells #[z0, z1, z2, z3, z4] t)) X.heap.size v0 v1 v2 v3 v4).heap[X.heap.size]? = some (.cells #[v0, v1, v2, v3, v4] t (0, 0)) := put5_blk v0 v1 v2 v3 v4 (heap_alloc_new X _)

theorem info_pk : (Try.prog.info? 132).map (fun i => (i.zero, i.size, i.bytes)) = some (some (.agg #[.int .i64 0, .int .i64 0, .int .i64 0, .int .i64 0, .slice none 0 0, .bool false]), 6, 64) := by kernel_rfl
theorem rfar {w2 w3 : World} (h : R.Ok W B) (hb2 : Below W.heap.size W w2) (hgrow : w2.grownBy w3 (Value.slice R.va R.all.length R.vc).ownBlock) :
    w3.cell? ⟨R.b, 563, none⟩ = some (.slice R.va R.all.length R.vc) ∧ w3.frozen? ⟨R.b, 563, none⟩ = false ∧ ∀ k i v, W.heap.size ≤ k → w2.cell? ⟨k, i, none⟩ = some v → w3.cell? ⟨k, i, none⟩ = some v := by
  obtain ⟨cs, hblk⟩ := h.blk
  have k3 : Kept W w3 (fun j => (Value.slice R.va R.all.length R.vc).ownBlock = some j) := (Kept.ofBelow hb2 _).trans ((Kept.ofGrown hgrow).mono (fun j _ e => e.symm))
  have hb3 : RB w3 R cs := hblk.keep k3 (fun e => h.row_ne e rfl)
  refine ⟨(blk_cell hb3.blk 563).trans hb3.c563, frozen_of_row w3 _ 563 _ _ hb3.blk, fun k i v hk hc => ?_⟩
  exact (World.cell?_of_block (w := w2) ((Kept.ofGrown hgrow).block k (World.block_lt_of_cell? w2 _ hc) (fun e => by have := h.ltOwn (.inr (.inl e.symm)); omega))).trans hc

set_option maxHeartbeats 400000 in
theorem put_any (h : R.Ok w B) (hB : B ≤ w.heap.size) (src dst due : Int) (ao : Option Addr) (n c : Nat) (bs : List Int) (hr : Rd w ao n c bs) (hlen : n ≤ 40000) (hA : R.all.length ≤ 2199023255551) (hp : ∃ p q : Nat, src = p ∧ dst = q ∧ p < R.nn ∧ q < R.nn ∧ p ≠ q) : Calls Try.prog 96 #[.pointer (some ⟨R.b, 0, none⟩), .int .i64 src, .int .i64 dst, .int .i64 due, .slice ao n c] w fun e w' => e = .returned (.int .i64 (R.all.length + 1)) ∧ ∃ g a va vc, Rtep w w' R { R with va := va, vc := vc, all := R.all ++ [⟨⟨R.all.length + 1, src, dst, due, a, n, g, bs⟩, false⟩] } B := by
  have HC : Hid (∀ w', Below w.heap.size w w' → Calls Try.prog 97 #[.slice ao n c] w' fun e w2 => ∃ av cv, e = .returned (.slice av n cv) ∧ w2.ownsRow w'.heap.size 5 1 (.slice av n cv) n (bs.map (Value.int .u8)) ∧ Below w'.heap.size w' w2) := fun w' hb => (twin_any ao n c bs (hr.still hb) (by omega)).mono fun e w2 ⟨v, x1, x2, x3⟩ => by
    obtain ⟨av, cv, hv⟩ := own_shape (B' := 0) x2
    subst hv
    exact ⟨av, cv, x1, x2, x3⟩
  have hrr := hr.2.2.2
  have Hh : Hid (R.Ok w B) := h
  have H5 : Hid (∀ w', Below w.heap.size w w' → w'.cell? ⟨R.b, 563, none⟩ = some (.slice R.va R.all.length R.vc)) := fun w' hb => (h.still hb).c563
  have hbw : R.b < w.heap.size := h.ltOwn (.inl rfl)
  have hwr : IntKind.i64.wrap ((R.all.length : Int) + 1) = (R.all.length : Int) + 1 := wrap_id (by omega) (by omega)
  obtain ⟨i0, hi, hz0, hz1, hz2⟩ := info_parts info_pk
  clear h hr
  go_enter Try.func96, Try.ntmps96
  go_wp2
  refine wp_region_held_drew (S := fun w' => Below w.heap.size w w') (by kernel_rfl) (Below.refl _ w).drew (fun hHeld => ?_)
  simp only [Act.put, List.size_toArray, List.length_cons, List.length_nil, Nat.zero_add]
  refine wpAnyH_take (i := 0) (v := .pointer (some ⟨R.b, 0, none⟩)) rfl (by kernel_rfl) (by kernel_rfl) (by kernel_rfl) (fun _ _ _ h => h) (Or.inl ⟨by rfl, fun w' hS => by go_simp⟩) hHeld ?_
  simp only [Act.put, List.getElem_toArray, List.getElem_cons_zero, List.getElem_cons_succ, List.setIfInBounds_toArray, List.set_cons_zero, List.set_cons_succ]
  refine wpAnyH_take (i := 1) (v := .pointer (some ⟨R.b, 0, none⟩)) rfl (by kernel_rfl) (by kernel_rfl) (by kernel_rfl) (fun _ _ _ h => h) (Or.inl ⟨by rfl, fun w' hS => by go_simp⟩) hHeld ?_
  simp only [Act.put, List.getElem_toArray, List.getElem_cons_zero, List.getElem_cons_succ, List.setIfInBounds_toArray, List.set_cons_zero, List.set_cons_succ]
  refine wpAnyH_take (i := 2) (v := .pointer (some ⟨R.b, 563, none⟩)) rfl (by kernel_rfl) (by kernel_rfl) (by kernel_rfl) (fun _ _ _ h => h) (Or.inl ⟨by rfl, fun w' hS => by go_simp⟩) hHeld ?_
  simp only [Act.put, List.getElem_toArray, List.getElem_cons_zero, List.getElem_cons_succ, List.setIfInBounds_toArray, List.set_cons_zero, List.set_cons_succ]
  refine wpAnyH_take (i := 3) (v := .slice R.va R.all.length R.vc) rfl (by kernel_rfl) (by kernel_rfl) (by kernel_rfl) (fun _ _ _ h => h) (Or.inl ⟨by rfl, fun w' hS => by (have h5 := H5.out w' hS; go_simp)⟩) hHeld ?_
  simp only [Act.put, List.getElem_toArray, List.getElem_cons_zero, List.getElem_cons_succ, List.setIfInBounds_toArray, List.set_cons_zero, List.set_cons_succ]
  refine wpAnyH_take (i := 4) (v := .int .i64 R.all.length) rfl (by kernel_rfl) (by kernel_rfl) (by kernel_rfl) (fun _ _ _ h => h) (Or.inl ⟨by rfl, fun w' hS => by go_simp⟩) hHeld ?_
  simp only [Act.put, List.getElem_toArray, List.getElem_cons_zero, List.getElem_cons_succ, List.setIfInBounds_toArray, List.set_cons_zero, List.set_cons_succ]
  refine wpAnyH_take (i := 5) (v := .int .i64 ((R.all.length : Int) + 1)) rfl (by kernel_rfl) (by kernel_rfl) (by kernel_rfl) (fun _ _ _ h => h) (Or.inl ⟨by rfl, fun w' hS => by go_simp⟩) hHeld ?_
  simp only [Act.put, List.getElem_toArray, List.getElem_cons_zero, List.getElem_cons_succ, List.setIfInBounds_toArray, List.set_cons_zero, List.set_cons_succ]
  refine wpAnyH_take (i := 6) (v := .int .i64 src) rfl (by kernel_rfl) (by kernel_rfl) (by kernel_rfl) (fun _ _ _ h => h) (Or.inl ⟨by rfl, fun w' hS => by go_simp⟩) hHeld ?_
  simp only [Act.put, List.getElem_toArray, List.getElem_cons_zero, List.getElem_cons_succ, List.setIfInBounds_toArray, List.set_cons_zero, List.set_cons_succ]
  refine wpAnyH_take (i := 7) (v := .int .i64 dst) rfl (by kernel_rfl) (by kernel_rfl) (by kernel_rfl) (fun _ _ _ h => h) (Or.inl ⟨by rfl, fun w' hS => by go_simp⟩) hHeld ?_
  simp only [Act.put, List.getElem_toArray, List.getElem_cons_zero, List.getElem_cons_succ, List.setIfInBounds_toArray, List.set_cons_zero, List.set_cons_succ]
  refine wpAnyH_take (i := 8) (v := .int .i64 due) rfl (by kernel_rfl) (by kernel_rfl) (by kernel_rfl) (fun _ _ _ h => h) (Or.inl ⟨by rfl, fun w' hS => by go_simp⟩) hHeld ?_
  simp only [Act.put, List.getElem_toArray, List.getElem_cons_zero, List.getElem_cons_succ, List.setIfInBounds_toArray, List.set_cons_zero, List.set_cons_succ]
  refine wpAnyH_take (i := 9) (v := .slice ao n c) rfl (by kernel_rfl) (by kernel_rfl) (by kernel_rfl) (fun _ _ _ h => h) (Or.inl ⟨by rfl, fun w' hS => by go_simp⟩) hHeld ?_
  simp only [Act.put, List.getElem_toArray, List.getElem_cons_zero, List.getElem_cons_succ, List.setIfInBounds_toArray, List.set_cons_zero, List.set_cons_succ]
  refine wpAnyH_ready (rs := [10, 12]) (by kernel_rfl) (by simp) ?_
  refine AllReadyH.cons rfl (fun K hK => ?_) (AllReadyH.cons rfl (fun K hK => ?_) AllReadyH.nil)
  · skip
    go_simp
    refine (HC.out _ hHeld).mono ?_
    rintro e w1 ⟨av, cv, rfl, ho, hb1⟩
    refine hK.out _ _ (bstep hHeld hb1) (fun hHeld => ?_)
    clear hK K
    refine wpAnyH_take (i := 11) (v := .agg #[.int .i64 ((R.all.length : Int) + 1), .int .i64 src, .int .i64 dst, .int .i64 due, .slice av n cv]) rfl (by kernel_rfl) (by kernel_rfl) (by kernel_rfl) (fun _ _ _ h => h) (Or.inl ⟨by rfl, fun w' hS => by go_simp⟩) hHeld ?_
    simp only [Act.put, List.getElem_toArray, List.getElem_cons_zero, List.getElem_cons_succ, List.setIfInBounds_toArray, List.set_cons_zero, List.set_cons_succ]
    refine wpAnyH_ready (rs := [12]) (by kernel_rfl) (by simp) ?_
    refine AllReadyH.cons rfl (fun K hK => ?_) AllReadyH.nil
    go_simp
    have hH1 := hHeld
    refine hK.out _ _ (balloc hHeld) (fun hHeld => ?_)
    clear hK K
    refine wpAnyH_ready (rs := [13]) (by kernel_rfl) (by simp) ?_
    refine AllReadyH.cons rfl (fun K hK => ?_) AllReadyH.nil
    go_simp
    refine hK.out _ _ (balloc hH1) (fun hHeld => ?_)
    clear hK K
    refine wpAnyH_done (by kernel_rfl) ?_ _
    have b6 := heap_alloc_new w1 (.cells #[.int .i64 ((R.all.length : Int) + 1), .int .i64 src, .int .i64 dst, .int .i64 due, .slice av n cv] 48)
    have hoF := World.ownsRow.alloc (own_lower (B' := w.heap.size) ho (by simp)) (.cells #[.int .i64 ((R.all.length : Int) + 1), .int .i64 src, .int .i64 dst, .int .i64 due, .slice av n cv] 48)
    have hH := balloc (o := .cells #[.int .i64 ((R.all.length : Int) + 1), .int .i64 src, .int .i64 dst, .int .i64 due, .slice av n cv] 48) hH1
    have hkf := hH1.size
    have hkl : w1.heap.size < (w1.alloc (.cells #[.int .i64 ((R.all.length : Int) + 1), .int .i64 src, .int .i64 dst, .int .i64 due, .slice av n cv] 48)).heap.size := by simp
    clear hHeld hH1 ho hb1
    revert b6 hoF hH hkf hkl
    generalize w1.alloc (.cells #[.int .i64 ((R.all.length : Int) + 1), .int .i64 src, .int .i64 dst, .int .i64 due, .slice av n cv] 48) = WF
    generalize w1.heap.size = kf
    intro b6 hoF hH hkf hkl
    go_wp2
    have v5 : WF.cell? ⟨R.b, 563, none⟩ = some (.slice R.va R.all.length R.vc) := H5.out _ hH
    have vA : ∀ o, (WF.alloc o).cell? ⟨R.b, 563, none⟩ = some (.slice R.va R.all.length R.vc) := fun o => H5.out _ (balloc hH)
    obtain ⟨q0, q1, q2, q3, q4⟩ := fl_cells b6
    have qA : ∀ o, (WF.alloc o).cell? ⟨kf, 0, none⟩ = some (.int .i64 ((R.all.length : Int) + 1)) := fun o => (((Below.refl WF.heap.size WF).alloc (Nat.le_refl _) o).cell hkl).trans q0
    have vz : WF.frozen? ⟨R.b, 563, none⟩ = false := (Hh.out.still hH).fz 563
    have hrow := (Hh.out.still hH).row
    have hne : ¬ R.b = kf := by omega
    have HO : Hid (WF.ownsRow w.heap.size 5 1 (.slice av n cv) n (bs.map (Value.int .u8))) := hoF
    have HH : Hid (Below w.heap.size w WF) := hH
    clear HC H5 b6 hoF
    go_region_law (refine step_append_lies _ (by rfl) _ _ 114 (by rfl) B 132 i0 (.agg #[.int .i64 0, .int .i64 0, .int .i64 0, .int .i64 0, .slice none 0 0, .bool false]) 6 64 Try.underlying114 hi hz0 hz1 hz2 (by rfl) (by omega) (.slice R.va R.all.length R.vc) R.all.length (pkCells R.all) (by rfl) (own_still hrow (by repeat (first | exact Below.refl _ _ | assumption | apply Below.drew | apply balloc))) _ 1 1 _ (by rfl) (by rfl) (World.news_of_block (heap_alloc_new _ _)) (by simp [Value.oneCell']) (by omega) (by unfold maxLen; omega) (by omega) (by first | (simp; omega) | omega) _ (by rfl) ?_; intro g3 cap3 w3 hown3 hgrow3 hat3 hlt3; obtain ⟨t6, tz, tk⟩ := rfar Hh.out (by repeat (first | exact Below.refl _ _ | assumption | apply Below.drew | apply balloc)) hgrow3; have t0 := tk kf 0 _ hkf (qA _); have P3 : Hid (Rtep w (w3.setCell ⟨R.b, 563, none⟩ (.slice (some ⟨g3, 0, none⟩) (R.all.length + 1) cap3)) R { R with va := some ⟨g3, 0, none⟩, vc := cap3, all := R.all ++ [⟨⟨R.all.length + 1, src, dst, due, av, n, cv, bs⟩, false⟩] } B) := (Rtep.push Hh.out hB (by repeat (first | exact Below.refl _ _ | assumption | apply Below.drew | apply balloc)) ⟨R.all.length + 1, src, dst, due, av, n, cv, bs⟩ (own_still HO.out (by repeat (first | exact Below.refl _ _ | assumption | apply Below.drew | apply balloc))) hrr hp g3 cap3 hown3 hgrow3 hat3); clear hown3 hgrow3 hat3 tk)
    all_goals (go_wp2; refine bodyPost_ret (v := .int .i64 (R.all.length + 1)) (by simp [results, Try.results96, go_sem]) rfl ⟨rfl, cv, av, _, _, P3.out⟩)
  · skip
    go_simp
    refine hK.out _ _ (balloc hHeld) (fun hHeld => ?_)
    clear hK K
    refine wpAnyH_ready (rs := [10]) (by kernel_rfl) (by simp) ?_
    refine AllReadyH.cons rfl (fun K hK => ?_) AllReadyH.nil
    go_simp
    refine (HC.out _ hHeld).mono ?_
    rintro e w1 ⟨av, cv, rfl, ho, hb1⟩
    refine hK.out _ _ (bstep hHeld hb1) (fun hHeld => ?_)
    clear hK K
    refine wpAnyH_take (i := 11) (v := .agg #[.int .i64 ((R.all.length : Int) + 1), .int .i64 src, .int .i64 dst, .int .i64 due, .slice av n cv]) rfl (by kernel_rfl) (by kernel_rfl) (by kernel_rfl) (fun _ _ _ h => h) (Or.inl ⟨by rfl, fun w' hS => by go_simp⟩) hHeld ?_
    simp only [Act.put, List.getElem_toArray, List.getElem_cons_zero, List.getElem_cons_succ, List.setIfInBounds_toArray, List.set_cons_zero, List.set_cons_succ]
    have R1 : Hid (Below w.heap.size w w1) := hHeld
    have HB3 : Hid (w1.heap[w.heap.size]? = some (.cells #[.int .i64 0, .int .i64 0, .int .i64 0, .int .i64 0, .slice none 0 0] 48 (0, 0))) := ((hb1.block _ (by simp)).trans (heap_alloc_new w _))
    obtain ⟨z0, z1, z2, z3, z4⟩ := fl_cells HB3.out
    obtain ⟨y0, y1, y2, y3, y4⟩ := fl_frz HB3.out
    have Ho : Hid (w1.ownsRow (w.heap.size + 1) 5 1 (.slice av n cv) n (bs.map (Value.int .u8))) := own_lower ho (by simp)
    clear ho hb1
    refine wpAnyH_ready (rs := [13]) (by kernel_rfl) (by simp) ?_
    refine AllReadyH.cons rfl (fun K hK => ?_) AllReadyH.nil
    go_simp
    refine hK.out _ _ (put5_below (k := w.heap.size) _ _ _ _ _ R1.out (Nat.le_refl _)) (fun hHeld => ?_)
    clear hK K
    refine wpAnyH_done (by kernel_rfl) ?_ _
    clear hHeld
    rw [put5_eq]
    have b6 := put5_blk (.int .i64 ((R.all.length : Int) + 1)) (.int .i64 src) (.int .i64 dst) (.int .i64 due) (.slice av n cv) HB3.out
    have hH := put5_below (k := w.heap.size) (.int .i64 ((R.all.length : Int) + 1)) (.int .i64 src) (.int .i64 dst) (.int .i64 due) (.slice av n cv) R1.out (Nat.le_refl _)
    have hoF := own_lower (B' := w.heap.size) ((put5_kept (W := w1) w.heap.size (.int .i64 ((R.all.length : Int) + 1)) (.int .i64 src) (.int .i64 dst) (.int .i64 due) (.slice av n cv)).owns Ho.out (fun q hq e => by have := (World.ownsRow.lt Ho.out q hq).1; omega)) (by omega)
    have hkf : w.heap.size ≤ w.heap.size := Nat.le_refl _
    have hkl := lt_heap b6
    revert b6 hoF hH hkf hkl
    generalize put5 w1 w.heap.size (.int .i64 ((R.all.length : Int) + 1)) (.int .i64 src) (.int .i64 dst) (.int .i64 due) (.slice av n cv) = WF
    intro b6 hH hoF hkf hkl
    go_wp2
    have v5 : WF.cell? ⟨R.b, 563, none⟩ = some (.slice R.va R.all.length R.vc) := H5.out _ hH
    have vA : ∀ o, (WF.alloc o).cell? ⟨R.b, 563, none⟩ = some (.slice R.va R.all.length R.vc) := fun o => H5.out _ (balloc hH)
    obtain ⟨q0, q1, q2, q3, q4⟩ := fl_cells b6
    have qA : ∀ o, (WF.alloc o).cell? ⟨w.heap.size, 0, none⟩ = some (.int .i64 ((R.all.length : Int) + 1)) := fun o => (((Below.refl WF.heap.size WF).alloc (Nat.le_refl _) o).cell hkl).trans q0
    have vz : WF.frozen? ⟨R.b, 563, none⟩ = false := (Hh.out.still hH).fz 563
    have hrow := (Hh.out.still hH).row
    have hne : ¬ R.b = w.heap.size := by omega
    have HO : Hid (WF.ownsRow w.heap.size 5 1 (.slice av n cv) n (bs.map (Value.int .u8))) := hoF
    have HH : Hid (Below w.heap.size w WF) := hH
    clear HC H5 b6 hoF
    go_region_law (refine step_append_lies _ (by rfl) _ _ 114 (by rfl) B 132 i0 (.agg #[.int .i64 0, .int .i64 0, .int .i64 0, .int .i64 0, .slice none 0 0, .bool false]) 6 64 Try.underlying114 hi hz0 hz1 hz2 (by rfl) (by omega) (.slice R.va R.all.length R.vc) R.all.length (pkCells R.all) (by rfl) (own_still hrow (by repeat (first | exact Below.refl _ _ | assumption | apply Below.drew | apply balloc))) _ 1 1 _ (by rfl) (by rfl) (World.news_of_block (heap_alloc_new _ _)) (by simp [Value.oneCell']) (by omega) (by unfold maxLen; omega) (by omega) (by first | (simp; omega) | omega) _ (by rfl) ?_; intro g3 cap3 w3 hown3 hgrow3 hat3 hlt3; obtain ⟨t6, tz, tk⟩ := rfar Hh.out (by repeat (first | exact Below.refl _ _ | assumption | apply Below.drew | apply balloc)) hgrow3; have t0 := tk w.heap.size 0 _ hkf (qA _); have P3 : Hid (Rtep w (w3.setCell ⟨R.b, 563, none⟩ (.slice (some ⟨g3, 0, none⟩) (R.all.length + 1) cap3)) R { R with va := some ⟨g3, 0, none⟩, vc := cap3, all := R.all ++ [⟨⟨R.all.length + 1, src, dst, due, av, n, cv, bs⟩, false⟩] } B) := (Rtep.push Hh.out hB (by repeat (first | exact Below.refl _ _ | assumption | apply Below.drew | apply balloc)) ⟨R.all.length + 1, src, dst, due, av, n, cv, bs⟩ (own_still HO.out (by repeat (first | exact Below.refl _ _ | assumption | apply Below.drew | apply balloc))) hrr hp g3 cap3 hown3 hgrow3 hat3); clear hown3 hgrow3 hat3 tk)
    all_goals (go_wp2; refine bodyPost_ret (v := .int .i64 (R.all.length + 1)) (by simp [results, Try.results96, go_sem]) rfl ⟨rfl, cv, av, _, _, P3.out⟩)
end
end Go.Proofs.Ythogcanfinjfdaa.Et
