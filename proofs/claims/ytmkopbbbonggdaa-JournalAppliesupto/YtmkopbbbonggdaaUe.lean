import Derived.Test.YtmkopbbbonggdaaUc
namespace Go.Proofs.Ytmkopbbbonggdaa.Fg
open Go.RowKit Mb
set_option linter.unusedVariables false
set_option maxRecDepth 100000
set_option linter.unusedSimpArgs false
section
variable {w w' W : World} {B : Nat}
def mark (i : Nat) : Int := 90 + (i : Int)
def marks (k : Nat) : List Int := (List.range k).map mark
theorem marks_succ (k : Nat) : marks (k + 1) = marks k ++ [mark k] := by simp [marks, List.range_succ]
theorem marks_len (k : Nat) : (marks k).length = k := by simp [marks]
theorem marks_by : By (marks 64) := By.of fun x hx => by
  obtain ⟨i, hi, rfl⟩ := List.mem_map.1 hx
  have := List.mem_range.1 hi
  unfold mark
  omega
theorem marks_at (i : Nat) (h : i < 64) : (marks 64).getD i 0 = 90 + (i : Int) := by simp [marks, List.getD, h, mark]
theorem own_push {base n : Nat} {v : Value} {bs : List Int} {x : Int} (hn : n = bs.length + 1) (h : w.ownsRow base 5 1 v n (byts bs ++ [.int .u8 x])) : Own w base v (bs ++ [x]) := by
  unfold Own
  subst hn
  simpa [byts] using h
theorem below_push {w wr w' : World} {base : Nat} {v : Value} {bs : List Int} {o : Obj} (hbel : Below base w wr) (hb : base ≤ wr.heap.size) (ho : Own wr base v bs) (hg : (wr.alloc o).grownBy w' v.ownBlock) : Below base w w' :=
  (hbel.alloc hb o).grown hg (by simp; omega) (fun k hk => (ho.lt k hk).1)
theorem wpList_append_rd {ops : Array Oper} {rest : List Oper} {o : Oper} {a : Act} {Q : Exit → Act → World → Prop} (hgd : o.guard = none) (s x : Operand)
    (ho : o.op = .call { callee := .builtin .append, args := #[s, x], argTypes := #[22, 22] })
    (base : Nat) (v : Value) (xs bs : List Int) (hs : a.eval s = v) (hown : Own w base v xs)
    (ao : Option Addr) (m c : Nat) (hx : a.eval x = .slice ao m c) (hr : Rd w ao m c bs)
    (hbytes : xs.length + m ≤ 140737488355328) (hbase : base ≤ w.heap.size)
    (h : ∀ v' w', Own w' base v' (xs ++ bs) → w.grownBy w' v.ownBlock → wpList Try.prog ops Q rest (a.put o.dst v') w') : wpList Try.prog ops Q (o :: rest) a w := by
  obtain ⟨si, shi, shz0, shz1, shz2⟩ := byte_info
  have hl := hr.len
  cases ao with
  | some ad => exact wpList_append_own w hgd s x 22 ho base 5 si (.int .u8 0) 1 1 Try.underlying22 shi shz0 shz1 shz2 rfl (by decide) v xs.length (byts xs) hs hown ad m c (byts bs) hx (by rw [byts_len]; omega) (hr.news ad rfl) (byts_one bs) (by unfold maxLen; omega) (by omega) hbase fun v' w' h2 h3 _ => h v' w' (by unfold Own; rw [byts_app, List.length_append, hl]; exact h2) h3
  | none =>
    obtain rfl := hr.nil rfl
    obtain rfl : m = 0 := by have := hr.cap; omega
    obtain rfl := hr.nil'
    exact wpList_append_own_none hgd s x 22 ho base 5 si 1 Try.underlying22 shi v xs.length (byts xs) hs hown hx (h v w (by simpa using hown) (World.grownBy.refl _ _))
set_option maxHeartbeats 1000000 in
theorem spare_any {ao : Option Addr} {n c : Nat} {bs : List Int} (hr : Rd w ao n c bs) (hlen : n ≤ 140737488355264) :
    Calls Try.prog 4 #[.slice ao n c] w fun e w' => ∃ g c', e = .returned (.slice (some ⟨g, 0, none⟩) n c') ∧ n + 64 ≤ c' ∧ w.heap.size ≤ g ∧ Own w' w.heap.size (.slice (some ⟨g, 0, none⟩) (n + 64) c') (bs ++ marks 64) ∧ Below w.heap.size w w' := by
  obtain ⟨si, shi, shz0, shz1, shz2⟩ := byte_info
  have Hr : Hid (Rd w ao n c bs) := hr
  have hlb := hr.len
  clear hr
  go_enter Try.func4, Try.ntmps4
  go_wp2_with (first
    | (at_builtin; refine wpList_append_rd rfl _ _ rfl w.heap.size _ [] bs rfl (own_zero _ _) _ _ _ rfl Hr.out (by simp; omega) (Nat.le_refl _) ?_)
    | fail)
  intro v' w2 hown' hgrow
  have HO : Hid (Own w2 w.heap.size v' bs) := hown'
  have HB : Hid (Below w.heap.size w w2) := (Below.refl _ _).grown hgrow (Nat.le_refl _) (fun k hk => by simp [Value.ownBlock] at hk)
  clear hown' hgrow
  go_wp2
  go_loopw [3, 4] (fun v i wr => ∃ k : Nat, k ≤ 64 ∧ i = .int .i64 k ∧ Own wr w.heap.size v (bs ++ marks k) ∧ Below w.heap.size w wr) (fun _ i _ => 64 - (intOf i).toNat)
  case atStart => exact ⟨0, Nat.zero_le _, rfl, by simpa [marks] using HO.out, HB⟩
  case round =>
    obtain ⟨k, hk, rfl, ho, hbel⟩ := hrel
    have hml := marks_len k
    by_cases hlt : k < 64
    · go_wp2_with (first
        | (at_builtin; refine wpList_append_own _ rfl _ _ 22 rfl w.heap.size 5 si (.int .u8 0) 1 1 Try.underlying22 shi shz0 shz1 shz2 rfl (by decide) _ _ _ rfl (World.ownsRow.alloc ho _) ⟨wr.heap.size, 0, none⟩ 1 1 [.int .u8 (mark k)] rfl rfl ?d1 ?d2 ?d3 ?d4 ?d5 ?_)
        | fail)
      case d1 => exact cell_one_new _ _ _
      case d2 => intro x hx; simp at hx; subst hx; rfl
      case d3 => simp [marks_len]; unfold maxLen; omega
      case d4 => simp [marks_len]; omega
      case d5 => have := hbel.size; simp; omega
      intro v3 w3 hown3 hgrow3 _
      have HO3 : Hid (Own w3 w.heap.size v3 (bs ++ marks (k + 1))) := (show Own w3 w.heap.size v3 (bs ++ marks (k + 1)) from by rw [marks_succ, ← List.append_assoc]; exact own_push (by rw [List.length_append, hml, hlb]) hown3)
      have HB3 : Hid (Below w.heap.size w w3) := below_push hbel (by have := hbel.size; omega) ho hgrow3
      clear hown3 hgrow3 ho hbel
      go_wp2
      go_roundw
      case rel => exact ⟨k + 1, by omega, by go_num, HO3, HB3⟩
      case measure => simp [intOf]; omega
    · obtain rfl : k = 64 := by omega
      obtain ⟨a, c1, hv, hs⟩ := ho.shape
      have hl2 : (bs ++ marks 64).length = n + 64 := by rw [List.length_append, hml, hlb]
      rw [hl2] at hv hs
      rcases hs with ⟨_, h2, _⟩ | ⟨g, rfl, hg, hc1⟩
      · exfalso
        rw [h2] at hl2
        simp at hl2
      · subst hv
        have Ho : Hid (Own wr w.heap.size (.slice (some ⟨g, 0, none⟩) (n + 64) c1) (bs ++ marks 64)) := ho
        have Hb : Hid (Below w.heap.size w wr) := hbel
        clear ho hbel
        go_wp2
        go_ret
        exact ⟨g, c1, rfl, hc1, hg, Ho.out, Hb.out⟩
theorem sp_cell {base g c n : Nat} {bs ms : List Int} (h : Own w base (.slice (some ⟨g, 0, none⟩) n c) (bs ++ ms)) {i : Nat} (hi : i < (bs ++ ms).length) : w.cell? ⟨g, i, none⟩ = some (.int .u8 ((bs ++ ms).getD i 0)) := by
  obtain ⟨a', c', hv, hs⟩ := h.shape
  simp only [Value.slice.injEq] at hv
  obtain ⟨rfl, rfl, rfl⟩ := hv
  exact h.cell hi
theorem Own.rdPre {base g c n m : Nat} {bs ms : List Int} (h : Own w base (.slice (some ⟨g, 0, none⟩) n c) (bs ++ ms)) (hb : By bs) (hm : bs.length = m) (hc : m ≤ c) : Rd w (some ⟨g, 0, none⟩) m c bs := by
  refine ⟨hm, hc, by simp, .inr ⟨g, 0, rfl, fun i hi => ?_⟩, hb⟩
  rw [Nat.zero_add, sp_cell h (by rw [List.length_append]; omega)]
  simp [List.getD, List.getElem?_append, show i < bs.length by omega]
set_option maxHeartbeats 1000000 in
theorem intact_any {base g c : Nat} {ao : Option Addr} {n cb : Nat} {bs : List Int} (h : Own w base (.slice (some ⟨g, 0, none⟩) (n + 64) c) (bs ++ marks 64)) (hc : n + 64 ≤ c) (hr : Rd w ao n cb bs) (hlen : n ≤ 140737488355264) :
    Calls Try.prog 10 #[.slice (some ⟨g, 0, none⟩) n c, .slice ao n cb] w fun e w' => e = .returned (.bool true) ∧ w = w' := by
  have HS : Hid (Calls Try.prog 15 #[.slice (some ⟨g, 0, none⟩) n c, .slice ao n cb] w fun e w' => e = .returned (.bool true) ∧ w = w') := same_any (h.rdPre hr.by_ hr.len (by omega)) hr
  have HC : Hid (∀ i : Nat, i < 64 → w.cell? ⟨g, n + i, none⟩ = some (.int .u8 (90 + (i : Int)))) := fun i hi => by
    rw [sp_cell h (by rw [List.length_append, marks_len]; have := hr.len; omega)]
    have e : (bs ++ marks 64).getD (n + i) 0 = (marks 64).getD i 0 := by
      simp [List.getD, List.getElem?_append, ← hr.len, show ¬ bs.length + i < bs.length by omega]
    rw [e, marks_at i hi]
  clear h hr
  go_enter Try.func10, Try.ntmps10
  go_wp2
  go_loop [6] (fun i => ∃ k : Nat, k ≤ 64 ∧ i = .int .i64 k) (fun i => 64 - (intOf i).toNat)
  case atStart => exact ⟨0, Nat.zero_le _, rfl⟩
  case round =>
    obtain ⟨k, hk, rfl⟩ := hrel
    by_cases hlt : k < 64
    · have hx := HC.out k hlt
      go_wp2
      go_round
      case rel => exact ⟨k + 1, by omega, by go_num⟩
      case measure => simp [intOf]; omega
    · obtain rfl : k = 64 := by omega
      go_wp2_with (first | (go_at_call 15; refine HS.out.mono ?_; rintro e w2 ⟨rfl, rfl⟩) | fail)
      go_ret
      exact ⟨rfl, rfl⟩
set_option maxHeartbeats 1000000 in
theorem full_any {g t n c : Nat} {x : Int} (h : ∃ C : Array Value, w.heap[g]? = some (.cells C t (0, 0)) ∧ n ≤ C.size) (hn : n ≤ 140737488355328) :
    Calls Try.prog 11 #[.slice (some ⟨g, 0, none⟩) n c, .int .u8 x] w fun e w' => e = .returned (.tuple #[]) ∧ Kept w w' (fun k => k = g) := by
  have Hh : Hid (∃ C : Array Value, w.heap[g]? = some (.cells C t (0, 0)) ∧ n ≤ C.size) := h
  clear h
  go_enter Try.func11, Try.ntmps11
  go_wp2
  go_loopw [4] (fun i wr => ∃ k : Nat, k ≤ n ∧ i = .int .i64 k ∧ (∃ C : Array Value, wr.heap[g]? = some (.cells C t (0, 0)) ∧ n ≤ C.size) ∧ Kept w wr (fun k => k = g)) (fun i _ => n - (intOf i).toNat)
  case atStart => exact ⟨0, Nat.zero_le _, rfl, Hh, Kept.refl _ _⟩
  case round =>
    obtain ⟨k, hk, rfl, ⟨C, hC, hCs⟩, hkp⟩ := hrel
    by_cases hlt : k < n
    · have hx : wr.cell? ⟨g, k, none⟩ = some C[k] := by rw [blk_cell hC k]; simp [show k < C.size by omega]
      have hf : wr.frozen? ⟨g, k, none⟩ = false := frozen_of_row wr _ k _ _ hC
      have HN : Hid (∃ C' : Array Value, (wr.setCell ⟨g, k, none⟩ (.int .u8 x)).heap[g]? = some (.cells C' t (0, 0)) ∧ n ≤ C'.size) := ⟨_, blk_set hC rfl, by simpa using hCs⟩
      have HK : Hid (Kept w (wr.setCell ⟨g, k, none⟩ (.int .u8 x)) (fun k => k = g)) := hkp.trans (kset wr g k _ rfl)
      generalize C[k] = y at hx
      clear hC hCs hkp
      go_wp2
      go_roundw
      case rel => exact ⟨k + 1, by omega, by go_num, HN, HK⟩
      case measure => simp [intOf]; omega
    · obtain rfl : k = n := by omega
      clear hC hCs
      go_wp2
      go_end0
      exact ⟨rfl, hkp⟩
end
end Go.Proofs.Ytmkopbbbonggdaa.Fg
