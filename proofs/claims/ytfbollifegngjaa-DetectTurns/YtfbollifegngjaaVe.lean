import Derived.Test.YtfbollifegngjaaVd
namespace Go.Proofs.Ytfbollifegngjaa.Dt
open Go.RowKit
set_option linter.unusedVariables false
set_option maxRecDepth 100000
set_option linter.unusedSimpArgs false
section
variable {D D' : De} {w w' W : World} {B m : Nat}
theorem ptr_eql (w : World) (a : Option Addr) : (binOp .eql 70 (.pointer a) (.pointer none)).run Try.prog w = .ok (.bool a.isNone) w := by
  cases a <;> rfl
def De.isI (D : De) (q : Int) : Bool := decide (0 ≤ q ∧ q < D.n ∧ q ≠ D.self)
theorem other_is (h : D.Ok w B m) (q : Int) : Calls Try.prog 24 #[.pointer (some ⟨D.b, 0, none⟩), .int .i64 q] w fun e w' => e = .returned (.pointer (if D.isI q then some ⟨D.bo q.toNat, 0, none⟩ else none)) ∧ w = w' := by
  refine (other_any h q).mono ?_
  rintro e w' ⟨rfl, rfl⟩
  refine ⟨?_, rfl⟩
  congr 1
  by_cases h1 : 0 ≤ q ∧ q < D.n
  · rw [if_pos h1]
    unfold optr De.isI
    by_cases h2 : q.toNat = D.self
    · rw [if_pos h2, decide_eq_false (by omega)]; rfl
    · rw [if_neg h2, decide_eq_true (by omega)]; rfl
  · rw [if_neg h1]
    unfold De.isI
    rw [decide_eq_false (by omega)]; rfl
theorem isI_is {q : Int} (h : D.isI q = true) : D.is q.toNat ∧ q = (q.toNat : Int) := by
  have := of_decide_eq_true h
  exact ⟨⟨by omega, by omega⟩, by omega⟩
def De.known (D : De) (q : Int) : Int := if q = D.self then D.inc else if D.isI q then (D.pe q.toNat).known else 0
def De.timeout (D : De) (q : Int) : Int := if D.isI q then (D.pe q.toNat).ticks else 0
def De.wrong (D : De) (q : Int) : Int := if D.isI q then (D.pe q.toNat).wrong else 0
set_option maxHeartbeats 400000 in
theorem wrong_any (h : D.Ok w B m) (q : Int) : Calls Try.prog 39 #[.pointer (some ⟨D.b, 0, none⟩), .int .i64 q] w fun e w' => e = .returned (.int .i64 (D.wrong q)) ∧ w = w' := by
  have HO := other_is h q
  unfold De.wrong
  cases hq : D.isI q with
  | false =>
    rw [hq] at HO
    simp only [if_false, Bool.false_eq_true] at HO ⊢
    clear h
    go_enter Try.func39, Try.ntmps39
    go_wp2_with (first | (go_at_call 24; refine HO.mono ?_; rintro e w' ⟨rfl, rfl⟩) | fail)
    go_ret
    exact ⟨rfl, rfl⟩
  | true =>
    rw [hq] at HO
    simp only [if_true] at HO ⊢
    obtain ⟨_, o1, _, _, o4, o5, o6⟩ := h.co (isI_is hq).1
    clear h
    go_enter Try.func39, Try.ntmps39
    go_wp2_with (first | (go_at_call 24; refine HO.mono ?_; rintro e w' ⟨rfl, rfl⟩) | fail)
    go_ret
    exact ⟨rfl, rfl⟩
set_option maxHeartbeats 400000 in
theorem timeout_any (h : D.Ok w B m) (q : Int) : Calls Try.prog 37 #[.pointer (some ⟨D.b, 0, none⟩), .int .i64 q] w fun e w' => e = .returned (.int .i64 (D.timeout q)) ∧ w = w' := by
  have HO := other_is h q
  unfold De.timeout
  cases hq : D.isI q with
  | false =>
    rw [hq] at HO
    simp only [if_false, Bool.false_eq_true] at HO ⊢
    clear h
    go_enter Try.func37, Try.ntmps37
    go_wp2_with (first | (go_at_call 24; refine HO.mono ?_; rintro e w' ⟨rfl, rfl⟩) | fail)
    go_ret
    exact ⟨rfl, rfl⟩
  | true =>
    rw [hq] at HO
    simp only [if_true] at HO ⊢
    obtain ⟨o0, _⟩ := h.co (isI_is hq).1
    have HL := howLong_any h (isI_is hq).1
    have hm : ∀ w, (method 219 89 (.pointer (some ⟨D.bt q.toNat, 0, none⟩)) "quorate/detect.howLong").run Try.prog w = .ok (73, .pointer (some ⟨D.bt q.toNat, 0, none⟩)) w := fun _ => by kernel_rfl
    clear h
    go_enter Try.func37, Try.ntmps37
    go_wp2_with (first | (go_at_call 24; refine HO.mono ?_; rintro e w' ⟨rfl, rfl⟩) | (go_at_call 73; refine HL.mono ?_; rintro e w' ⟨rfl, rfl⟩) | fail)
    go_ret
    exact ⟨rfl, rfl⟩
set_option maxHeartbeats 400000 in
theorem known_any (h : D.Ok w B m) (q : Int) : Calls Try.prog 14 #[.pointer (some ⟨D.b, 0, none⟩), .int .i64 q] w fun e w' => e = .returned (.int .i64 (D.known q)) ∧ w = w' := by
  have HO := other_is h q
  have c0 := h.c0
  have c1 := h.c1
  unfold De.known
  by_cases hs : q = D.self
  · rw [if_pos hs]
    have hs' : decide (q = (D.self : Int)) = true := decide_eq_true hs
    clear h
    subst hs
    go_enter Try.func14, Try.ntmps14
    go_wp2
    go_ret
    exact ⟨rfl, rfl⟩
  · rw [if_neg hs]
    cases hq : D.isI q with
    | false =>
      rw [hq] at HO
      simp only [if_false, Bool.false_eq_true] at HO ⊢
      clear h
      go_enter Try.func14, Try.ntmps14
      go_wp2_with (first | (go_at_call 24; refine HO.mono ?_; rintro e w' ⟨rfl, rfl⟩) | fail)
      go_ret
      exact ⟨rfl, rfl⟩
    | true =>
      rw [hq] at HO
      simp only [if_true] at HO ⊢
      obtain ⟨_, o1, _, _, o4, o5, o6⟩ := h.co (isI_is hq).1
      clear h
      go_enter Try.func14, Try.ntmps14
      go_wp2_with (first | (go_at_call 24; refine HO.mono ?_; rintro e w' ⟨rfl, rfl⟩) | fail)
      go_ret
      exact ⟨rfl, rfl⟩
set_option maxHeartbeats 400000 in
theorem beat_any (h : D.Ok w B m) : Calls Try.prog 7 #[.pointer (some ⟨D.b, 0, none⟩)] w fun e w' => ∃ v, e = .returned (.agg #[.int .i64 D.tick, v]) ∧ IsI w w' D.n D.hears v := by
  have c2 := h.c2
  generalize hW : w.alloc (.cells #[.int .i64 0, .slice none 0 0] 38) = W
  have hbW : Below w.heap.size w W := by rw [← hW]; exact balloc (Below.refl _ w)
  have hblk : W.heap[w.heap.size]? = some (.cells #[.int .i64 0, .slice none 0 0] 38 (0, 0)) := by rw [← hW]; exact heap_alloc_new w _
  have HI : Hid (∀ w1, Below W.heap.size W w1 → Calls Try.prog 23 #[.pointer (some ⟨D.b, 0, none⟩)] w1 fun e w' => ∃ v, e = .returned v ∧ IsI w1 w' D.n D.hears v) := fun w1 hb => hears_any ((h.still hbW).still hb)
  have d2 := (h.still hbW).c2
  have Hb : Hid (Below w.heap.size w W) := hbW
  have Hk : Hid (W.heap[w.heap.size]? = some (.cells #[.int .i64 0, .slice none 0 0] 38 (0, 0))) := hblk
  clear h hbW hblk
  go_enter Try.func7, Try.ntmps7
  go_wp2
  go_region_law (first | (go_simp; go_at_call 23; refine (HI.out _ (by repeat (first | exact Below.refl _ _ | apply Below.drew))).mono ?_; rintro e w2 ⟨v, rfl, g, rfl, h1, h2, h3⟩; have B2 : Hid (Below W.heap.size W w2) := (bstep (by repeat (first | exact Below.refl _ _ | apply Below.drew)) h3); have hk2 := (B2.out.block _ (lt_heap Hk.out)).trans Hk.out; have t2 := below_at B2.out d2; have q0 := blk_cell hk2 0; have q1 := blk_cell hk2 1; have z0 := frozen_of_row w2 _ 0 _ _ hk2; have z1 := frozen_of_row w2 _ 1 _ _ hk2; have Hk2 : Hid (w2.heap[w.heap.size]? = some (.cells #[.int .i64 0, .slice none 0 0] 38 (0, 0))) := hk2; clear hk2) | fail)
  all_goals
    go_wp2
    have hlt := lt_heap Hk.out
    have hg : w.heap.size < g := by simp at h1; omega
    have b1 := bset (bset (bstep Hb.out B2.out) (Nat.le_refl _) 0 (.int .i64 D.tick)) (Nat.le_refl _) 1 (.slice (some ⟨g, 0, none⟩) D.n D.n)
    have b2 : ((w2.setCell ⟨w.heap.size, 0, none⟩ (.int .i64 D.tick)).setCell ⟨w.heap.size, 1, none⟩ (.slice (some ⟨g, 0, none⟩) D.n D.n)).heap[w.heap.size]? = some (.cells #[.int .i64 D.tick, .slice (some ⟨g, 0, none⟩) D.n D.n] 38 (0, 0)) := blk_set (blk_set Hk2.out rfl) rfl
    have r0 := blk_cell b2 0
    have r1 := blk_cell b2 1
    have h2' : BlkI ((w2.setCell ⟨w.heap.size, 0, none⟩ (.int .i64 D.tick)).setCell ⟨w.heap.size, 1, none⟩ (.slice (some ⟨g, 0, none⟩) D.n D.n)) g D.hears := blk_set_ne (blk_set_ne h2 (by omega)) (by omega)
    generalize ((w2.setCell ⟨w.heap.size, 0, none⟩ (.int .i64 D.tick)).setCell ⟨w.heap.size, 1, none⟩ (.slice (some ⟨g, 0, none⟩) D.n D.n)) = V at *
    refine bodyPost_ret (v := .agg #[.int .i64 D.tick, .slice (some ⟨g, 0, none⟩) D.n D.n]) (by simp [results, Try.results7, go_sem, r0, r1]) rfl ⟨_, rfl, g, rfl, by omega, ?_, ?_⟩
    · first | exact h2' | exact h2'.still (Below.refl _ _).drew
    · first | exact b1 | exact b1.drew
def susN (D : De) (k : Nat) : List Int := ((List.range k).filter fun q => decide (q ≠ D.self) && (!(D.pe q).heard && decide (0 < (D.pe q).known))).map fun (q : Nat) => (q : Int)
def De.sus (D : De) : List Int := susN D D.n
theorem susN_next (D : De) (k : Nat) : susN D (k + 1) = susN D k ++ (if (decide (k ≠ D.self) && (!(D.pe k).heard && decide (0 < (D.pe k).known))) = true then [(k : Int)] else []) := by
  unfold susN
  rw [List.range_succ, List.filter_append, List.map_append]
  congr 1
  by_cases h : (decide (k ≠ D.self) && (!(D.pe k).heard && decide (0 < (D.pe k).known))) = true
  · rw [if_pos h, List.filter_cons, if_pos h]; rfl
  · rw [if_neg h, List.filter_cons, if_neg h]; rfl
theorem susN_le (D : De) (k : Nat) : (susN D k).length ≤ k := by
  unfold susN
  rw [List.length_map]
  exact Nat.le_trans (List.length_filter_le _ _) (by simp)
set_option maxHeartbeats 1000000 in
theorem sus_any (h : D.Ok w B m) : Calls Try.prog 48 #[.pointer (some ⟨D.b, 0, none⟩)] w fun e w' => ∃ v, e = .returned v ∧ w'.ownsRow w.heap.size 3 1 v D.sus.length (ints D.sus) ∧ Below w.heap.size w w' := by
  obtain ⟨i0, hi, hz0, hz1, hz2⟩ := info_parts info_i
  have h16 := h.n16
  have c4 := h.c4
  have Hh : Hid (D.Ok w B m) := h
  clear h
  unfold De.sus
  go_enter Try.func48, Try.ntmps48
  go_wp2
  go_loopw [3, 11] (fun v i wr => ∃ k : Nat, k ≤ D.n ∧ i = .int .i64 k ∧ wr.ownsRow w.heap.size 3 1 v (susN D k).length (ints (susN D k)) ∧ Below w.heap.size w wr) (fun _ i _ => D.n - (intOf i).toNat)
  case atStart => exact ⟨0, Nat.zero_le _, rfl, ⟨rfl, .inl ⟨rfl, rfl⟩⟩, Below.refl _ _⟩
  case round =>
    obtain ⟨k, hk, rfl, ho, hb⟩ := hrel
    have hR := Hh.out.still hb
    by_cases hlt : k < D.n
    · have c0 : wr.cell? ⟨D.br, k, none⟩ = some (optr D k) := hR.cr (q := k) hlt
      have hnx := susN_next D k
      have hll := susN_le D k
      have HO : Hid (wr.ownsRow w.heap.size 3 1 u3 (susN D k).length (ints (susN D k))) := ho
      have HB : Hid (Below w.heap.size w wr) := hb
      have i1 : (0 : Int) ≤ (k : Int) := Int.natCast_nonneg _
      have i2 : (k : Int) < (D.n : Int) := by omega
      have hsz := hb.size
      by_cases hsf : k = D.self
      · have c0' : wr.cell? ⟨D.br, k, none⟩ = some (.pointer none) := by rw [c0]; simp [optr, hsf]
        rw [if_neg (by simp [hsf]), List.append_nil] at hnx
        have Hnx : Hid (susN D (k + 1) = susN D k) := hnx
        clear c0 hsf ho hb hR hnx
        go_wp2
        go_roundw
        case rel => exact ⟨k + 1, by omega, by go_num, by rw [Hnx.out]; exact HO.out, HB.out⟩
        case measure => simp [intOf]; omega
      · have hq : D.is k := ⟨hlt, hsf⟩
        have c0' : wr.cell? ⟨D.br, k, none⟩ = some (.pointer (some ⟨D.bo k, 0, none⟩)) := by rw [c0]; simp [optr, hsf]
        have HS := suspected_any hR hq
        rw [decide_eq_true hsf, Bool.true_and] at hnx
        generalize (!(D.pe k).heard && decide (0 < (D.pe k).known)) = bb at HS hnx
        clear c0 hsf ho hb hR hq
        cases bb with
        | false =>
          rw [if_neg (by simp), List.append_nil] at hnx
          have Hnx : Hid (susN D (k + 1) = susN D k) := hnx
          clear hnx
          go_wp2_with (first | (go_at_call 54; refine HS.mono ?_; rintro e w' ⟨rfl, rfl⟩) | fail)
          go_roundw
          case rel => exact ⟨k + 1, by omega, by go_num, by rw [Hnx.out]; exact HO.out, HB.out⟩
          case measure => simp [intOf]; omega
        | true =>
          rw [if_pos rfl] at hnx
          have hint : Hid (ints (susN D (k + 1)) = ints (susN D k) ++ [.int .i64 k] ∧ (susN D (k + 1)).length = (susN D k).length + 1) := by rw [hnx]; exact ⟨by simp [ints], by simp⟩
          clear hnx
          generalize susN D k = LN at HO hint hll
          generalize hI : ints LN = I at HO hint
          go_wp2_with (first
            | (go_at_call 54; refine HS.mono ?_; rintro e w' ⟨rfl, rfl⟩)
            | (at_builtin; refine wpList_append_lies _ rfl _ _ 25 rfl w.heap.size 3 i0 (.int .i64 0) 1 8 Try.underlying25 hi hz0 hz1 hz2 rfl (by omega) u3 LN.length I rfl (World.ownsRow.alloc HO.out _) _ 1 1 _ rfl rfl (World.news_of_block (heap_alloc_new _ _)) (by simp [Value.oneCell']) (by omega) (by unfold maxLen; omega) (by omega) (by simp; omega) _ rfl ?_; intro g3 cap3 w3 hown3 hgrow3 hat3 hlt3)
            | fail)
          go_roundw
          case rel =>
            refine ⟨k + 1, by omega, by go_num, by rw [hint.out.1, hint.out.2]; simpa using hown3, ?_⟩
            exact (balloc HB.out).grown hgrow3 (by simp; omega) (fun q hq => (World.ownsRow.lt HO.out q hq).1)
          case measure => simp [intOf]; omega
    · obtain rfl : k = D.n := by omega
      clear hR
      go_wp2
      go_ret
      exact ⟨_, rfl, ho, hb⟩
end
end Go.Proofs.Ytfbollifegngjaa.Dt
