import Derived.Test.YtdegjhkjmgimpaaV20
namespace Go.Proofs.Ytdegjhkjmgimpaa.Mb
open Go.RowKit
set_option linter.unusedVariables false
set_option maxRecDepth 100000
set_option linter.unusedSimpArgs false
section
variable {A A' : Ag} {w w' W : World} {B : Nat} {T : Int}
def Ag.wlN (A : Ag) (f : Nat → Bool) (k : Nat) : List Int := ((List.range k).filter fun q => A.own.set.getD q 0 != 0 && f q).map (fun q : Nat => (q : Int))
def Ag.wl (A : Ag) (f : Nat → Bool) : List Int := A.wlN f A.n
theorem wlN_next (A : Ag) (f : Nat → Bool) (k : Nat) : A.wlN f (k + 1) = A.wlN f k ++ (if (A.own.set.getD k 0 != 0 && f k) = true then [(k : Int)] else []) := by
  unfold Ag.wlN
  rw [List.range_succ, List.filter_append, List.map_append]
  congr 1
  by_cases h : (A.own.set.getD k 0 != 0 && f k) = true
  · rw [if_pos h]; simp only [List.filter, h]; rfl
  · rw [if_neg h]; simp only [List.filter, Bool.eq_false_iff.2 h]; rfl
theorem wlN_le (A : Ag) (f : Nat → Bool) (k : Nat) : (A.wlN f k).length ≤ k := by
  unfold Ag.wlN
  rw [List.length_map]
  exact Nat.le_trans (List.length_filter_le _ _) (by simp)
set_option maxHeartbeats 2000000 in
theorem wanted_apart (h : A.Ok w B T) (ka : Nat) (c0 : w.cell? ⟨ka, 0, none⟩ = some (.pointer (some ⟨A.b, 0, none⟩))) : Calls Try.prog 36 #[.pointer (some ⟨A.b, 0, none⟩), .func (.func 35) #[] #[.pointer (some ⟨ka, 0, none⟩)]] w fun e w' => ∃ v, e = .returned v ∧ w'.ownsRow w.heap.size 3 1 v (A.wl (A.apart)).length (ints (A.wl (A.apart))) ∧ Below w.heap.size w w' := by
  obtain ⟨i0, hi, hz0, hz1, hz2⟩ := info_parts info_i
  have h16 := h.n16
  have c1 := h.c0
  have Hh : Hid (A.Ok w B T) := h
  have C0 : Hid (w.cell? ⟨ka, 0, none⟩ = some (.pointer (some ⟨A.b, 0, none⟩))) := c0
  clear c0
  clear h
  go_enter Try.func36, Try.ntmps36
  go_wp2
  go_loopw [5, 11] (fun v i wr => ∃ k : Nat, k ≤ A.n ∧ i = .int .i64 k ∧ wr.ownsRow w.heap.size 3 1 v (A.wlN (A.apart) k).length (ints (A.wlN (A.apart) k)) ∧ Below w.heap.size w wr) (fun _ i _ => A.n - (intOf i).toNat)
  case atStart => exact ⟨0, Nat.zero_le _, rfl, ⟨rfl, .inl ⟨rfl, rfl⟩⟩, Below.refl _ _⟩
  case round =>
    obtain ⟨k, hk, rfl, ho, hb⟩ := hrel
    have hR := Hh.out.still hb
    by_cases hlt : k < A.n
    · have hnx := wlN_next A (A.apart) k
      have hll := wlN_le A (A.apart) k
      have HO : Hid (wr.ownsRow w.heap.size 3 1 u5 (A.wlN (A.apart) k).length (ints (A.wlN (A.apart) k))) := ho
      have HB : Hid (Below w.heap.size w wr) := hb
      have i1 : (0 : Int) ≤ (k : Int) := Int.natCast_nonneg _
      have i2 : (k : Int) < (A.n : Int) := by omega
      have i3 : (k : Int) < 16 := by omega
      have hsz := hb.size
      have d0 : wr.cell? ⟨A.b, 2 + k, none⟩ = some (.int .i64 (A.own.set.getD k 0)) := by rw [hR.own_c k (by omega), hR.ol.at_set k (by omega)]
      have HC : Hid (Calls Try.prog 35 #[.int .i64 k, .pointer (some ⟨ka, 0, none⟩)] wr fun e w' => e = .returned (.bool (A.apart k)) ∧ Below wr.heap.size wr w') := apart_any hR ka (below_at hb C0.out) k (by omega)
      generalize A.own.set.getD k 0 = x at *
      clear ho hb hR
      by_cases hx : x = 0
      · have Hnx : Hid (A.wlN (A.apart) (k + 1) = A.wlN (A.apart) k) := by rw [if_neg (by simp [hx]), List.append_nil] at hnx; exact hnx
        rw [hx] at d0
        clear hnx hx
        go_wp2
        go_roundw
        case rel => exact ⟨k + 1, by omega, by go_num, by rw [Hnx.out]; exact HO.out, HB.out⟩
        case measure => simp [intOf]; omega
      · have e1 : (x != 0) = true := by simpa using hx
        rw [e1, Bool.true_and] at hnx
        generalize A.apart k = bb at HC hnx
        cases bb with
        | false =>
          have Hnx : Hid (A.wlN (A.apart) (k + 1) = A.wlN (A.apart) k) := by rw [if_neg (by simp), List.append_nil] at hnx; exact hnx
          clear hnx
          go_wp2_with (first | (go_at_call 35; refine HC.out.mono ?_; rintro e w2 ⟨rfl, hb2⟩; have HB2 : Hid (Below wr.heap.size wr w2) := hb2; clear hb2) | fail)
          go_roundw
          case rel => exact ⟨k + 1, by omega, by go_num, by rw [Hnx.out]; exact own_still HO.out HB2.out, bstep HB.out HB2.out⟩
          case measure => simp [intOf]; omega
        | true =>
          rw [if_pos rfl] at hnx
          have hint : Hid (ints (A.wlN (A.apart) (k + 1)) = ints (A.wlN (A.apart) k) ++ [.int .i64 k] ∧ (A.wlN (A.apart) (k + 1)).length = (A.wlN (A.apart) k).length + 1) := by rw [hnx]; exact ⟨by simp [ints], by simp⟩
          clear hnx
          generalize A.wlN (A.apart) k = LN at HO hint hll
          generalize hI : ints LN = I at HO hint
          go_wp2_with (first
            | (go_at_call 35; refine HC.out.mono ?_; rintro e w2 ⟨rfl, hb2⟩; have HB2 : Hid (Below wr.heap.size wr w2) := hb2; have hs2 := hb2.size; clear hb2; have HO2 : Hid (w2.ownsRow w.heap.size 3 1 u5 LN.length I) := own_still HO.out HB2.out)
            | (at_builtin; refine wpList_append_lies _ rfl _ _ 29 rfl w.heap.size 3 i0 (.int .i64 0) 1 8 Try.underlying29 hi hz0 hz1 hz2 rfl (by omega) u5 LN.length I rfl (World.ownsRow.alloc HO2.out _) _ 1 1 _ rfl rfl (World.news_of_block (heap_alloc_new _ _)) (by simp [Value.oneCell']) (by omega) (by unfold maxLen; omega) (by omega) (by simp; omega) _ rfl ?_; intro g3 cap3 w3 hown3 hgrow3 hat3 hlt3)
            | fail)
          go_roundw
          case rel =>
            refine ⟨k + 1, by omega, by go_num, by rw [hint.out.1, hint.out.2]; simpa using hown3, ?_⟩
            exact (balloc (bstep HB.out HB2.out)).grown hgrow3 (by simp; omega) (fun q hq => (World.ownsRow.lt HO2.out q hq).1)
          case measure => simp [intOf]; omega
    · obtain rfl : k = A.n := by omega
      clear hR
      go_wp2
      go_ret
      exact ⟨_, rfl, ho, hb⟩
set_option maxHeartbeats 2000000 in
theorem wanted_tog (h : A.Ok w B T) (ka : Nat) (c0 : w.cell? ⟨ka, 0, none⟩ = some (.pointer (some ⟨A.b, 0, none⟩))) : Calls Try.prog 36 #[.pointer (some ⟨A.b, 0, none⟩), .func (.func 38) #[] #[.pointer (some ⟨ka, 0, none⟩)]] w fun e w' => ∃ v, e = .returned v ∧ w'.ownsRow w.heap.size 3 1 v (A.wl (A.tog)).length (ints (A.wl (A.tog))) ∧ Below w.heap.size w w' := by
  obtain ⟨i0, hi, hz0, hz1, hz2⟩ := info_parts info_i
  have h16 := h.n16
  have c1 := h.c0
  have Hh : Hid (A.Ok w B T) := h
  have C0 : Hid (w.cell? ⟨ka, 0, none⟩ = some (.pointer (some ⟨A.b, 0, none⟩))) := c0
  clear c0
  clear h
  go_enter Try.func36, Try.ntmps36
  go_wp2
  go_loopw [5, 11] (fun v i wr => ∃ k : Nat, k ≤ A.n ∧ i = .int .i64 k ∧ wr.ownsRow w.heap.size 3 1 v (A.wlN (A.tog) k).length (ints (A.wlN (A.tog) k)) ∧ Below w.heap.size w wr) (fun _ i _ => A.n - (intOf i).toNat)
  case atStart => exact ⟨0, Nat.zero_le _, rfl, ⟨rfl, .inl ⟨rfl, rfl⟩⟩, Below.refl _ _⟩
  case round =>
    obtain ⟨k, hk, rfl, ho, hb⟩ := hrel
    have hR := Hh.out.still hb
    by_cases hlt : k < A.n
    · have hnx := wlN_next A (A.tog) k
      have hll := wlN_le A (A.tog) k
      have HO : Hid (wr.ownsRow w.heap.size 3 1 u5 (A.wlN (A.tog) k).length (ints (A.wlN (A.tog) k))) := ho
      have HB : Hid (Below w.heap.size w wr) := hb
      have i1 : (0 : Int) ≤ (k : Int) := Int.natCast_nonneg _
      have i2 : (k : Int) < (A.n : Int) := by omega
      have i3 : (k : Int) < 16 := by omega
      have hsz := hb.size
      have d0 : wr.cell? ⟨A.b, 2 + k, none⟩ = some (.int .i64 (A.own.set.getD k 0)) := by rw [hR.own_c k (by omega), hR.ol.at_set k (by omega)]
      have HC : Hid (Calls Try.prog 38 #[.int .i64 k, .pointer (some ⟨ka, 0, none⟩)] wr fun e w' => e = .returned (.bool (A.tog k)) ∧ Below wr.heap.size wr w') := tog_any hR ka (below_at hb C0.out) k (by omega)
      generalize A.own.set.getD k 0 = x at *
      clear ho hb hR
      by_cases hx : x = 0
      · have Hnx : Hid (A.wlN (A.tog) (k + 1) = A.wlN (A.tog) k) := by rw [if_neg (by simp [hx]), List.append_nil] at hnx; exact hnx
        rw [hx] at d0
        clear hnx hx
        go_wp2
        go_roundw
        case rel => exact ⟨k + 1, by omega, by go_num, by rw [Hnx.out]; exact HO.out, HB.out⟩
        case measure => simp [intOf]; omega
      · have e1 : (x != 0) = true := by simpa using hx
        rw [e1, Bool.true_and] at hnx
        generalize A.tog k = bb at HC hnx
        cases bb with
        | false =>
          have Hnx : Hid (A.wlN (A.tog) (k + 1) = A.wlN (A.tog) k) := by rw [if_neg (by simp), List.append_nil] at hnx; exact hnx
          clear hnx
          go_wp2_with (first | (go_at_call 38; refine HC.out.mono ?_; rintro e w2 ⟨rfl, hb2⟩; have HB2 : Hid (Below wr.heap.size wr w2) := hb2; clear hb2) | fail)
          go_roundw
          case rel => exact ⟨k + 1, by omega, by go_num, by rw [Hnx.out]; exact own_still HO.out HB2.out, bstep HB.out HB2.out⟩
          case measure => simp [intOf]; omega
        | true =>
          rw [if_pos rfl] at hnx
          have hint : Hid (ints (A.wlN (A.tog) (k + 1)) = ints (A.wlN (A.tog) k) ++ [.int .i64 k] ∧ (A.wlN (A.tog) (k + 1)).length = (A.wlN (A.tog) k).length + 1) := by rw [hnx]; exact ⟨by simp [ints], by simp⟩
          clear hnx
          generalize A.wlN (A.tog) k = LN at HO hint hll
          generalize hI : ints LN = I at HO hint
          go_wp2_with (first
            | (go_at_call 38; refine HC.out.mono ?_; rintro e w2 ⟨rfl, hb2⟩; have HB2 : Hid (Below wr.heap.size wr w2) := hb2; have hs2 := hb2.size; clear hb2; have HO2 : Hid (w2.ownsRow w.heap.size 3 1 u5 LN.length I) := own_still HO.out HB2.out)
            | (at_builtin; refine wpList_append_lies _ rfl _ _ 29 rfl w.heap.size 3 i0 (.int .i64 0) 1 8 Try.underlying29 hi hz0 hz1 hz2 rfl (by omega) u5 LN.length I rfl (World.ownsRow.alloc HO2.out _) _ 1 1 _ rfl rfl (World.news_of_block (heap_alloc_new _ _)) (by simp [Value.oneCell']) (by omega) (by unfold maxLen; omega) (by omega) (by simp; omega) _ rfl ?_; intro g3 cap3 w3 hown3 hgrow3 hat3 hlt3)
            | fail)
          go_roundw
          case rel =>
            refine ⟨k + 1, by omega, by go_num, by rw [hint.out.1, hint.out.2]; simpa using hown3, ?_⟩
            exact (balloc (bstep HB.out HB2.out)).grown hgrow3 (by simp; omega) (fun q hq => (World.ownsRow.lt HO2.out q hq).1)
          case measure => simp [intOf]; omega
    · obtain rfl : k = A.n := by omega
      clear hR
      go_wp2
      go_ret
      exact ⟨_, rfl, ho, hb⟩
set_option maxHeartbeats 2000000 in
theorem wanted_all (h : A.Ok w B T) : Calls Try.prog 36 #[.pointer (some ⟨A.b, 0, none⟩), .func (.func 37) #[] #[]] w fun e w' => ∃ v, e = .returned v ∧ w'.ownsRow w.heap.size 3 1 v (A.wl (A.all1)).length (ints (A.wl (A.all1))) ∧ Below w.heap.size w w' := by
  obtain ⟨i0, hi, hz0, hz1, hz2⟩ := info_parts info_i
  have h16 := h.n16
  have c1 := h.c0
  have Hh : Hid (A.Ok w B T) := h
  clear h
  go_enter Try.func36, Try.ntmps36
  go_wp2
  go_loopw [5, 11] (fun v i wr => ∃ k : Nat, k ≤ A.n ∧ i = .int .i64 k ∧ wr.ownsRow w.heap.size 3 1 v (A.wlN (A.all1) k).length (ints (A.wlN (A.all1) k)) ∧ Below w.heap.size w wr) (fun _ i _ => A.n - (intOf i).toNat)
  case atStart => exact ⟨0, Nat.zero_le _, rfl, ⟨rfl, .inl ⟨rfl, rfl⟩⟩, Below.refl _ _⟩
  case round =>
    obtain ⟨k, hk, rfl, ho, hb⟩ := hrel
    have hR := Hh.out.still hb
    by_cases hlt : k < A.n
    · have hnx := wlN_next A (A.all1) k
      have hll := wlN_le A (A.all1) k
      have HO : Hid (wr.ownsRow w.heap.size 3 1 u5 (A.wlN (A.all1) k).length (ints (A.wlN (A.all1) k))) := ho
      have HB : Hid (Below w.heap.size w wr) := hb
      have i1 : (0 : Int) ≤ (k : Int) := Int.natCast_nonneg _
      have i2 : (k : Int) < (A.n : Int) := by omega
      have i3 : (k : Int) < 16 := by omega
      have hsz := hb.size
      have d0 : wr.cell? ⟨A.b, 2 + k, none⟩ = some (.int .i64 (A.own.set.getD k 0)) := by rw [hR.own_c k (by omega), hR.ol.at_set k (by omega)]
      have HC : Hid (Calls Try.prog 37 #[.int .i64 k] wr fun e w' => e = .returned (.bool (A.all1 k)) ∧ Below wr.heap.size wr w') := all1_any k
      generalize A.own.set.getD k 0 = x at *
      clear ho hb hR
      by_cases hx : x = 0
      · have Hnx : Hid (A.wlN (A.all1) (k + 1) = A.wlN (A.all1) k) := by rw [if_neg (by simp [hx]), List.append_nil] at hnx; exact hnx
        rw [hx] at d0
        clear hnx hx
        go_wp2
        go_roundw
        case rel => exact ⟨k + 1, by omega, by go_num, by rw [Hnx.out]; exact HO.out, HB.out⟩
        case measure => simp [intOf]; omega
      · have e1 : (x != 0) = true := by simpa using hx
        rw [e1, Bool.true_and] at hnx
        generalize A.all1 k = bb at HC hnx
        cases bb with
        | false =>
          have Hnx : Hid (A.wlN (A.all1) (k + 1) = A.wlN (A.all1) k) := by rw [if_neg (by simp), List.append_nil] at hnx; exact hnx
          clear hnx
          go_wp2_with (first | (go_at_call 37; refine HC.out.mono ?_; rintro e w2 ⟨rfl, hb2⟩; have HB2 : Hid (Below wr.heap.size wr w2) := hb2; clear hb2) | fail)
          go_roundw
          case rel => exact ⟨k + 1, by omega, by go_num, by rw [Hnx.out]; exact own_still HO.out HB2.out, bstep HB.out HB2.out⟩
          case measure => simp [intOf]; omega
        | true =>
          rw [if_pos rfl] at hnx
          have hint : Hid (ints (A.wlN (A.all1) (k + 1)) = ints (A.wlN (A.all1) k) ++ [.int .i64 k] ∧ (A.wlN (A.all1) (k + 1)).length = (A.wlN (A.all1) k).length + 1) := by rw [hnx]; exact ⟨by simp [ints], by simp⟩
          clear hnx
          generalize A.wlN (A.all1) k = LN at HO hint hll
          generalize hI : ints LN = I at HO hint
          go_wp2_with (first
            | (go_at_call 37; refine HC.out.mono ?_; rintro e w2 ⟨rfl, hb2⟩; have HB2 : Hid (Below wr.heap.size wr w2) := hb2; have hs2 := hb2.size; clear hb2; have HO2 : Hid (w2.ownsRow w.heap.size 3 1 u5 LN.length I) := own_still HO.out HB2.out)
            | (at_builtin; refine wpList_append_lies _ rfl _ _ 29 rfl w.heap.size 3 i0 (.int .i64 0) 1 8 Try.underlying29 hi hz0 hz1 hz2 rfl (by omega) u5 LN.length I rfl (World.ownsRow.alloc HO2.out _) _ 1 1 _ rfl rfl (World.news_of_block (heap_alloc_new _ _)) (by simp [Value.oneCell']) (by omega) (by unfold maxLen; omega) (by omega) (by simp; omega) _ rfl ?_; intro g3 cap3 w3 hown3 hgrow3 hat3 hlt3)
            | fail)
          go_roundw
          case rel =>
            refine ⟨k + 1, by omega, by go_num, by rw [hint.out.1, hint.out.2]; simpa using hown3, ?_⟩
            exact (balloc (bstep HB.out HB2.out)).grown hgrow3 (by simp; omega) (fun q hq => (World.ownsRow.lt HO2.out q hq).1)
          case measure => simp [intOf]; omega
    · obtain rfl : k = A.n := by omega
      clear hR
      go_wp2
      go_ret
      exact ⟨_, rfl, ho, hb⟩
end
end Go.Proofs.Ytdegjhkjmgimpaa.Mb
namespace Go.Proofs.Ytdegjhkjmgimpaa.Mb
open Go.RowKit
set_option linter.unusedVariables false
set_option maxRecDepth 100000
set_option linter.unusedSimpArgs false
section
variable {A A' : Ag} {w w' W : World} {B : Nat} {T : Int}
theorem own_slice {base e size n : Nat} {v : Value} {xs : List Value} (h : w.ownsRow base e size v n xs) : ∃ ao c, v = .slice ao n c := by
  rcases h.2 with ⟨h1, h2⟩ | ⟨g, cap, cur, h1, _⟩
  · exact ⟨none, 0, by rw [h1, h2]⟩
  · exact ⟨_, _, h1⟩
def Ag.agr (A : Ag) : Bool := A.chg && ((A.wl A.apart).length == 0)
set_option maxHeartbeats 1000000 in
theorem isAgreed_any (h : A.Ok w B T) : Calls Try.prog 27 #[.pointer (some ⟨A.b, 0, none⟩)] w fun e w' => e = .returned (.bool A.agr) ∧ Below w.heap.size w w' := by
  generalize hW1 : w.alloc (.cells #[.pointer (some ⟨A.b, 0, none⟩)] 25) = W1
  have b1 : Below w.heap.size w W1 := hW1 ▸ balloc (Below.refl _ _)
  have k1 : W1.heap[w.heap.size]? = some (.cells #[.pointer (some ⟨A.b, 0, none⟩)] 25 (0, 0)) := by rw [← hW1]; exact heap_alloc_new w _
  have c0 : W1.cell? ⟨w.heap.size, 0, none⟩ = some (.pointer (some ⟨A.b, 0, none⟩)) := blk_cell k1 0
  have c1 := (h.still b1).c670
  have HW : Hid (Calls Try.prog 36 #[.pointer (some ⟨A.b, 0, none⟩), .func (.func 35) #[] #[.pointer (some ⟨w.heap.size, 0, none⟩)]] W1 fun e w' => ∃ v, e = .returned v ∧ w'.ownsRow W1.heap.size 3 1 v (A.wl (A.apart)).length (ints (A.wl (A.apart))) ∧ Below W1.heap.size W1 w') := wanted_apart (h.still b1) _ c0
  have HB : Hid (Below w.heap.size w W1) := b1
  have Hg : Hid (A.agr = (A.chg && ((A.wl A.apart).length == 0))) := rfl
  clear h b1 k1
  generalize (A.wl (A.apart)).length = m at *
  cases hc : A.chg with
  | false =>
    rw [hc] at c1 Hg
    go_enter Try.func27, Try.ntmps27
    go_wp2
    go_ret
    exact ⟨by rw [Hg.out]; rfl, HB.out⟩
  | true =>
    rw [hc] at c1 Hg
    by_cases hm : m = 0
    · have Hm : Hid (m = 0) := hm
      subst hm
      go_enter Try.func27, Try.ntmps27
      go_wp2_with (first | (go_at_call 36; refine HW.out.mono ?_; rintro e w2 ⟨v, rfl, ho, hb2⟩; obtain ⟨ao, cp, rfl⟩ := own_slice ho; have HB2 : Hid (Below W1.heap.size W1 w2) := hb2; clear ho hb2) | fail)
      go_ret
      exact ⟨by rw [Hg.out]; rfl, bstep HB.out HB2.out⟩
    · have Hm : Hid (¬ m = 0) := hm
      have e1 : ¬ ((m : Int) = 0) := by omega
      have e2 : ((m : Int) == 0) = false := by simpa using e1
      go_enter Try.func27, Try.ntmps27
      go_wp2_with (first | (go_at_call 36; refine HW.out.mono ?_; rintro e w2 ⟨v, rfl, ho, hb2⟩; obtain ⟨ao, cp, rfl⟩ := own_slice ho; have HB2 : Hid (Below W1.heap.size W1 w2) := hb2; clear ho hb2) | fail)
      go_ret
      exact ⟨by rw [Hg.out, show (m == 0) = false by simpa using Hm.out]; simp_all, bstep HB.out HB2.out⟩
set_option maxHeartbeats 1000000 in
theorem trans_any (h : A.Ok w B T) : Calls Try.prog 29 #[.pointer (some ⟨A.b, 0, none⟩)] w fun e w' => ∃ v, e = .returned v ∧ w'.ownsRow w.heap.size 3 1 v (A.wl (A.tog)).length (ints (A.wl (A.tog))) ∧ Below w.heap.size w w' := by
  generalize hW1 : w.alloc (.cells #[.pointer (some ⟨A.b, 0, none⟩)] 25) = W1
  have b1 : Below w.heap.size w W1 := hW1 ▸ balloc (Below.refl _ _)
  have k1 : W1.heap[w.heap.size]? = some (.cells #[.pointer (some ⟨A.b, 0, none⟩)] 25 (0, 0)) := by rw [← hW1]; exact heap_alloc_new w _
  have c0 : W1.cell? ⟨w.heap.size, 0, none⟩ = some (.pointer (some ⟨A.b, 0, none⟩)) := blk_cell k1 0
  have HW : Hid (Calls Try.prog 36 #[.pointer (some ⟨A.b, 0, none⟩), .func (.func 38) #[] #[.pointer (some ⟨w.heap.size, 0, none⟩)]] W1 fun e w' => ∃ v, e = .returned v ∧ w'.ownsRow W1.heap.size 3 1 v (A.wl (A.tog)).length (ints (A.wl (A.tog))) ∧ Below W1.heap.size W1 w') := wanted_tog (h.still b1) _ c0
  have HB : Hid (Below w.heap.size w W1) := b1
  clear h b1 k1
  go_enter Try.func29, Try.ntmps29
  go_wp2_with (first | (go_at_call 36; refine HW.out.mono ?_; rintro e w2 ⟨v, rfl, ho, hb2⟩) | fail)
  go_ret
  exact ⟨_, rfl, own_lower ho HB.out.size, bstep HB.out hb2⟩
end
end Go.Proofs.Ytdegjhkjmgimpaa.Mb
