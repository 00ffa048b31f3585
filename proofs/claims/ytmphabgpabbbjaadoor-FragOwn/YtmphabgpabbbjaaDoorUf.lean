import Derived.Test.YtmphabgpabbbjaaDoorUc
namespace Go.Proofs.YtmphabgpabbbjaaDoor.Fg
open Go.RowKit Mb
set_option linter.unusedVariables false
set_option maxRecDepth 100000
set_option linter.unusedSimpArgs false
section
variable {w w' W : World} {B : Nat}
theorem i64_or_nat (a b : Nat) (ha : a < 9223372036854775808) (hb : b < 9223372036854775808) : bits .or .i64 (a : Int) (b : Int) = ((a ||| b : Nat) : Int) := by
  have hx : a ||| b < 2 ^ 63 := Nat.or_lt_two_pow (by omega) (by omega)
  have h1 : (BitVec.ofInt 64 (a : Int)).toNat = a := by
    rw [BitVec.ofInt_natCast, BitVec.toNat_ofNat]; exact Nat.mod_eq_of_lt (by omega)
  have h2 : (BitVec.ofInt 64 (b : Int)).toNat = b := by
    rw [BitVec.ofInt_natCast, BitVec.toNat_ofNat]; exact Nat.mod_eq_of_lt (by omega)
  show IntKind.i64.wrap ((BitVec.ofInt 64 (a : Int) ||| BitVec.ofInt 64 (b : Int)).toNat : Int) = _
  rw [BitVec.toNat_or, h1, h2]
  simp only [IntKind.wrap, IntKind.bits, IntKind.signed]
  simp
  omega
theorem or8 (v x : Nat) (hv : v < 4294967296) (hx : x < 256) : bits .or .i64 ((v : Int) * 256) (x : Int) = ((v * 256 + x : Nat) : Int) := by
  have e : ((v : Int) * 256) = ((v * 256 : Nat) : Int) := by omega
  rw [e, i64_or_nat _ _ (by omega) (by omega), nat_join 8 (v * 256) x (by omega) (by omega)]
theorem val_take_succ (bs : List Int) (k : Nat) (hk : k < bs.length) : val (bs.take (k + 1)) = val (bs.take k) * 256 + (bs.getD k 0).toNat := by
  have h1 : bs.getD k 0 = bs[k] := by simp [List.getD, hk]
  rw [List.take_succ_eq_append_getElem hk, val_snoc, h1]
theorem val_take_lt {bs : List Int} (h : By bs) (hl : bs.length ≤ 4) (k : Nat) : val (bs.take k) < 4294967296 := by
  have := val_lt _ (bs.take k) (h.take k) rfl
  have h2 : (bs.take k).length ≤ 4 := by rw [List.length_take]; omega
  have h3 : 256 ^ (bs.take k).length ≤ 256 ^ 4 := Nat.pow_le_pow_right (by decide) h2
  omega
set_option maxHeartbeats 1000000 in
theorem number_any {ao : Option Addr} {n c : Nat} {bs : List Int} (hr : Rd w ao n c bs) (hn : n ≤ 4) : Calls Tryd.prog 32 #[.slice ao n c] w fun e w' => e = .returned (.int .i64 ((val bs : Nat) : Int)) ∧ w = w' := by
  have hl := hr.len
  have HR : Hid (Rd w ao n c bs) := hr
  clear hr
  go_enter Tryd.func32, Tryd.ntmps32
  go_wp2
  go_loop [3, 8] (fun v i => ∃ (k s : Nat), k ≤ n ∧ i = .int .i64 k ∧ v = .int .i64 (s : Int) ∧ s < 4294967296 ∧ Hid (s = val (bs.take k))) (fun _ i => n - (intOf i).toNat)
  case atStart => exact ⟨0, 0, Nat.zero_le _, rfl, rfl, by decide, rfl⟩
  case round =>
    obtain ⟨k, s, hk, rfl, rfl, hs, hv⟩ := hrel
    by_cases hlt : k < n
    · have hnx := val_take_succ bs k (by omega)
      have hlt2 := val_take_lt HR.out.by_ (by omega) (k + 1)
      rw [← hv.out] at hnx
      have hbk := HR.out.by_ k
      have hat := HR.out.at_
      rcases hat with h0 | ⟨b, off, hao, hc⟩
      · omega
      · have hcx := hc k hlt
        obtain ⟨x, hx⟩ := Int.eq_ofNat_of_zero_le hbk.1
        rw [hx] at hcx hbk hnx
        have hor := or8 s x hs (by omega)
        obtain ⟨s2, hs2⟩ : ∃ s2 : Nat, s2 = s * 256 + x := ⟨_, rfl⟩
        have HV : Hid (s2 = val (bs.take (k + 1))) := (show _ = _ from by rw [hnx, hs2]; simp)
        have hlt3 : s2 < 4294967296 := by rw [HV.out]; exact hlt2
        rw [← hs2] at hor
        subst hao
        clear hnx hlt2 hx hc hs2
        go_wp2
        go_round
        case rel => exact ⟨k + 1, s2, by omega, by go_num, rfl, hlt3, HV⟩
        case measure => simp [intOf]; omega
    · obtain rfl : k = n := by omega
      have HF : Hid (s = val bs) := (show s = val bs from by rw [hv.out, List.take_of_length_le (by omega)])
      go_wp2
      go_ret
      exact ⟨ret_int (by rw [HF.out]), rfl⟩
set_option maxHeartbeats 1000000 in
theorem piece_any (s p q : Int) (hs : 0 ≤ s ∧ s ≤ 4294967296) (hp : 0 ≤ p ∧ p ≤ 4294967296) : Calls Tryd.prog 28 #[.agg #[.int .i64 s, .int .i64 p, .int .i64 q]] w fun e w' => e = .returned (.int .i64 (min 248 (s - p))) ∧ Below w.heap.size w w' := by
  generalize hW : w.alloc (.cells #[.int .i64 s, .int .i64 p, .int .i64 q] 59) = W
  have hbW : Below w.heap.size w W := by rw [← hW]; exact balloc (Below.refl _ w)
  have hblk : W.heap[w.heap.size]? = some (.cells #[.int .i64 s, .int .i64 p, .int .i64 q] 59 (0, 0)) := by rw [← hW]; exact heap_alloc_new w _
  have c0 : W.cell? ⟨w.heap.size, 0, none⟩ = some (.int .i64 s) := blk_cell hblk 0
  have c1 : W.cell? ⟨w.heap.size, 1, none⟩ = some (.int .i64 p) := blk_cell hblk 1
  clear hblk
  obtain ⟨hs1, hs2⟩ := hs
  obtain ⟨hp1, hp2⟩ := hp
  go_enter Tryd.func28, Tryd.ntmps28
  go_wp2
  all_goals (go_ret; exact ⟨ret_int (by omega), hbW⟩)
def plI (s p : Int) : Bool := decide (s ≤ 4000) && decide (p % 248 = 0) && (decide (p < s) || (decide (s = 0) && decide (p = 0)))
theorem plI_nat (s p : Nat) : plI (s : Int) (p : Int) = placed s p := by
  unfold plI placed
  rw [Bool.eq_iff_iff]
  simp only [Bool.and_eq_true, Bool.or_eq_true, decide_eq_true_eq]
  omega
set_option maxHeartbeats 2000000 in
theorem isPlaced_any (s p q : Int) (hs : 0 ≤ s ∧ s ≤ 4294967296) (hp : 0 ≤ p ∧ p ≤ 4294967296) : Calls Tryd.prog 33 #[.agg #[.int .i64 s, .int .i64 p, .int .i64 q]] w fun e w' => e = .returned (.bool (plI s p)) ∧ Below w.heap.size w w' := by
  generalize hW : w.alloc (.cells #[.int .i64 s, .int .i64 p, .int .i64 q] 59) = W
  have hbW : Below w.heap.size w W := by rw [← hW]; exact balloc (Below.refl _ w)
  have hblk : W.heap[w.heap.size]? = some (.cells #[.int .i64 s, .int .i64 p, .int .i64 q] 59 (0, 0)) := by rw [← hW]; exact heap_alloc_new w _
  have c0 : W.cell? ⟨w.heap.size, 0, none⟩ = some (.int .i64 s) := blk_cell hblk 0
  have c1 : W.cell? ⟨w.heap.size, 1, none⟩ = some (.int .i64 p) := blk_cell hblk 1
  clear hblk
  obtain ⟨hs1, hs2⟩ := hs
  obtain ⟨hp1, hp2⟩ := hp
  have HP : ∀ b : Bool, (b = true ↔ (s ≤ 4000 ∧ p % 248 = 0 ∧ (p < s ∨ (s = 0 ∧ p = 0)))) → Hid (plI s p = b) := fun b hb => (show plI s p = b from by
    rw [Bool.eq_iff_iff, hb]
    unfold plI
    simp only [Bool.and_eq_true, Bool.or_eq_true, decide_eq_true_eq, and_assoc])
  by_cases t1 : s ≤ 4000
  · by_cases t2 : p % 248 = 0
    · have t2b : (p % 248 == 0) = true := by simpa using t2
      by_cases t3 : p < s
      · have H := HP true ⟨fun _ => ⟨t1, t2, .inl t3⟩, fun _ => rfl⟩
        have t4 : (s == 0) = false := by rw [beq_eq_false_iff_ne]; omega
        clear HP t2
        go_enter Tryd.func33, Tryd.ntmps33
        go_wp2
        go_ret
        exact ⟨(by rw [H.out]; rfl), hbW⟩
      · by_cases t4 : s = 0
        · by_cases t5 : p = 0
          · have H := HP true ⟨fun _ => ⟨t1, t2, .inr ⟨t4, t5⟩⟩, fun _ => rfl⟩
            subst t4 t5
            clear HP t2 t2b
            go_enter Tryd.func33, Tryd.ntmps33
            go_wp2
            go_ret
            exact ⟨(by rw [H.out]; rfl), hbW⟩
          · have H := HP false ⟨fun h => (by cases h), fun h => (by omega)⟩
            subst t4
            have t5b : (p == 0) = false := by rw [beq_eq_false_iff_ne]; exact t5
            clear HP t2 t5
            go_enter Tryd.func33, Tryd.ntmps33
            go_wp2
            go_ret
            exact ⟨(by rw [H.out]; rfl), hbW⟩
        · have H := HP false ⟨fun h => (by cases h), fun h => (by omega)⟩
          have t4b : (s == 0) = false := by rw [beq_eq_false_iff_ne]; exact t4
          clear HP t2 t4
          go_enter Tryd.func33, Tryd.ntmps33
          go_wp2
          go_ret
          exact ⟨(by rw [H.out]; rfl), hbW⟩
    · have t2b : (p % 248 == 0) = false := by rw [beq_eq_false_iff_ne]; exact t2
      have H := HP false ⟨fun h => (by cases h), fun h => (by omega)⟩
      by_cases t4 : s = 0
      · subst t4
        have t5b : (p == 0) = false := by rw [beq_eq_false_iff_ne]; omega
        clear HP t2
        go_enter Tryd.func33, Tryd.ntmps33
        go_wp2
        go_ret
        exact ⟨(by rw [H.out]; rfl), hbW⟩
      · have t4b : (s == 0) = false := by rw [beq_eq_false_iff_ne]; exact t4
        clear HP t2 t4
        go_enter Tryd.func33, Tryd.ntmps33
        go_wp2
        go_ret
        exact ⟨(by rw [H.out]; rfl), hbW⟩
  · have H := HP false ⟨fun h => (by cases h), fun h => (by omega)⟩
    have t4b : (s == 0) = false := by rw [beq_eq_false_iff_ne]; omega
    clear HP
    go_enter Tryd.func33, Tryd.ntmps33
    go_wp2
    go_ret
    exact ⟨(by rw [H.out]; rfl), hbW⟩
end
end Go.Proofs.YtmphabgpabbbjaaDoor.Fg
