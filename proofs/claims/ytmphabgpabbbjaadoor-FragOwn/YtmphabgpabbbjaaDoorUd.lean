import Derived.Test.YtmphabgpabbbjaaDoorUc
namespace Go.Proofs.YtmphabgpabbbjaaDoor.Fg
open Go.RowKit Mb
set_option linter.unusedVariables false
set_option maxRecDepth 100000
set_option linter.unusedSimpArgs false
def Tab (w : World) : Prop := ∀ r : Nat, r < 16 → w.cell? ⟨0, r, none⟩ = some (.int .u32 ((Crc.tab.getD r 0 : Nat) : Int))

theorem xor_nib (s1 t1 : Nat) (h1 : s1 < 4294967296) (ht : t1 = Crc.tab.getD (s1 % 16) 0) : bits .xor .u32 ((s1 : Int) / 16) (t1 : Int) = ((Crc.nib s1 : Nat) : Int) := by
  have hl := Crc.tab_lt (s1 % 16)
  have e : ((s1 : Int) / 16) = ((s1 / 16 : Nat) : Int) := by omega
  rw [e, u32_xor_nat (s1 / 16) t1 (by omega) (by omega), ht]
  rfl

theorem nats_snoc (bs : List Int) (k cn : Nat) (hk : k < bs.length) (hc : bs.getD k 0 = (cn : Int)) : nats (bs.take (k + 1)) = nats (bs.take k) ++ [cn] := by
  have h1 : bs.getD k 0 = bs[k] := by simp [List.getD, hk]
  rw [h1] at hc
  unfold nats
  rw [List.take_succ_eq_append_getElem hk, List.map_append, hc]
  rfl

theorem w64 (n : Int) (h : -9223372036854775808 ≤ n ∧ n ≤ 9223372036854775807) : wrap64 n = n := by unfold wrap64; omega
theorem fin_xor (s : Nat) (h : s < 4294967296) : wrap64 (bits .xor .u32 IntKind.u32.max (s : Int)) = ((s ^^^ 4294967295 : Nat) : Int) := by
  have e : IntKind.u32.max = ((4294967295 : Nat) : Int) := by decide
  have hl : s ^^^ 4294967295 < 4294967296 := Nat.xor_lt_two_pow (n := 32) h (by decide)
  rw [e, u32_xor_nat _ _ (by omega) h, Nat.xor_comm, w64 _ (by omega)]

set_option maxHeartbeats 1000000 in
theorem sum_some (b off n cap : Nat) (bs : List Int) (w : World) (hn : bs.length = n) (hlen : n ≤ 140737488355328) (hT : Tab w) (hc : ∀ i, i < n → w.cell? ⟨b, off + i, none⟩ = some (.int .u8 (bs.getD i 0)))
    (hr : ∀ i, 0 ≤ bs.getD i 0 ∧ bs.getD i 0 ≤ 255) :
    Calls Tryd.prog 13 #[.slice (some ⟨b, off, none⟩) n cap] w fun e w' => e = .returned (.int .i64 ((Crc.crc (nats bs) : Nat) : Int)) ∧ w' = w := by
  go_enter Tryd.func13, Tryd.ntmps13
  go_wp2
  go_loop [3, 8] (fun v i => ∃ (k s : Nat), k ≤ n ∧ i = .int .i64 k ∧ v = .int .u32 (s : Int) ∧ s < 4294967296 ∧ Hid (s = Crc.run 4294967295 (nats (bs.take k)))) (fun _ i => n - (intOf i).toNat)
  case atStart => exact ⟨0, 4294967295, Nat.zero_le _, rfl, rfl, by decide, rfl⟩
  case round =>
    obtain ⟨k, s, hk, rfl, rfl, hs, hrun⟩ := hrel
    by_cases hlt : k < n
    · have hcx := hc k hlt
      have hbk := hr k
      obtain ⟨cn, hcn⟩ := Int.eq_ofNat_of_zero_le hbk.1
      have HN : Hid (nats (bs.take (k + 1)) = nats (bs.take k) ++ [cn]) := nats_snoc bs k cn (by omega) hcn
      rw [hcn] at hcx hbk
      clear hcn
      have hx : bits .xor .u32 (s : Int) (cn : Int) = ((s ^^^ cn : Nat) : Int) := u32_xor_nat s cn (by omega) (by omega)
      obtain ⟨s1, hs1⟩ : ∃ s1, s1 = s ^^^ cn := ⟨_, rfl⟩
      rw [← hs1] at hx
      have hl1 : s1 < 4294967296 := by rw [hs1]; exact Nat.xor_lt_two_pow (n := 32) (by omega) (by omega)
      have HS1 : Hid (s1 = s ^^^ cn) := hs1
      clear hs1 hc hr
      obtain ⟨t1, ht1⟩ : ∃ t1, t1 = Crc.tab.getD (s1 % 16) 0 := ⟨_, rfl⟩
      have hc1 : w.cell? ⟨0, s1 % 16, none⟩ = some (.int .u32 (t1 : Int)) := by rw [ht1]; exact hT _ (by omega)
      obtain ⟨s2, hs2⟩ : ∃ s2, s2 = Crc.nib s1 := ⟨_, rfl⟩
      have hx2 : bits .xor .u32 ((s1 : Int) / 16) (t1 : Int) = (s2 : Int) := by rw [hs2]; exact xor_nib s1 t1 hl1 ht1
      have hl2 : s2 < 4294967296 := by rw [hs2]; exact Crc.nib_lt _ hl1
      obtain ⟨t2, ht2⟩ : ∃ t2, t2 = Crc.tab.getD (s2 % 16) 0 := ⟨_, rfl⟩
      have hc2 : w.cell? ⟨0, s2 % 16, none⟩ = some (.int .u32 (t2 : Int)) := by rw [ht2]; exact hT _ (by omega)
      obtain ⟨s3, hs3⟩ : ∃ s3, s3 = Crc.nib s2 := ⟨_, rfl⟩
      have hx3 : bits .xor .u32 ((s2 : Int) / 16) (t2 : Int) = (s3 : Int) := by rw [hs3]; exact xor_nib s2 t2 hl2 ht2
      have hl3 : s3 < 4294967296 := by rw [hs3]; exact Crc.nib_lt _ hl2
      have HR : Hid (s3 = Crc.run 4294967295 (nats (bs.take (k + 1)))) := by rw [HN.out, Crc.run_snoc, ← hrun.out, ← HS1.out, hs3, hs2]; rfl
      clear ht1 ht2 hs2 hs3 hT
      go_wp2
      go_round
      case rel => exact ⟨k + 1, s3, by omega, by go_num, rfl, hl3, HR⟩
      case measure => simp [intOf]; omega
    · obtain rfl : k = n := by omega
      have HF : Hid (wrap64 (bits .xor .u32 IntKind.u32.max (s : Int)) = ((Crc.crc (nats bs) : Nat) : Int)) := by
        have e : nats (bs.take k) = nats bs := by rw [List.take_of_length_le (by omega)]
        show wrap64 (bits .xor .u32 IntKind.u32.max (s : Int)) = ((Crc.crc (nats bs) : Nat) : Int)
        rw [fin_xor s hs, hrun.out, e]; rfl
      clear hc hr hT
      go_wp2
      go_ret
      exact ⟨ret_int HF.out, rfl⟩

theorem sum_none (ao : Option Addr) (cap : Nat) (w : World) : Calls Tryd.prog 13 #[.slice ao 0 cap] w fun e w' => e = .returned (.int .i64 ((Crc.crc (nats []) : Nat) : Int)) ∧ w' = w := by
  have HF : Hid (wrap64 (bits .xor .u32 IntKind.u32.max 4294967295) = ((Crc.crc (nats []) : Nat) : Int)) := fin_xor 4294967295 (by decide)
  go_enter Tryd.func13, Tryd.ntmps13
  go_wp2
  refine wp_loop_rounds 1 ?_
  rw [rounds_succ]
  go_wp2
  go_ret
  exact ⟨ret_int HF.out, rfl⟩

theorem sum_any {ao : Option Addr} {len cap : Nat} {bs : List Int} {w : World} (hr : Rd w ao len cap bs) (hlen : len ≤ 140737488355328) (hT : Tab w) :
    Calls Tryd.prog 13 #[.slice ao len cap] w fun e w' => e = .returned (.int .i64 ((crc bs : Nat) : Int)) ∧ w = w' := by
  obtain ⟨hn, _, _, hc, hb⟩ := hr
  rcases hc with h0 | ⟨b, off, rfl, hc⟩
  · subst h0
    obtain rfl : bs = [] := List.eq_nil_of_length_eq_zero hn
    exact (sum_none ao cap w).mono fun e w' h => ⟨h.1, h.2.symm⟩
  · exact (sum_some b off len cap bs w hn hlen hT hc hb).mono fun e w' h => ⟨h.1, h.2.symm⟩

theorem i64_xor_nat (a b : Nat) (ha : a < 9223372036854775808) (hb : b < 9223372036854775808) : bits .xor .i64 (a : Int) (b : Int) = ((a ^^^ b : Nat) : Int) := by
  have hx : a ^^^ b < 2 ^ 63 := Nat.xor_lt_two_pow (by omega) (by omega)
  have h1 : (BitVec.ofInt 64 (a : Int)).toNat = a := by
    rw [BitVec.ofInt_natCast, BitVec.toNat_ofNat]; exact Nat.mod_eq_of_lt (by omega)
  have h2 : (BitVec.ofInt 64 (b : Int)).toNat = b := by
    rw [BitVec.ofInt_natCast, BitVec.toNat_ofNat]; exact Nat.mod_eq_of_lt (by omega)
  show IntKind.i64.wrap ((BitVec.ofInt 64 (a : Int) ^^^ BitVec.ofInt 64 (b : Int)).toNat : Int) = _
  rw [BitVec.toNat_xor, h1, h2]
  simp only [IntKind.wrap, IntKind.bits, IntKind.signed]
  simp
  omega

def bitsN : Nat → Nat → Nat
  | 0, w => w
  | j + 1, w => Crc.bit (bitsN j w)
theorem bitsN_8 (w : Nat) : bitsN 8 w = Crc.byt w := by rw [Crc.byt_bits]; rfl
theorem bitsN_lt (j w : Nat) (h : w < 4294967296) : bitsN j w < 4294967296 := by
  induction j with
  | zero => exact h
  | succ j ih => exact Crc.bit_lt _ ih

set_option maxHeartbeats 2000000 in
theorem rsum_some (b off n cap : Nat) (bs : List Int) (w : World) (hn : bs.length = n) (hlen : n ≤ 140737488355328) (hc : ∀ i, i < n → w.cell? ⟨b, off + i, none⟩ = some (.int .u8 (bs.getD i 0)))
    (hr : ∀ i, 0 ≤ bs.getD i 0 ∧ bs.getD i 0 ≤ 255) :
    Calls Tryd.prog 35 #[.slice (some ⟨b, off, none⟩) n cap] w fun e w' => e = .returned (.int .i64 ((Crc.crc (nats bs) : Nat) : Int)) ∧ w' = w := by
  go_enter Tryd.func35, Tryd.ntmps35
  go_wp2
  go_loop [3, 4] (fun v i => ∃ (k s : Nat), k ≤ n ∧ i = .int .i64 k ∧ v = .int .i64 (s : Int) ∧ s < 4294967296 ∧ Hid (s = Crc.run 4294967295 (nats (bs.take k)))) (fun _ i => n - (intOf i).toNat)
  case atStart => exact ⟨0, 4294967295, Nat.zero_le _, rfl, rfl, by decide, rfl⟩
  case round =>
    obtain ⟨k, s, hk, rfl, rfl, hs, hrun⟩ := hrel
    by_cases hlt : k < n
    · have hcx := hc k hlt
      have hbk := hr k
      obtain ⟨cn, hcn⟩ := Int.eq_ofNat_of_zero_le hbk.1
      have HN : Hid (nats (bs.take (k + 1)) = nats (bs.take k) ++ [cn]) := nats_snoc bs k cn (by omega) hcn
      rw [hcn] at hcx hbk
      clear hcn
      have hx : bits .xor .i64 (s : Int) (cn : Int) = ((s ^^^ cn : Nat) : Int) := i64_xor_nat s cn (by omega) (by omega)
      obtain ⟨s1, hs1⟩ : ∃ s1, s1 = s ^^^ cn := ⟨_, rfl⟩
      rw [← hs1] at hx
      have hl1 : s1 < 4294967296 := by rw [hs1]; exact Nat.xor_lt_two_pow (n := 32) (by omega) (by omega)
      have HS1 : Hid (s1 = s ^^^ cn) := hs1
      clear hs1 hc hr
      go_wp2
      go_loop [3, 5] (fun v i => ∃ (j t : Nat), j ≤ 8 ∧ i = .int .i64 j ∧ v = .int .i64 (t : Int) ∧ t < 4294967296 ∧ Hid (t = bitsN j s1)) (fun _ i => 8 - (intOf i).toNat)
      case atStart => exact ⟨0, s1, Nat.zero_le _, rfl, rfl, hl1, rfl⟩
      case round =>
        obtain ⟨j, t, hj, rfl, rfl, ht, hbt⟩ := hrel
        by_cases hjl : j < 8
        · by_cases hodd : t % 2 = 1
          · have hb1 : ((t : Int) % 2 == 1) = true := by rw [beq_iff_eq]; omega
            obtain ⟨t', ht'⟩ : ∃ t', t' = t / 2 ^^^ 3988292384 := ⟨_, rfl⟩
            have hx2 : bits .xor .i64 ((t : Int) / 2) 3988292384 = (t' : Int) := by
              have e : ((t : Int) / 2) = ((t / 2 : Nat) : Int) := by omega
              rw [e, ht']; exact i64_xor_nat (t / 2) 3988292384 (by omega) (by omega)
            have HT : Hid (t' = bitsN (j + 1) s1) := by
              show t' = Crc.bit (bitsN j s1)
              rw [← hbt.out]; unfold Crc.bit; rw [if_pos hodd]; exact ht'
            have hl2 : t' < 4294967296 := by rw [HT.out]; exact bitsN_lt _ _ hl1
            clear ht'
            go_wp2
            go_round
            case rel => exact ⟨j + 1, t', by omega, by go_num, rfl, hl2, HT⟩
            case measure => simp [intOf]; omega
          · have hb1 : ((t : Int) % 2 == 1) = false := by rw [beq_eq_false_iff_ne]; omega
            have HT : Hid (t / 2 = bitsN (j + 1) s1) := by
              show t / 2 = Crc.bit (bitsN j s1)
              rw [← hbt.out]; unfold Crc.bit; rw [if_neg hodd]
            go_wp2
            go_round
            case rel => exact ⟨j + 1, t / 2, by omega, by go_num, by go_num, by omega, HT⟩
            case measure => simp [intOf]; omega
        · obtain rfl : j = 8 := by omega
          have HR : Hid (t = Crc.run 4294967295 (nats (bs.take (k + 1)))) := by rw [HN.out, Crc.run_snoc, ← hrun.out, ← HS1.out, hbt.out, bitsN_8]; rfl
          go_wp2
          go_round
          case rel => exact ⟨k + 1, t, by omega, by go_num, rfl, ht, HR⟩
          case measure => simp [intOf]; omega
    · obtain rfl : k = n := by omega
      have HF : Hid (bits .xor .i64 (s : Int) 4294967295 = ((Crc.crc (nats bs) : Nat) : Int)) := by
        have e : nats (bs.take k) = nats bs := by rw [List.take_of_length_le (by omega)]
        have h := i64_xor_nat s 4294967295 (by omega) (by omega)
        show bits .xor .i64 (s : Int) 4294967295 = ((Crc.crc (nats bs) : Nat) : Int)
        refine h.trans ?_
        rw [hrun.out, e]; rfl
      clear hc hr
      go_wp2
      go_ret
      exact ⟨ret_int HF.out, rfl⟩

theorem rsum_none (ao : Option Addr) (cap : Nat) (w : World) : Calls Tryd.prog 35 #[.slice ao 0 cap] w fun e w' => e = .returned (.int .i64 ((Crc.crc (nats []) : Nat) : Int)) ∧ w' = w := by
  have HF : Hid (bits .xor .i64 4294967295 4294967295 = ((Crc.crc (nats []) : Nat) : Int)) := i64_xor_nat 4294967295 4294967295 (by decide) (by decide)
  go_enter Tryd.func35, Tryd.ntmps35
  go_wp2
  refine wp_loop_rounds 1 ?_
  rw [rounds_succ]
  go_wp2
  go_ret
  exact ⟨ret_int HF.out, rfl⟩

theorem rsum_any {ao : Option Addr} {len cap : Nat} {bs : List Int} {w : World} (hr : Rd w ao len cap bs) (hlen : len ≤ 140737488355328) :
    Calls Tryd.prog 35 #[.slice ao len cap] w fun e w' => e = .returned (.int .i64 ((crc bs : Nat) : Int)) ∧ w = w' := by
  obtain ⟨hn, _, _, hc, hb⟩ := hr
  rcases hc with h0 | ⟨b, off, rfl, hc⟩
  · subst h0
    obtain rfl : bs = [] := List.eq_nil_of_length_eq_zero hn
    exact (rsum_none ao cap w).mono fun e w' h => ⟨h.1, h.2.symm⟩
  · exact (rsum_some b off len cap bs w hn hlen hc hb).mono fun e w' h => ⟨h.1, h.2.symm⟩
theorem Tab.still {w w' : World} (h : Tab w) (hb : Below w.heap.size w w') : Tab w' := fun r hr => below_at hb (h r hr)
theorem Tab.keep {w w' : World} {P : Nat → Prop} (h : Tab w) (k : Kept w w' P) (hp : ¬ P 0) : Tab w' := fun r hr => kept_cell k hp (h r hr)
theorem Tab.low {w w' : World} {B : Nat} (h : Tab w) (hb : Below B w w') (h0 : 0 < B) : Tab w' := fun r hr => (hb.cell (p := ⟨0, r, none⟩) h0).trans (h r hr)
end Go.Proofs.YtmphabgpabbbjaaDoor.Fg
