import Derived.Test.YtapenemfnngniaaPh
import Derived.Test.YtapenemfnngniaaPf
namespace Go.Proofs.Ytapenemfnngniaa.Qm
open Go.RowKit Mb
set_option linter.unusedVariables false
set_option maxRecDepth 100000
set_option linter.unusedSimpArgs false
section
variable {w w' W : World} {B : Nat}
theorem has_valL (s p : Nat) (hs : s < 65536) : (bits .and .i64 ((s : Int) / 2 ^ p) 1 == 1) = s.testBit p := has_val64 s p hs
set_option maxHeartbeats 2000000 in
theorem list_any (s n : Nat) (hs : s < 65536) (hn : n ≤ 16) : Calls Try.prog 28 #[.int .i64 (s : Int), .int .i64 (n : Int)] w fun e w' => ∃ v, e = .returned v ∧ w'.ownsRow w.heap.size 3 1 v (listN s n).length (ints (zi (listN s n))) ∧ Below w.heap.size w w' := by
  go_enter Try.func28, Try.ntmps28
  go_wp2
  go_loopw [5, 6] (fun a i wr => ∃ k : Nat, k ≤ n ∧ i = .int .i64 (k : Int) ∧ Hid (wr.ownsRow w.heap.size 3 1 a (listN s k).length (ints (zi (listN s k))) ∧ Below w.heap.size w wr)) (fun _ i _ => n - (intOf i).toNat)
  case atStart => exact ⟨0, Nat.zero_le _, rfl, Rw.own (xs := []) (heap_alloc_new w _) rfl (Nat.le_refl _), balloc (Below.refl _ _)⟩
  case round =>
    obtain ⟨k, hk, rfl, HI⟩ := hrel
    by_cases hlt : k < n
    · have HV : (bits .and .i64 ((s : Int) / 2 ^ k) 1 == 1) = s.testBit k := has_valL s k hs
      have hle := listN_len s k
      cases hb : s.testBit k with
      | true =>
        rw [hb] at HV
        have HL : Hid (listN s (k + 1) = listN s k ++ [k]) := (show _ = _ from by simp [listN, hb])
        generalize listN s k = L at *
        go_wp2_with (first
          | (at_builtin; refine app_i (w0 := w) rfl _ _ rfl _ L.length (zi L) rfl (HI.out.1.alloc _) (balloc HI.out.2) _ 1 1 [(k : Int)] rfl (Rw.rd (blk_one _) rfl (Nat.le_refl _)) (by omega) ?_; intro a2 w2 HO2 HB2)
          | fail)
        refine ⟨⟨k + 1, by omega, by go_num, ?_⟩, by simp [intOf]; omega⟩
        have h1 := HO2.out
        have h2 := HB2.out
        rw [HL.out]
        refine ⟨?_, h2⟩
        rw [zi_snoc, List.length_append]
        exact h1
      | false =>
        rw [hb] at HV
        have HL : Hid (listN s (k + 1) = listN s k) := (show _ = _ from by simp [listN, hb])
        generalize listN s k = L at *
        go_wp2
        refine ⟨⟨k + 1, by omega, by go_num, ?_⟩, by simp [intOf]; omega⟩
        rw [HL.out]
        exact HI
    · obtain rfl : k = n := by omega
      go_wp2
      go_ret
      exact ⟨_, rfl, HI.out.1, HI.out.2⟩
set_option maxHeartbeats 2000000 in
theorem wins_any {a : Option Addr} {m c : Nat} {v : List Nat} (hr : RdI w a m c (zi v)) (ho : Ok v) (hl : v.length = m) (s : Nat) (hs : s < 2 ^ m) : Calls Try.prog 11 #[.slice a m c, .int .i64 (s : Int)] w fun e w' => e = .returned (.bool (wins v s)) ∧ Below w.heap.size w w' := by
  have h16 : m ≤ 16 := by rw [← hl]; exact ho.1
  have h2 := two_pow_le m h16
  have hs16 : s < 65536 := by omega
  have HR : Hid (RdI w a m c (zi v)) := hr
  have HO : Hid (Ok v) := ho
  have HS : Hid (setP m 0 (zi (listN s m)) = some s) := setP_of h16 hs
  have hLl := listN_len s m
  have Hl : Hid (v.length = m) := hl
  clear hr ho hl
  have HLi : Hid (∀ w, Calls Try.prog 28 #[.int .i64 (s : Int), .int .i64 (m : Int)] w fun e w' => ∃ v, e = .returned v ∧ w'.ownsRow w.heap.size 3 1 v (listN s m).length (ints (zi (listN s m))) ∧ Below w.heap.size w w') := fun w => list_any s m hs16 h16
  generalize listN s m = L at *
  obtain ⟨bw, hbw⟩ : ∃ bw, wins v s = bw := ⟨_, rfl⟩
  have HBW : Hid (wins v s = bw) := hbw
  rw [hbw]
  clear hbw
  go_enter Try.func11, Try.ntmps11
  go_wp2_with (first
    | (go_at_call 10; refine (copied_any HR.out (by omega)).mono ?_; rintro e w1 ⟨rfl, hr1, hb1⟩; have HR1 : Hid (Rw w1 w.heap.size 3 (zi v)) := hr1; have HB1 : Hid (Below w.heap.size w w1) := hb1; clear hr1 hb1)
    | (go_at_call 28; refine (HLi.out _).mono ?_; rintro e w2 ⟨u, rfl, hu, hb2⟩; obtain ⟨a2, c2, rfl⟩ := own_shape hu; have HR2 : Hid (RdI w2 a2 L.length c2 (zi L)) := own_rd hu; have HB2 : Hid (Below w.heap.size w w2) := bstep HB1.out hb2; have HR3 : Hid (RdI w2 (some ⟨w.heap.size, 0, none⟩) m m (zi v)) := Rw.rd (HR1.out.still hb2) (by rw [zi_len]; exact Hl.out) (Nat.le_refl _); clear hu hb2)
    | (go_at_call 23; refine (quo_yes HR3.out (okI_zi HO.out) HR2.out (by omega)).mono ?_; rintro e w3 ⟨⟨s3, h3⟩, hb3⟩; have HE : e = .returned (.tuple #[.bool bw, .int .i64 0]) := (h3.elim (fun h => by rw [h.2, nv_zi]; have := h.1; rw [HS.out] at this; simp only [Option.some.injEq] at this; rw [← this, HBW.out]) (fun h => by have := h.1; rw [HS.out] at this; cases this)); subst HE; have HB3 : Hid (Below w.heap.size w w3) := bstep HB2.out hb3; clear h3 hb3)
    | fail)
  all_goals (go_ret; exact ⟨by simp_all, HB3.out⟩)
end
end Go.Proofs.Ytapenemfnngniaa.Qm
