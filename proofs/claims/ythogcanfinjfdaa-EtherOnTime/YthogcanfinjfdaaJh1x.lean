import Derived.Test.YthogcanfinjfdaaJg
namespace Go.Proofs.Ythogcanfinjfdaa.Et
open Go.RowKit Go.Maps
set_option linter.unusedVariables false
set_option linter.unusedSimpArgs false
set_option maxRecDepth 100000
section
variable {E E1 E' : En} {w w' w1 w2 w3 : World} {B K m : Nat}

set_option maxHeartbeats 4000000 in
theorem ontime_1x (nd : Nat) (rm : Int) (gap : Bool) (d : Int) (hd : d < 1 ∨ 16 < d) (oa : Option Addr) (n oc : Nat) (os : Nat → Opx) (h1 : 2 ≤ nd) (h2 : nd ≤ 16) (ho : RdOps w oa n os) (hn : n ≤ 1759218604390) (hbig : 5000 < n) : Calls Try.prog 3 #[.agg (kc nd rm oa n oc), .int .i64 d, .bool gap] w fun e w' => e = .returned (.bool true) ∧ Below w.heap.size w w' := by
  generalize hW : w.alloc (.cells #[.int .i64 (nd : Int), .int .i64 rm, .slice oa n oc] 24) = W
  have hbW : Below w.heap.size w W := by rw [← hW]; exact balloc (Below.refl _ w)
  have hblk : W.heap[w.heap.size]? = some (.cells #[.int .i64 (nd : Int), .int .i64 rm, .slice oa n oc] 24 (0, 0)) := by rw [← hW]; exact heap_alloc_new w _
  have Hc : Hid (∀ w', Below W.heap.size W w' → w'.cell? ⟨w.heap.size, 0, none⟩ = some (.int .i64 (nd : Int)) ∧ w'.cell? ⟨w.heap.size, 2, none⟩ = some (.slice oa n oc)) := fun w' hb => ⟨below_at hb (blk_cell hblk 0), below_at hb (blk_cell hblk 2)⟩
  have HO : Hid (RdOps W oa n os) := ho.stay hbW
  have HA : Hid (Calls Try.prog 9 #[.int .i64 (nd : Int), .int .i64 20000] W fun e w' => ∃ b bn bc bd, e = .returned (.tuple #[.pointer (some ⟨b, 0, none⟩), .int .i64 0]) ∧ En.Ok (newE b bn bc bd nd 20000 nd) w' W.heap.size 0 ∧ Below W.heap.size W w') := new_ok nd 20000 (by omega) (by omega) (by omega) (by omega)
  have Hb : Hid (Below w.heap.size w W) := hbW
  obtain ⟨c0, c2⟩ := Hc.out W (Below.refl _ _)
  have n1 : (2 : Int) ≤ (nd : Int) := by omega
  have n2 : (nd : Int) ≤ 16 := by omega
  have n3 : decide ((nd : Int) < 2) = false := by simp; omega
  have n4 : decide ((16 : Int) < (nd : Int)) = false := by simp; omega
  unfold kc
  clear hbW hblk ho
  go_enter Try.func3, Try.ntmps3
  go_wp2_with (fail)
  refine HA.out.mono ?_
  rintro e w1 ⟨b, bn, bc, bd, rfl, hE, hb1⟩
  have HS1 : Hid (St (newE b bn bc bd nd 20000 nd) w1 W.heap.size 0 b nd) := ⟨hE, inv_new b bn bc bd nd 20000 (by omega) (by omega), rfl, rfl, rfl, hb1.size⟩
  have HB1 : Hid (Below W.heap.size W w1) := hb1
  clear hE hb1 c0 c2
  obtain ⟨c0, c2⟩ := Hc.out _ HB1.out
  go_wp2
  go_loopw [9] (fun i wr => ∃ (k : Nat) (E : En), k ≤ 5000 ∧ i = .int .i64 k ∧ St E wr W.heap.size k b nd ∧ Below W.heap.size W wr) (fun i _ => 5000 - (intOf i).toNat)
  case atStart => exact ⟨0, _, Nat.zero_le _, rfl, HS1.out, HB1.out⟩
  case round =>
    obtain ⟨k, E, hk, rfl, hs, hl⟩ := hrel
    clear c0 c2
    obtain ⟨c0, c2⟩ := Hc.out _ hl
    have i1 : (0 : Int) ≤ (k : Int) := Int.natCast_nonneg _
    by_cases hlt : k < 5000
    · obtain ⟨ob, off, hoa, x0, x1, x2, x3, x4, x5⟩ := HO.out.at hl (show k < n by omega)
      have hin := HO.out.2 k (by omega)
      obtain ⟨⟨bs, hbs⟩, ⟨xs, hxs⟩⟩ := hin.low hl
      have HP : Hid (Calls Try.prog 10 #[.pointer (some ⟨b, 0, none⟩), .agg #[.int .i64 (os k).k, .int .i64 (os k).p, .int .i64 (os k).q, .int .i64 (os k).n, .slice (os k).ba (os k).bn (os k).bc, .slice (os k).sa (os k).sn (os k).sc]] wr fun e w' => e = .returned (.tuple #[]) ∧ Goes wr w' E W.heap.size k) := by
        have := play_any hs.ok hs.hB hs.inv (by omega) (os k) bs xs hbs hxs hin.2.2.1 hin.2.2.2.1 hin.2.2.2.2
        rw [hs.eb] at this
        exact this
      have HS : Hid (St E wr W.heap.size k b nd) := hs
      have HL : Hid (Below W.heap.size W wr) := hl
      have i2 : (k : Int) < (n : Int) := by omega
      have i3 : (k : Int) < 5000 := by omega
      generalize os k = o at x0 x1 x2 x3 x4 x5 HP
      rw [hoa] at c2
      clear hs hl hin hbs hxs hoa
      go_wp2_with (fail)
      refine HP.out.mono ?_
      rintro e w2 ⟨rfl, E1, m1, st, hm, hx⟩
      have HS2 : Hid (St E1 w2 W.heap.size (k + 1) b nd) := HS.out.step st hm hx
      have HL2 : Hid (Below W.heap.size W w2) := HL.out.trans (HS.out.low st)
      clear st hx x0 x1 x2 x3 x4 x5
      go_wp2
      exact ⟨⟨k + 1, E1, by omega, by go_num, HS2.out, HL2.out⟩, by simp [intOf]; omega⟩
    · obtain rfl : k = 5000 := by omega
      have i2 : (5000 : Int) < (n : Int) := by omega
      have HS : Hid (St E wr W.heap.size 5000 b nd) := hs
      have HL : Hid (Below W.heap.size W wr) := hl
      have HR0 : Hid (Calls Try.prog 11 #[.pointer (some ⟨b, 0, none⟩), .int .i64 0] wr fun e w1 => ∃ x y, e = .returned (.tuple #[.int .i64 x, .int .i64 y]) ∧ ∃ E1, Step wr w1 E E1 W.heap.size (256 * 5000) ∧ Nx E E1 5000 ∧ E1.up 0 = true ∧ ∀ q, E.up q = true → E1.up q = true) := by
        have := restart_up hs.ok hs.inv 0 (by rw [hs.en]; omega)
        rw [hs.eb] at this
        exact this
      clear hs hl
      go_wp2_with (fail)
      refine HR0.out.mono ?_
      rintro e w2 ⟨x0, y0, rfl, E2, st, hx, hu0, _⟩
      have HS2 : Hid (St E2 w2 W.heap.size (5000 + 1) b nd) := HS.out.step st (by omega) hx
      have HL2 : Hid (Below W.heap.size W w2) := HL.out.trans (HS.out.low st)
      have HR1 : Hid (Calls Try.prog 11 #[.pointer (some ⟨b, 0, none⟩), .int .i64 1] w2 fun e w1 => ∃ x y, e = .returned (.tuple #[.int .i64 x, .int .i64 y]) ∧ ∃ E1, Step w2 w1 E2 E1 W.heap.size (256 * (5000 + 1)) ∧ Nx E2 E1 (5000 + 1) ∧ E1.up 1 = true ∧ ∀ q, E2.up q = true → E1.up q = true) := by
        have := restart_up HS2.out.ok HS2.out.inv 1 (by rw [HS2.out.en]; omega)
        rw [HS2.out.eb] at this
        exact this
      clear st hx
      go_wp2_with (fail)
      refine HR1.out.mono ?_
      rintro e w3 ⟨x1, y1, rfl, E3, st, hx, hu1, hup⟩
      have hu03 := hup 0 hu0
      have HS3 : Hid (St E3 w3 W.heap.size (5000 + 2) b nd) := HS2.out.step st (by omega) hx
      have HL3 : Hid (Below W.heap.size W w3) := HL2.out.trans (HS2.out.low st)
      have HU0 : Hid (Calls Try.prog 12 #[.pointer (some ⟨b, 0, none⟩), .int .i64 0] w3 fun e w' => e = .returned (.bool true) ∧ w3 = w') := by
        have := up_any HS3.out.ok ((0 : Nat) : Int)
        rw [isN_nat (by rw [HS3.out.en]; omega), HS3.out.eb] at this
        simp [hu03] at this
        exact this
      have HU1 : Hid (Calls Try.prog 12 #[.pointer (some ⟨b, 0, none⟩), .int .i64 1] w3 fun e w' => e = .returned (.bool true) ∧ w3 = w') := by
        have := up_any HS3.out.ok ((1 : Nat) : Int)
        rw [isN_nat (by rw [HS3.out.en]; omega), HS3.out.eb] at this
        simp [hu1] at this
        exact this
      have HH : Hid (∀ w', Below w3.heap.size w3 w' → Calls Try.prog 13 #[.pointer (some ⟨b, 0, none⟩), .agg #[.int .i64 9, .int .i64 0, .int .i64 1, .int .i64 0, .slice none 0 0, .int .i64 0, .int .i64 0, .int .i64 0, .int .i64 0, .string ByteArray.empty, .string ByteArray.empty, .string ByteArray.empty, .slice none 0 0]] w' fun e w1 => e = .returned (.int .i64 0) ∧ ∃ E1, Step w' w1 E3 E1 W.heap.size (256 * (5000 + 2 + 1)) ∧ Nx E3 E1 (5000 + 2) ∧ E1.cut 0 1 = false ∧ E1.up = E3.up) := by
        intro w' hb'
        have := heal01 (HS3.out.still hb').ok HS3.out.inv (by omega) (by rw [HS3.out.en]; omega)
        rw [HS3.out.eb] at this
        exact this
      clear st hx hup hu0
      go_wp2_with (fail)
      refine HU0.out.mono ?_
      rintro e wu ⟨rfl, rfl⟩
      go_wp2_with (fail)
      refine HU1.out.mono ?_
      rintro e wu ⟨rfl, rfl⟩
      go_wp2_with (fail)
      refine (HH.out _ (Below.refl _ _)).mono ?_
      rintro e w4 ⟨rfl, E4, st, hx, hc4, hup4⟩
      have HS4 : Hid (St E4 w4 W.heap.size (5000 + 3) b nd) := HS3.out.step st (by omega) hx
      have HL4 : Hid (Below W.heap.size W w4) := HL3.out.trans (HS3.out.low st)
      have HU4 : Hid (E4.up 0 = true ∧ E4.up 1 = true ∧ E4.cut 0 1 = false) := by rw [hup4]; exact ⟨hu03, hu1, hc4⟩
      clear st hx hc4 hup4 hu03 hu1
      have HDn : Hid (∀ w', Below w4.heap.size w4 w' → Calls Try.prog 13 #[.pointer (some ⟨b, 0, none⟩), .agg #[.int .i64 10, .int .i64 0, .int .i64 1, .int .i64 d, .slice none 0 0, .int .i64 0, .int .i64 0, .int .i64 0, .int .i64 0, .string ByteArray.empty, .string ByteArray.empty, .string ByteArray.empty, .slice none 0 0]] w' fun e w1 => e = .returned (.int .i64 1) ∧ Below w'.heap.size w' w1) := by
        intro w' hb'
        have := delay01_no (HS4.out.still hb').ok (by rw [HS4.out.en]; omega) d hd
        rw [HS4.out.eb] at this
        exact this
      go_wp2_with (fail)
      all_goals first | (exfalso; omega) | skip
      all_goals (refine (HDn.out _ (Below.refl _ _)).mono ?_; rintro e w5 ⟨rfl, hb5⟩; go_wp2)
      all_goals first | (exfalso; omega) | (go_ret; exact ⟨by simp, bstep Hb.out (HL4.out.trans (hb5.mono HL4.out.size))⟩)
end
end Go.Proofs.Ythogcanfinjfdaa.Et
