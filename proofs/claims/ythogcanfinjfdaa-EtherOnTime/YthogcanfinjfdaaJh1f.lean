import Derived.Test.YthogcanfinjfdaaJg
namespace Go.Proofs.Ythogcanfinjfdaa.Et
open Go.RowKit Go.Maps
set_option linter.unusedVariables false
set_option linter.unusedSimpArgs false
set_option maxRecDepth 100000
section
variable {E E1 E' : En} {w w' w1 w2 w3 : World} {B K m : Nat}

set_option maxHeartbeats 4000000 in
theorem ontime_1f (nd : Nat) (rm : Int) (d : Nat) (hd1 : 1 ≤ d) (hd2 : d ≤ 16) (oa : Option Addr) (n oc : Nat) (os : Nat → Opx) (h1 : 2 ≤ nd) (h2 : nd ≤ 16) (ho : RdOps w oa n os) (hn : n ≤ 1759218604390) (hbig : 5000 < n) : Calls Try.prog 3 #[.agg (kc nd rm oa n oc), .int .i64 d, .bool false] w fun e w' => e = .returned (.bool true) ∧ Below w.heap.size w w' := by
  generalize hW : w.alloc (.cells #[.int .i64 (nd : Int), .int .i64 rm, .slice oa n oc] 24) = W
  have hbW : Below w.heap.size w W := by rw [← hW]; exact balloc (Below.refl _ w)
  have hblk : W.heap[w.heap.size]? = some (.cells #[.int .i64 (nd : Int), .int .i64 rm, .slice oa n oc] 24 (0, 0)) := by rw [← hW]; exact heap_alloc_new w _
  have Hc : Hid (∀ w', Below W.heap.size W w' → w'.cell? ⟨w.heap.size, 0, none⟩ = some (.int .i64 (nd : Int)) ∧ w'.cell? ⟨w.heap.size, 2, none⟩ = some (.slice oa n oc)) := fun w' hb => ⟨below_at hb (blk_cell hblk 0), below_at hb (blk_cell hblk 2)⟩
  have HO : Hid (RdOps W oa n os) := ho.stay hbW
  have HA : Hid (Calls Try.prog 9 #[.int .i64 (nd : Int), .int .i64 20000] W fun e w' => ∃ b bn bc bd, e = .returned (.tuple #[.pointer (some ⟨b, 0, none⟩), .int .i64 0]) ∧ En.Ok (newE b bn bc bd nd 20000 nd) w' W.heap.size 0 ∧ Below W.heap.size W w') := new_ok nd 20000 (by omega) (by omega) (by omega) (by omega)
  have Hb : Hid (Below w.heap.size w W) := hbW
  obtain ⟨c0, c2⟩ := Hc.out W (Below.refl _ _)
  have n1 : (2 : Int) ≤ (nd : Int) := by omega
  have n2 : (nd : Int) ≤ 16 := by omega
  have n3 : decide ((nd : Int) < 2) = false := by simp; omega
  have n4 : decide ((16 : Int) < (nd : Int)) = false := by simp; omega
  unfold kc
  clear hbW hblk ho
  go_enter Try.func3, Try.ntmps3
  go_wp2_with (fail)
  refine HA.out.mono ?_
  rintro e w1 ⟨b, bn, bc, bd, rfl, hE, hb1⟩
  have HS1 : Hid (St (newE b bn bc bd nd 20000 nd) w1 W.heap.size 0 b nd) := ⟨hE, inv_new b bn bc bd nd 20000 (by omega) (by omega), rfl, rfl, rfl, hb1.size⟩
  have HB1 : Hid (Below W.heap.size W w1) := hb1
  clear hE hb1 c0 c2
  obtain ⟨c0, c2⟩ := Hc.out _ HB1.out
  go_wp2
  go_loopw [9] (fun i wr => ∃ (k : Nat) (E : En), k ≤ 5000 ∧ i = .int .i64 k ∧ St E wr W.heap.size k b nd ∧ Below W.heap.size W wr) (fun i _ => 5000 - (intOf i).toNat)
  case atStart => exact ⟨0, _, Nat.zero_le _, rfl, HS1.out, HB1.out⟩
  case round =>
    obtain ⟨k, E, hk, rfl, hs, hl⟩ := hrel
    clear c0 c2
    obtain ⟨c0, c2⟩ := Hc.out _ hl
    have i1 : (0 : Int) ≤ (k : Int) := Int.natCast_nonneg _
    by_cases hlt : k < 5000
    · obtain ⟨ob, off, hoa, x0, x1, x2, x3, x4, x5⟩ := HO.out.at hl (show k < n by omega)
      have hin := HO.out.2 k (by omega)
      obtain ⟨⟨bs, hbs⟩, ⟨xs, hxs⟩⟩ := hin.low hl
      have HP : Hid (Calls Try.prog 10 #[.pointer (some ⟨b, 0, none⟩), .agg #[.int .i64 (os k).k, .int .i64 (os k).p, .int .i64 (os k).q, .int .i64 (os k).n, .slice (os k).ba (os k).bn (os k).bc, .slice (os k).sa (os k).sn (os k).sc]] wr fun e w' => e = .returned (.tuple #[]) ∧ Goes wr w' E W.heap.size k) := by
        have := play_any hs.ok hs.hB hs.inv (by omega) (os k) bs xs hbs hxs hin.2.2.1 hin.2.2.2.1 hin.2.2.2.2
        rw [hs.eb] at this
        exact this
      have HS : Hid (St E wr W.heap.size k b nd) := hs
      have HL : Hid (Below W.heap.size W wr) := hl
      have i2 : (k : Int) < (n : Int) := by omega
      have i3 : (k : Int) < 5000 := by omega
      generalize os k = o at x0 x1 x2 x3 x4 x5 HP
      rw [hoa] at c2
      clear hs hl hin hbs hxs hoa
      go_wp2_with (fail)
      refine HP.out.mono ?_
      rintro e w2 ⟨rfl, E1, m1, st, hm, hx⟩
      have HS2 : Hid (St E1 w2 W.heap.size (k + 1) b nd) := HS.out.step st hm hx
      have HL2 : Hid (Below W.heap.size W w2) := HL.out.trans (HS.out.low st)
      clear st hx x0 x1 x2 x3 x4 x5
      go_wp2
      exact ⟨⟨k + 1, E1, by omega, by go_num, HS2.out, HL2.out⟩, by simp [intOf]; omega⟩
    · obtain rfl : k = 5000 := by omega
      have i2 : (5000 : Int) < (n : Int) := by omega
      have HS : Hid (St E wr W.heap.size 5000 b nd) := hs
      have HL : Hid (Below W.heap.size W wr) := hl
      have HR0 : Hid (Calls Try.prog 11 #[.pointer (some ⟨b, 0, none⟩), .int .i64 0] wr fun e w1 => ∃ x y, e = .returned (.tuple #[.int .i64 x, .int .i64 y]) ∧ ∃ E1, Step wr w1 E E1 W.heap.size (256 * 5000) ∧ Nx E E1 5000 ∧ E1.up 0 = true ∧ ∀ q, E.up q = true → E1.up q = true) := by
        have := restart_up hs.ok hs.inv 0 (by rw [hs.en]; omega)
        rw [hs.eb] at this
        exact this
      clear hs hl
      go_wp2_with (fail)
      refine HR0.out.mono ?_
      rintro e w2 ⟨x0, y0, rfl, E2, st, hx, hu0, _⟩
      have HS2 : Hid (St E2 w2 W.heap.size (5000 + 1) b nd) := HS.out.step st (by omega) hx
      have HL2 : Hid (Below W.heap.size W w2) := HL.out.trans (HS.out.low st)
      have HR1 : Hid (Calls Try.prog 11 #[.pointer (some ⟨b, 0, none⟩), .int .i64 1] w2 fun e w1 => ∃ x y, e = .returned (.tuple #[.int .i64 x, .int .i64 y]) ∧ ∃ E1, Step w2 w1 E2 E1 W.heap.size (256 * (5000 + 1)) ∧ Nx E2 E1 (5000 + 1) ∧ E1.up 1 = true ∧ ∀ q, E2.up q = true → E1.up q = true) := by
        have := restart_up HS2.out.ok HS2.out.inv 1 (by rw [HS2.out.en]; omega)
        rw [HS2.out.eb] at this
        exact this
      clear st hx
      go_wp2_with (fail)
      refine HR1.out.mono ?_
      rintro e w3 ⟨x1, y1, rfl, E3, st, hx, hu1, hup⟩
      have hu03 := hup 0 hu0
      have HS3 : Hid (St E3 w3 W.heap.size (5000 + 2) b nd) := HS2.out.step st (by omega) hx
      have HL3 : Hid (Below W.heap.size W w3) := HL2.out.trans (HS2.out.low st)
      have HU0 : Hid (Calls Try.prog 12 #[.pointer (some ⟨b, 0, none⟩), .int .i64 0] w3 fun e w' => e = .returned (.bool true) ∧ w3 = w') := by
        have := up_any HS3.out.ok ((0 : Nat) : Int)
        rw [isN_nat (by rw [HS3.out.en]; omega), HS3.out.eb] at this
        simp [hu03] at this
        exact this
      have HU1 : Hid (Calls Try.prog 12 #[.pointer (some ⟨b, 0, none⟩), .int .i64 1] w3 fun e w' => e = .returned (.bool true) ∧ w3 = w') := by
        have := up_any HS3.out.ok ((1 : Nat) : Int)
        rw [isN_nat (by rw [HS3.out.en]; omega), HS3.out.eb] at this
        simp [hu1] at this
        exact this
      have HH : Hid (∀ w', Below w3.heap.size w3 w' → Calls Try.prog 13 #[.pointer (some ⟨b, 0, none⟩), .agg #[.int .i64 9, .int .i64 0, .int .i64 1, .int .i64 0, .slice none 0 0, .int .i64 0, .int .i64 0, .int .i64 0, .int .i64 0, .string ByteArray.empty, .string ByteArray.empty, .string ByteArray.empty, .slice none 0 0]] w' fun e w1 => e = .returned (.int .i64 0) ∧ ∃ E1, Step w' w1 E3 E1 W.heap.size (256 * (5000 + 2 + 1)) ∧ Nx E3 E1 (5000 + 2) ∧ E1.cut 0 1 = false ∧ E1.up = E3.up) := by
        intro w' hb'
        have := heal01 (HS3.out.still hb').ok HS3.out.inv (by omega) (by rw [HS3.out.en]; omega)
        rw [HS3.out.eb] at this
        exact this
      clear st hx hup hu0
      go_wp2_with (fail)
      refine HU0.out.mono ?_
      rintro e wu ⟨rfl, rfl⟩
      go_wp2_with (fail)
      refine HU1.out.mono ?_
      rintro e wu ⟨rfl, rfl⟩
      go_wp2_with (fail)
      refine (HH.out _ (Below.refl _ _)).mono ?_
      rintro e w4 ⟨rfl, E4, st, hx, hc4, hup4⟩
      have HS4 : Hid (St E4 w4 W.heap.size (5000 + 3) b nd) := HS3.out.step st (by omega) hx
      have HL4 : Hid (Below W.heap.size W w4) := HL3.out.trans (HS3.out.low st)
      have HU4 : Hid (E4.up 0 = true ∧ E4.up 1 = true ∧ E4.cut 0 1 = false) := by rw [hup4]; exact ⟨hu03, hu1, hc4⟩
      clear st hx hc4 hup4 hu03 hu1
      have d1 : (1 : Int) ≤ (d : Int) := by omega
      have d2 : (d : Int) ≤ 16 := by omega
      have d3 : decide ((d : Int) < 1) = false := by simp; omega
      have d4 : decide ((16 : Int) < (d : Int)) = false := by simp; omega
      have HDy : Hid (∀ w', Below w4.heap.size w4 w' → Calls Try.prog 13 #[.pointer (some ⟨b, 0, none⟩), .agg #[.int .i64 10, .int .i64 0, .int .i64 1, .int .i64 (d : Int), .slice none 0 0, .int .i64 0, .int .i64 0, .int .i64 0, .int .i64 0, .string ByteArray.empty, .string ByteArray.empty, .string ByteArray.empty, .slice none 0 0]] w' fun e w1 => e = .returned (.int .i64 0) ∧ ∃ E1, Step w' w1 E4 E1 W.heap.size (256 * (5000 + 3 + 1)) ∧ Nx E4 E1 (5000 + 3) ∧ E1.cut = E4.cut ∧ E1.up = E4.up ∧ E1.dl 0 1 = d) := by
        intro w' hb'
        have := delay01 (HS4.out.still hb').ok HS4.out.inv (by omega) (by rw [HS4.out.en]; omega) (d : Int) d1 d2
        rw [HS4.out.eb] at this
        exact this
      go_wp2_with (fail)
      all_goals first | (exfalso; omega) | skip
      refine (HDy.out _ (Below.refl _ _)).mono ?_
      rintro e w5 ⟨rfl, E5, st, hx, hc5, hu5, hdl⟩
      have HS5 : Hid (St E5 w5 W.heap.size (5000 + 4) b nd) := HS4.out.step st (by omega) hx
      have HL5 : Hid (Below W.heap.size W w5) := HL4.out.trans (HS4.out.low st)
      have HU5 : Hid (E5.up 0 = true ∧ E5.up 1 = true ∧ E5.cut 0 1 = false ∧ E5.dl 0 1 = d) := by rw [hc5, hu5]; exact ⟨HU4.out.1, HU4.out.2.1, HU4.out.2.2, hdl⟩
      have HP5 : Hid (Calls Try.prog 14 #[.pointer (some ⟨b, 0, none⟩), .int .i64 0, .int .i64 1, .slice (some ⟨w5.heap.size, 0, none⟩) 1 1] (w5.alloc (.cells #[.int .u8 7] 5)) fun e w1 => e = .returned (.tuple #[.int .i64 (E5.last + 1), .int .i64 0]) ∧ ∃ f a c, Step w5 w1 E5 (added E5 f a c) W.heap.size (256 * (5000 + 4)) ∧ Nx E5 (added E5 f a c) (5000 + 4) ∧ f.id = E5.last + 1 ∧ f.due = E5.clock + d ∧ f.src = 0 ∧ f.dst = 1) := by
        have hb := (Below.refl w5.heap.size w5).alloc (Nat.le_refl _) (.cells #[.int .u8 7] 5)
        have hs := HS5.out.still hb
        have hnum := HS5.out.inv.num
        have := post01 hs.ok hs.hB hs.inv (by omega) (by rw [hs.en]; omega) HU5.out.1 HU5.out.2.2.1 (by rw [hs.rm]; omega) 1 (by omega) [7] _ _ (rd_uno w5 7 (by omega))
        rw [HS5.out.eb, HU5.out.2.2.2] at this
        exact this.mono fun e w1 ⟨x1, f, a, c, st, x2⟩ => ⟨x1, f, a, c, st.pre hb, x2⟩
      clear st hx hc5 hu5 hdl
      go_wp2_with (fail)
      refine HP5.out.mono ?_
      rintro e w6 ⟨rfl, f, a6, c6, st, hx, e1, e2, e3, e4⟩
      have HS6 : Hid (St (added E5 f a6 c6) w6 W.heap.size (5000 + 5) b nd) := HS5.out.step st (by omega) hx
      have HL6 : Hid (Below W.heap.size W w6) := HL5.out.trans (HS5.out.low st)
      have HX6 : Hid (Nx E5 (added E5 f a6 c6) (5000 + 4) ∧ f.id = E5.last + 1 ∧ f.due = E5.clock + d ∧ f.src = 0 ∧ f.dst = 1) := ⟨hx, e1, e2, e3, e4⟩
      clear st hx e1 e2 e3 e4
      have HU6 : Hid ((added E5 f a6 c6).last = E5.last + 1) := wN_is HS5.out.inv (by omega)
      have HJ : Hid (Calls Try.prog 14 #[.pointer (some ⟨b, 0, none⟩), .int .i64 0, .int .i64 1, .slice (some ⟨w6.heap.size, 0, none⟩) 2 2] (w6.alloc (.cells #[.int .u8 7, .int .u8 8] 5)) fun e w1 => e = .returned (.tuple #[.int .i64 (E5.last + 1 + 1), .int .i64 0]) ∧ ∃ f2 a c, Step w6 w1 (added E5 f a6 c6) (added (added E5 f a6 c6) f2 a c) W.heap.size (256 * (5000 + 5)) ∧ Nx (added E5 f a6 c6) (added (added E5 f a6 c6) f2 a c) (5000 + 5) ∧ f2.id = (added E5 f a6 c6).last + 1 ∧ f2.due = (added E5 f a6 c6).clock + d ∧ f2.src = 0 ∧ f2.dst = 1) := by
        have hb := (Below.refl w6.heap.size w6).alloc (Nat.le_refl _) (.cells #[.int .u8 7, .int .u8 8] 5)
        have hs := HS6.out.still hb
        have hnum := HS6.out.inv.num
        have hdl : (added E5 f a6 c6).dl 0 1 = d := HU5.out.2.2.2
        have := post01 hs.ok hs.hB hs.inv (by omega) (by rw [hs.en]; omega) HU5.out.1 HU5.out.2.2.1 (by rw [hs.rm]; omega) 2 (by omega) [7, 8] _ _ (rd_two w6 7 8 (by omega) (by omega))
        rw [HS6.out.eb, hdl, HU6.out] at this
        refine this.mono fun e w1 ⟨x1, f, a, c, st, x2⟩ => ⟨x1, f, a, c, st.pre hb, ?_⟩
        rw [HU6.out]
        exact x2
      have HQ0 : Hid (∀ f2 a2 c2, Nx (added E5 f a6 c6) (added (added E5 f a6 c6) f2 a2 c2) (5000 + 5) → f2.id = (added E5 f a6 c6).last + 1 → f2.due = (added E5 f a6 c6).clock + d → f2.src = 0 → f2.dst = 1 → Qt (added (added E5 f a6 c6) f2 a2 c2) b (E5.last + 1) (E5.last + 1 + 1) E5.clock d 0 1 (5000 + 6)) := by
        intro f2 a2 c2 x2 g1 g2 g3 g4
        have := qt_first HS5.out.inv (by omega) hd1 HU5.out.2.2.1 HU5.out.2.1 HX6.out.1 HX6.out.2.1 HX6.out.2.2.1 HX6.out.2.2.2.1 HX6.out.2.2.2.2 x2 g1 g2 g3 g4
        rw [HS5.out.eb] at this
        exact this
      generalize hE6 : added E5 f a6 c6 = E6 at *
      clear hE6
      have hlb := HS5.out.inv.la
      generalize E5.last + 1 = iv at *
      generalize E5.clock = cc at *
      have hij : ¬ (iv + 1 ≤ iv) := by omega
      have hij2 : decide (iv + 1 ≤ iv) = false := by simp; omega
      clear HR0 HR1 HU0 HU1 HH HDy HP5 HU4
      go_wp2_with (fail)
      refine HJ.out.mono ?_
      rintro e w8 ⟨rfl, f2, a8, c8, st, hx, g1, g2, g3, g4⟩
      have HQ8 : Hid (Qt (added E6 f2 a8 c8) b iv (iv + 1) cc d 0 1 (5000 + 6)) := HQ0.out f2 a8 c8 hx g1 g2 g3 g4
      have HE8 : Hid ((added E6 f2 a8 c8).Ok w8 W.heap.size (256 * (5000 + 6))) := st.ok.mono (by omega)
      have HL8 : Hid (Below W.heap.size W w8) := HL6.out.trans (HS6.out.low st)
      generalize added E6 f2 a8 c8 = E8 at HQ8 HE8
      clear st hx g1 g2 g3 g4
      go_wp2
      go_loopw [14] (fun i wr => ∃ (r : Nat) (E : En), 1 ≤ r ∧ r ≤ d + 0 + 2 ∧ i = .int .i64 r ∧ E.Ok wr W.heap.size (256 * (5000 + 6)) ∧ Qt E b iv (iv + 1) cc d 0 r (5000 + 6 + (r - 1)) ∧ Below W.heap.size W wr) (fun i _ => d + 0 + 3 - (intOf i).toNat)
      case atStart => exact ⟨1, E8, by omega, by omega, by first | rfl | go_num, HE8.out, HQ8.out, HL8.out⟩
      case round =>
        obtain ⟨r, E9, hr1, hr2, rfl, he9, hq9, hl9⟩ := hrel
        have r0 : (0 : Int) ≤ (r : Int) := Int.natCast_nonneg _
        by_cases hlt : r ≤ d + 0 + 1
        · have r1 : (r : Int) ≤ (d : Int) + 0 + 1 := by omega
          have hnum := hq9.inv.num
          have HRd9 : Hid (Calls Try.prog 15 #[.pointer (some ⟨b, 0, none⟩)] wr fun e w' => ∃ a n c, e = .returned (.slice a n c) ∧ n ≤ 20000 ∧ RdF w' a n ((E9.fs.filter (comes E9)).map Fx.d) ∧ Step wr w' E9 { E9 with clock := ckN E9, fs := E9.fs.filter (stays E9) } W.heap.size (256 * (5000 + 6))) := by
            have := round_any2 he9 hl9.size (by omega)
            rw [← hq9.eb]
            refine this.mono fun e w' ⟨a, n, c, x1, x2, x3⟩ => ⟨a, n, c, x1, ?_, x2.rdf, x3⟩
            obtain ⟨L, l1, _, l3, _⟩ := x2
            have := l1.length_le
            omega
          have HQn : Hid (Qt { E9 with clock := ckN E9, fs := E9.fs.filter (stays E9) } b iv (iv + 1) cc d 0 (r + 1) (5000 + 6 + (r + 1 - 1))) := by
            have := hq9.round (by omega)
            rw [show 5000 + 6 + (r - 1) + 1 = 5000 + 6 + (r + 1 - 1) by omega] at this
            exact this
          have HCi := hq9.cnti (by omega)
          have HCj := hq9.cntj (by omega)
          have HE9 : Hid (E9.Ok wr W.heap.size (256 * (5000 + 6))) := he9
          have HL9 : Hid (Below W.heap.size W wr) := hl9
          clear he9 hq9 hl9
          go_wp2_with (fail)
          refine HRd9.out.mono ?_
          rintro e wa ⟨la, ln, lc, rfl, hln, hrd, st⟩
          have HCi2 : Hid (Calls Try.prog 16 #[.slice la ln lc, .int .i64 iv] wa fun e w' => e = .returned (.int .i64 (if r = d then 1 else 0 : Nat)) ∧ wa = w') := by
            have := count_any (c := lc) hrd (by omega) iv
            rw [HCi] at this
            exact this
          have HCj2 : Hid (Calls Try.prog 16 #[.slice la ln lc, .int .i64 (iv + 1)] wa fun e w' => e = .returned (.int .i64 (if r = d + 0 then 1 else 0 : Nat)) ∧ wa = w') := by
            have := count_any (c := lc) hrd (by omega) (iv + 1)
            rw [HCj] at this
            exact this
          have HEa : Hid (({ E9 with clock := ckN E9, fs := E9.fs.filter (stays E9) } : En).Ok wa W.heap.size (256 * (5000 + 6))) := st.ok
          have HLa : Hid (Below W.heap.size W wa) := HL9.out.trans (st.kept.below HL9.out.size (fun j hj e => by have := HE9.out.geOwn e; omega))
          clear hrd st HCi HCj hln
          by_cases ei : r = d
          · have HCi3 : Hid (Calls Try.prog 16 #[.slice la ln lc, .int .i64 iv] wa fun e w' => e = .returned (.int .i64 1) ∧ wa = w') := by
              have := HCi2.out
              rw [if_pos ei] at this
              exact this
            have ei2 : ((r : Int) == (d : Int)) = true := by rw [beq_iff_eq]; omega
            clear HCi2
            by_cases ej : r = d + 0
            · have HCj3 : Hid (Calls Try.prog 16 #[.slice la ln lc, .int .i64 (iv + 1)] wa fun e w' => e = .returned (.int .i64 1) ∧ wa = w') := by
                have := HCj2.out
                rw [if_pos ej] at this
                exact this
              have ej2 : ((r : Int) == (d : Int)) = true := by rw [beq_iff_eq]; omega
              have ej3 : ((r : Int) == (d : Int) + 0) = true := by rw [beq_iff_eq]; omega
              clear HCj2
              go_wp2_with (fail)
              refine HCi3.out.mono ?_
              rintro e wb ⟨rfl, rfl⟩
              go_wp2_with (fail)
              refine HCj3.out.mono ?_
              rintro e wb ⟨rfl, rfl⟩
              go_wp2
              all_goals first
                | (exfalso; omega)
                | exact ⟨⟨r + 1, _, by omega, by omega, by go_num, HEa.out, HQn.out, HLa.out⟩, by simp [intOf]; omega⟩
                | (go_roundw
                   case rel => exact ⟨r + 1, _, by omega, by omega, by go_num, HEa.out, HQn.out, HLa.out⟩
                   case measure => simp [intOf]; omega)
            · exfalso; omega
          · have HCi3 : Hid (Calls Try.prog 16 #[.slice la ln lc, .int .i64 iv] wa fun e w' => e = .returned (.int .i64 0) ∧ wa = w') := by
              have := HCi2.out
              rw [if_neg ei] at this
              exact this
            have ei2 : ((r : Int) == (d : Int)) = false := by rw [beq_eq_false_iff_ne]; omega
            clear HCi2
            by_cases ej : r = d + 0
            · exfalso; omega
            · have HCj3 : Hid (Calls Try.prog 16 #[.slice la ln lc, .int .i64 (iv + 1)] wa fun e w' => e = .returned (.int .i64 0) ∧ wa = w') := by
                have := HCj2.out
                rw [if_neg ej] at this
                exact this
              have ej2 : ((r : Int) == (d : Int)) = false := by rw [beq_eq_false_iff_ne]; omega
              have ej3 : ((r : Int) == (d : Int) + 0) = false := by rw [beq_eq_false_iff_ne]; omega
              clear HCj2
              go_wp2_with (fail)
              refine HCi3.out.mono ?_
              rintro e wb ⟨rfl, rfl⟩
              go_wp2_with (fail)
              refine HCj3.out.mono ?_
              rintro e wb ⟨rfl, rfl⟩
              go_wp2
              all_goals first
                | (exfalso; omega)
                | exact ⟨⟨r + 1, _, by omega, by omega, by go_num, HEa.out, HQn.out, HLa.out⟩, by simp [intOf]; omega⟩
                | (go_roundw
                   case rel => exact ⟨r + 1, _, by omega, by omega, by go_num, HEa.out, HQn.out, HLa.out⟩
                   case measure => simp [intOf]; omega)
        · obtain rfl : r = d + 0 + 2 := by omega
          have hnum := hq9.inv.num
          have HF1 : Hid (∀ w', Below wr.heap.size wr w' → Calls Try.prog 17 #[.pointer (some ⟨b, 0, none⟩)] w' fun e w2 => ∃ a, e = .returned (.slice a E9.fs.length E9.fs.length) ∧ RdF w2 a E9.fs.length (E9.fs.map Fx.d) ∧ Below w'.heap.size w' w2) := by
            intro w' hb'
            have := flights_any (he9.still hb') (by omega) hq9.inv.szE
            rw [hq9.eb] at this
            exact this
          have hci := hq9.end_i (by omega)
          have hcj := hq9.end_j (by omega)
          have HL9 : Hid (Below W.heap.size W wr) := hl9
          have hfl : E9.fs.length ≤ 2199023255552 := by omega
          generalize E9.fs.length = L at HF1 hfl
          generalize E9.fs.map Fx.d = DS at HF1 hci hcj
          have Hci : Hid (cnt DS iv = 0 ∧ cnt DS (iv + 1) = 0) := ⟨hci, hcj⟩
          clear he9 hq9 hl9 hci hcj hnum
          go_wp2_with (fail)
          all_goals first | (exfalso; omega) | skip
          refine (HF1.out _ (Below.refl _ _)).mono ?_
          rintro e wa ⟨fa, rfl, hra, hba⟩
          have HC1 : Hid (Calls Try.prog 16 #[.slice fa L L, .int .i64 iv] wa fun e w' => e = .returned (.int .i64 0) ∧ wa = w') := by
            have := count_any (c := L) hra hfl iv
            rw [Hci.out.1] at this
            exact this
          have HBa : Hid (Below wr.heap.size wr wa) := hba
          clear hra hba
          go_wp2_with (fail)
          refine HC1.out.mono ?_
          rintro e wc ⟨rfl, rfl⟩
          go_wp2_with (fail)
          refine (HF1.out _ HBa.out).mono ?_
          rintro e wd ⟨fd, rfl, hrd, hbd⟩
          have HC2 : Hid (Calls Try.prog 16 #[.slice fd L L, .int .i64 (iv + 1)] wd fun e w' => e = .returned (.int .i64 0) ∧ wd = w') := by
            have := count_any (c := L) hrd hfl (iv + 1)
            rw [Hci.out.2] at this
            exact this
          have HBd : Hid (Below wr.heap.size wr wd) := bstep HBa.out hbd
          clear hrd hbd
          go_wp2_with (fail)
          refine HC2.out.mono ?_
          rintro e wc ⟨rfl, rfl⟩
          go_wp2
          all_goals (go_ret; exact ⟨by simp, bstep Hb.out (HL9.out.trans (HBd.out.mono HL9.out.size))⟩)
end
end Go.Proofs.Ythogcanfinjfdaa.Et
