import Derived.Test.YtcieinejjkddfabPw2
namespace Go.Proofs.Ytcieinejjkddfab.Qm
open Go.RowKit Mb
set_option linter.unusedVariables false
set_option maxRecDepth 100000
set_option linter.unusedSimpArgs false
section
variable {w w' : World}
set_option maxHeartbeats 16000000 in
theorem turns_law {ao1 : Option Addr} {n1 c1 : Nat} {xs1 : List Int} (hr1 : RdI w ao1 n1 c1 xs1) (hn1 : n1 ≤ 17592186043904) {oo1 : Option Addr} {m1 d1 : Nat} {f1 : Nat → Ow} (ho1 : RdOw w oo1 m1 d1 f1) (hm1 : m1 ≤ 2299999999999) {ao2 : Option Addr} {n2 c2 : Nat} {xs2 : List Int} (hr2 : RdI w ao2 n2 c2 xs2) (hn2 : n2 ≤ 17592186043904) {oo2 : Option Addr} {m2 d2 : Nat} {f2 : Nat → Ow} (ho2 : RdOw w oo2 m2 d2 f2) (hm2 : m2 ≤ 2299999999999) : Calls Try.prog 6 #[.agg #[.slice ao1 n1 c1, .slice oo1 m1 d1], .agg #[.slice ao2 n2 c2, .slice oo2 m2 d2]] w fun e w' => e = .returned (.bool true) ∧ Below w.heap.size w w' := by
  generalize hW1 : w.alloc (.cells #[.slice ao1 n1 c1, .slice oo1 m1 d1] 42) = W1
  generalize hW2 : W1.alloc (.cells #[.slice ao2 n2 c2, .slice oo2 m2 d2] 42) = W2
  have b1 : Below w.heap.size w W1 := hW1 ▸ balloc (Below.refl _ _)
  have b2 : Below W1.heap.size W1 W2 := hW2 ▸ balloc (Below.refl _ _)
  have s1 : W1.heap.size = w.heap.size + 1 := by rw [← hW1]; simp
  have kb1 : W1.heap[w.heap.size]? = some (.cells #[.slice ao1 n1 c1, .slice oo1 m1 d1] 42 (0, 0)) := by rw [← hW1]; exact heap_alloc_new w _
  have kb2 : W2.heap[W1.heap.size]? = some (.cells #[.slice ao2 n2 c2, .slice oo2 m2 d2] 42 (0, 0)) := by rw [← hW2]; exact heap_alloc_new W1 _
  rw [s1] at kb2
  have kb1' : W2.heap[w.heap.size]? = some (.cells #[.slice ao1 n1 c1, .slice oo1 m1 d1] 42 (0, 0)) := (b2.block _ (by omega)).trans kb1
  have HQ1 : Hid (W2.rangeAt w.heap.size 0 [.slice ao1 n1 c1, .slice oo1 m1 d1]) := blk_range kb1'
  have HQ2 : Hid (W2.rangeAt (w.heap.size + 1) 0 [.slice ao2 n2 c2, .slice oo2 m2 d2]) := blk_range kb2
  have HC1 : Hid (W2.cell? ⟨w.heap.size, 1, none⟩ = some (.slice oo1 m1 d1)) := blk_cell kb1' 1
  have HC2 : Hid (W2.cell? ⟨w.heap.size + 1, 1, none⟩ = some (.slice oo2 m2 d2)) := blk_cell kb2 1
  have HBW : Hid (Below w.heap.size w W2) := bstep b1 b2
  have HR1 : Hid (RdI W2 ao1 n1 c1 xs1) := hr1.still HBW.out
  have HR2 : Hid (RdI W2 ao2 n2 c2 xs2) := hr2.still HBW.out
  have HO1 : Hid (RdOw W2 oo1 m1 d1 f1) := ho1.still HBW.out
  have HO2 : Hid (RdOw W2 oo2 m2 d2 f2) := ho2.still HBW.out
  obtain ⟨M, hM1, hM2, hM⟩ : ∃ M, m1 ≤ M ∧ m2 ≤ M ∧ M ≤ 2299999999999 := ⟨2299999999999, hm1, hm2, Nat.le_refl _⟩
  clear hr1 hr2 ho1 ho2 b1 b2 kb1 kb1' kb2
  go_enter Try.func6, Try.ntmps6
  go_wp2_with (first
    | (refine at_load 42 (.tmp 2) rfl ?_; refine load_mid 42 (.tmp 2) HQ1.out _ Try.underlying42 rfl info_wat rfl rfl rfl ?_)
    | fail)
  refine (watch_any HR1.out hn1 (.slice oo1 m1 d1)).mono ?_
  rintro e w1 ⟨p1, q1, rfl, hy1, hno1, hb1⟩
  have HB1 : Hid (Below W2.heap.size W2 w1) := hb1
  have HQ2' : Hid (w1.rangeAt (w.heap.size + 1) 0 [.slice ao2 n2 c2, .slice oo2 m2 d2]) := below_range hb1 HQ2.out
  go_wp2_with (first
    | (refine at_load 42 (.tmp 3) rfl ?_; refine load_mid 42 (.tmp 3) HQ2'.out _ Try.underlying42 rfl info_wat rfl rfl rfl ?_)
    | fail)
  refine (watch_any (HR2.out.still HB1.out) hn2 (.slice oo2 m2 d2)).mono ?_
  rintro e w2 ⟨p2, q2, rfl, hy2, hno2, hb2⟩
  have HB2 : Hid (Below W2.heap.size W2 w2) := bstep HB1.out hb2
  cases hok1 : okI xs1 with
  | false =>
    obtain ⟨rfl, rfl⟩ := hno1 hok1
    clear hy1 hno1 hb1 hy2 hno2 hb2
    go_wp2
    go_ret
    exact ⟨rfl, bstep HBW.out HB2.out⟩
  | true =>
  obtain ⟨A1, R1, rfl, rfl, hP1, hE1⟩ := hy1 hok1
  cases hok2 : okI xs2 with
  | false =>
    obtain ⟨rfl, rfl⟩ := hno2 hok2
    clear hy1 hno1 hb1 hy2 hno2 hb2
    go_wp2
    go_ret
    exact ⟨rfl, bstep HBW.out HB2.out⟩
  | true =>
    obtain ⟨A2, R2, rfl, rfl, hP2, hE2⟩ := hy2 hok2
    have HS : Hid (St2 A1.b R1.b A2.b R2.b W2.heap.size 0 0 w2) := by
      have hz := hb1.size
      refine ⟨A1, R1, A2, R2, rfl, rfl, rfl, rfl, ⟨hP1.still hb2, ⟨hP2.a, Nat.le_trans hz hP2.ab, hP2.r.lower hz, hP2.s⟩, ?_, ?_, ?_⟩, by rw [hE1]; exact Nat.le_refl _, by rw [hE2]; exact Nat.le_refl _⟩
      · have h1 := lt_heap hP1.a.blk
        have h2 := hP2.ab
        omega
      · have h1 := lt_heap hP1.r.blk
        have h2 := hP2.r.bB
        omega
      · intro g h1 h2
        have h3 := (World.ownsRow.lt hP1.r.row g h1).2
        have h4 := (World.ownsRow.lt hP2.r.row g h2).1
        omega
    have x1 := below_at HB2.out HC1.out
    have x2 := below_at HB2.out HC2.out
    clear hy1 hno1 hb1 hy2 hno2 hb2 hP1 hE1 hP2 hE2
    generalize A1.b = b1 at *
    generalize R1.b = r1 at *
    generalize A2.b = b2 at *
    generalize R2.b = r2 at *
    go_wp2_with (fail)
    go_loopw [11, 12] (fun i y wr => ∃ k : Nat, k ≤ M ∧ i = .int .i64 (k : Int) ∧ Hid (St2 b1 r1 b2 r2 W2.heap.size k k wr) ∧ Hid (Below W2.heap.size W2 wr)) (fun i _ _ => M - (intOf i).toNat)
    case atStart => exact ⟨0, Nat.zero_le _, rfl, HS.out, HB2.out⟩
    case round =>
    obtain ⟨k, hk, rfl, HS2, HBk⟩ := hrel
    clear x1 x2
    have x1 := below_at HBk.out HC1.out
    have x2 := below_at HBk.out HC2.out
    have i1 : (0 : Int) ≤ (k : Int) := Int.natCast_nonneg _
    have HBz1 : Hid (W2.heap.size ≤ wr.heap.size) := HBk.out.size
    have HBz2 := HBz1
    by_cases h1 : k < m1
    · by_cases h2 : k < m2
      · skip
        have HM1 : Hid (Rd3 wr (f1 k).mo (f1 k).mn (f1 k).mc (f1 k).v.ms ∧ (f1 k).mn ≤ 5864062014634 ∧ ((f1 k).mn ≠ 0 → ∀ b off, (f1 k).mo = some ⟨b, off, none⟩ → b < W2.heap.size)) := ⟨((HO1.out.still HBk.out).mem k h1).1, ((HO1.out.still HBk.out).mem k h1).2, fun h0 => ((HO1.out.mem k h1).1).lt h0⟩
        obtain ⟨g1, o1, hg1, hc1⟩ : ∃ b off, oo1 = some ⟨b, off, none⟩ ∧ ∀ i, i < m1 → wr.rangeAt b (off + i * 6) (f1 i).cs := (HO1.out.still HBk.out).at_.elim (fun h => by omega) id
        have HX1 : Hid (wr.rangeAt g1 (o1 + k * 6) [.int .i64 (f1 k).k, .int .i64 (f1 k).v.ep, .int .i64 (f1 k).v.ld, .int .i64 (f1 k).v.ic, .int .i64 (f1 k).v.cd, .slice (f1 k).mo (f1 k).mn (f1 k).mc]) := hc1 k h1
        rw [hg1] at x1
        clear hg1 hc1
        have z1 : (k : Int) < (m1 : Int) := by omega
        have z2 : (k : Int) < (m2 : Int) := by omega
        generalize f1 k = q1 at *
        go_wp2_with (first
          | (refine at_load 54 (.tmp 68) rfl ?_; refine load_mid 54 (.tmp 68) HX1.out _ Try.underlying54 rfl info_op rfl rfl rfl ?_)
          | fail)
        refine (HS2.out.go HBk.out.size (by omega) q1 HM1.out.1 HM1.out.2.1 HM1.out.2.2).mono ?_
        rintro e w3 ⟨rfl, hs, hb⟩
        have HB3a : Hid (Below W2.heap.size W2 w3) := HBk.out.trans hb
        have HS2a : Hid (St2 b1 r1 b2 r2 W2.heap.size (k + 1) k w3) := hs
        have y2 := below_at HB3a.out HC2.out
        clear hs hb x2
        have HM2 : Hid (Rd3 w3 (f2 k).mo (f2 k).mn (f2 k).mc (f2 k).v.ms ∧ (f2 k).mn ≤ 5864062014634 ∧ ((f2 k).mn ≠ 0 → ∀ b off, (f2 k).mo = some ⟨b, off, none⟩ → b < W2.heap.size)) := ⟨((HO2.out.still HB3a.out).mem k h2).1, ((HO2.out.still HB3a.out).mem k h2).2, fun h0 => ((HO2.out.mem k h2).1).lt h0⟩
        obtain ⟨g2, o2, hg2, hc2⟩ : ∃ b off, oo2 = some ⟨b, off, none⟩ ∧ ∀ i, i < m2 → w3.rangeAt b (off + i * 6) (f2 i).cs := (HO2.out.still HB3a.out).at_.elim (fun h => by omega) id
        have HX2 : Hid (w3.rangeAt g2 (o2 + k * 6) [.int .i64 (f2 k).k, .int .i64 (f2 k).v.ep, .int .i64 (f2 k).v.ld, .int .i64 (f2 k).v.ic, .int .i64 (f2 k).v.cd, .slice (f2 k).mo (f2 k).mn (f2 k).mc]) := hc2 k h2
        rw [hg2] at y2
        clear hg2 hc2
        generalize f2 k = q2 at *
        go_wp2_with (first
          | (refine at_load 54 (.tmp 84) rfl ?_; refine load_mid 54 (.tmp 84) HX2.out _ Try.underlying54 rfl info_op rfl rfl rfl ?_)
          | fail)
        refine (HS2a.out.symm.go HB3a.out.size (by omega) q2 HM2.out.1 HM2.out.2.1 HM2.out.2.2).mono ?_
        rintro e w5 ⟨rfl, hs, hb⟩
        have HB3 : Hid (Below W2.heap.size W2 w5) := HB3a.out.trans hb
        have HS3 : Hid (St2 b1 r1 b2 r2 W2.heap.size (k + 1) (k + 1) w5) := hs.symm
        clear hs hb
        go_wp2_with (fail)
        go_loopw [12] (fun j wq => ∃ z : Nat, 2 ≤ z ∧ z ≤ 5 ∧ j = .int .i64 (z : Int) ∧ Hid (Below w5.heap.size w5 wq)) (fun j _ => 5 - (intOf j).toNat)
        case atStart => exact ⟨2, Nat.le_refl _, by omega, rfl, Below.refl _ _⟩
        case round =>
          obtain ⟨z, hz2, hz5, rfl, HBz⟩ := hrel
          by_cases hz : z ≤ 4
          · have y1 : (z : Int) ≤ 4 := by omega
            have HSz := HS3.out.still HBz.out
            have HSq : Hid (St2 b1 r1 b2 r2 W2.heap.size (k + 1) (k + 1) wr) := HSz
            clear HSz
            go_wp2_with (fail)
            refine (HSq.out.asks (by omega) (z : Int)).mono ?_
            rintro e w6 ⟨rfl, hb6⟩
            go_wp2_with (fail)
            refine ((HSq.out.still hb6).symm.asks (by omega) (z : Int)).mono ?_
            rintro e w7 ⟨rfl, hb7⟩
            have HB7 : Hid (Below w5.heap.size w5 w7) := bstep HBz.out (bstep hb6 hb7)
            clear hb6 hb7
            go_wp2_with (fail)
            exact ⟨⟨z + 1, by omega, by omega, by go_num, HB7.out⟩, by simp [intOf]; omega⟩
          · obtain rfl : z = 5 := by omega
            go_wp2_with (fail)
            exact ⟨⟨k + 1, by omega, by go_num, HS3.out.still HBz.out, HB3.out.trans (HBz.out.mono HB3.out.size)⟩, by simp [intOf]; omega⟩
      · skip
        have HM1 : Hid (Rd3 wr (f1 k).mo (f1 k).mn (f1 k).mc (f1 k).v.ms ∧ (f1 k).mn ≤ 5864062014634 ∧ ((f1 k).mn ≠ 0 → ∀ b off, (f1 k).mo = some ⟨b, off, none⟩ → b < W2.heap.size)) := ⟨((HO1.out.still HBk.out).mem k h1).1, ((HO1.out.still HBk.out).mem k h1).2, fun h0 => ((HO1.out.mem k h1).1).lt h0⟩
        obtain ⟨g1, o1, hg1, hc1⟩ : ∃ b off, oo1 = some ⟨b, off, none⟩ ∧ ∀ i, i < m1 → wr.rangeAt b (off + i * 6) (f1 i).cs := (HO1.out.still HBk.out).at_.elim (fun h => by omega) id
        have HX1 : Hid (wr.rangeAt g1 (o1 + k * 6) [.int .i64 (f1 k).k, .int .i64 (f1 k).v.ep, .int .i64 (f1 k).v.ld, .int .i64 (f1 k).v.ic, .int .i64 (f1 k).v.cd, .slice (f1 k).mo (f1 k).mn (f1 k).mc]) := hc1 k h1
        rw [hg1] at x1
        clear hg1 hc1
        have z1 : (k : Int) < (m1 : Int) := by omega
        have z2 : ¬ (k : Int) < (m2 : Int) := by omega
        generalize f1 k = q1 at *
        go_wp2_with (first
          | (refine at_load 54 (.tmp 68) rfl ?_; refine load_mid 54 (.tmp 68) HX1.out _ Try.underlying54 rfl info_op rfl rfl rfl ?_)
          | fail)
        refine (HS2.out.go HBk.out.size (by omega) q1 HM1.out.1 HM1.out.2.1 HM1.out.2.2).mono ?_
        rintro e w3 ⟨rfl, hs, hb⟩
        have HB3 : Hid (Below W2.heap.size W2 w3) := HBk.out.trans hb
        have HS3 : Hid (St2 b1 r1 b2 r2 W2.heap.size (k + 1) (k + 1) w3) := hs.up (Nat.le_refl _) (by omega)
        have y2 := below_at HB3.out HC2.out
        clear hs hb x2
        go_wp2_with (fail)
        go_loopw [12] (fun j wq => ∃ z : Nat, 2 ≤ z ∧ z ≤ 5 ∧ j = .int .i64 (z : Int) ∧ Hid (Below w3.heap.size w3 wq)) (fun j _ => 5 - (intOf j).toNat)
        case atStart => exact ⟨2, Nat.le_refl _, by omega, rfl, Below.refl _ _⟩
        case round =>
          obtain ⟨z, hz2, hz5, rfl, HBz⟩ := hrel
          by_cases hz : z ≤ 4
          · have y1 : (z : Int) ≤ 4 := by omega
            have HSz := HS3.out.still HBz.out
            have HSq : Hid (St2 b1 r1 b2 r2 W2.heap.size (k + 1) (k + 1) wr) := HSz
            clear HSz
            go_wp2_with (fail)
            refine (HSq.out.asks (by omega) (z : Int)).mono ?_
            rintro e w6 ⟨rfl, hb6⟩
            go_wp2_with (fail)
            refine ((HSq.out.still hb6).symm.asks (by omega) (z : Int)).mono ?_
            rintro e w7 ⟨rfl, hb7⟩
            have HB7 : Hid (Below w3.heap.size w3 w7) := bstep HBz.out (bstep hb6 hb7)
            clear hb6 hb7
            go_wp2_with (fail)
            exact ⟨⟨z + 1, by omega, by omega, by go_num, HB7.out⟩, by simp [intOf]; omega⟩
          · obtain rfl : z = 5 := by omega
            go_wp2_with (fail)
            exact ⟨⟨k + 1, by omega, by go_num, HS3.out.still HBz.out, HB3.out.trans (HBz.out.mono HB3.out.size)⟩, by simp [intOf]; omega⟩
    · by_cases h2 : k < m2
      · skip
        have HM2 : Hid (Rd3 wr (f2 k).mo (f2 k).mn (f2 k).mc (f2 k).v.ms ∧ (f2 k).mn ≤ 5864062014634 ∧ ((f2 k).mn ≠ 0 → ∀ b off, (f2 k).mo = some ⟨b, off, none⟩ → b < W2.heap.size)) := ⟨((HO2.out.still HBk.out).mem k h2).1, ((HO2.out.still HBk.out).mem k h2).2, fun h0 => ((HO2.out.mem k h2).1).lt h0⟩
        obtain ⟨g2, o2, hg2, hc2⟩ : ∃ b off, oo2 = some ⟨b, off, none⟩ ∧ ∀ i, i < m2 → wr.rangeAt b (off + i * 6) (f2 i).cs := (HO2.out.still HBk.out).at_.elim (fun h => by omega) id
        have HX2 : Hid (wr.rangeAt g2 (o2 + k * 6) [.int .i64 (f2 k).k, .int .i64 (f2 k).v.ep, .int .i64 (f2 k).v.ld, .int .i64 (f2 k).v.ic, .int .i64 (f2 k).v.cd, .slice (f2 k).mo (f2 k).mn (f2 k).mc]) := hc2 k h2
        rw [hg2] at x2
        clear hg2 hc2
        have z1 : ¬ (k : Int) < (m1 : Int) := by omega
        have z2 : (k : Int) < (m2 : Int) := by omega
        generalize f2 k = q2 at *
        go_wp2_with (first
          | (refine at_load 54 (.tmp 84) rfl ?_; refine load_mid 54 (.tmp 84) HX2.out _ Try.underlying54 rfl info_op rfl rfl rfl ?_)
          | fail)
        refine (HS2.out.symm.go HBk.out.size (by omega) q2 HM2.out.1 HM2.out.2.1 HM2.out.2.2).mono ?_
        rintro e w5 ⟨rfl, hs, hb⟩
        have HB3 : Hid (Below W2.heap.size W2 w5) := HBk.out.trans hb
        have HS3 : Hid (St2 b1 r1 b2 r2 W2.heap.size (k + 1) (k + 1) w5) := hs.symm.up (by omega) (Nat.le_refl _)
        clear hs hb
        go_wp2_with (fail)
        go_loopw [12] (fun j wq => ∃ z : Nat, 2 ≤ z ∧ z ≤ 5 ∧ j = .int .i64 (z : Int) ∧ Hid (Below w5.heap.size w5 wq)) (fun j _ => 5 - (intOf j).toNat)
        case atStart => exact ⟨2, Nat.le_refl _, by omega, rfl, Below.refl _ _⟩
        case round =>
          obtain ⟨z, hz2, hz5, rfl, HBz⟩ := hrel
          by_cases hz : z ≤ 4
          · have y1 : (z : Int) ≤ 4 := by omega
            have HSz := HS3.out.still HBz.out
            have HSq : Hid (St2 b1 r1 b2 r2 W2.heap.size (k + 1) (k + 1) wr) := HSz
            clear HSz
            go_wp2_with (fail)
            refine (HSq.out.asks (by omega) (z : Int)).mono ?_
            rintro e w6 ⟨rfl, hb6⟩
            go_wp2_with (fail)
            refine ((HSq.out.still hb6).symm.asks (by omega) (z : Int)).mono ?_
            rintro e w7 ⟨rfl, hb7⟩
            have HB7 : Hid (Below w5.heap.size w5 w7) := bstep HBz.out (bstep hb6 hb7)
            clear hb6 hb7
            go_wp2_with (fail)
            exact ⟨⟨z + 1, by omega, by omega, by go_num, HB7.out⟩, by simp [intOf]; omega⟩
          · obtain rfl : z = 5 := by omega
            go_wp2_with (fail)
            exact ⟨⟨k + 1, by omega, by go_num, HS3.out.still HBz.out, HB3.out.trans (HBz.out.mono HB3.out.size)⟩, by simp [intOf]; omega⟩
      · have z1 : ¬ (k : Int) < (m1 : Int) := by omega
        have z2 : ¬ (k : Int) < (m2 : Int) := by omega
        go_wp2
        go_ret
        exact ⟨rfl, bstep HBW.out HBk.out⟩
end
end Go.Proofs.Ytcieinejjkddfab.Qm
