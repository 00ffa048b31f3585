import Derived.Test.YtfodkackfahldaaBnc
import Derived.WalkSmall
import Derived.Deep.RegionHeld3
import Derived.Deep.RegionHeldLaw
import Derived.Deep.RegionLaw
import Derived.Deep.DrawnRows
namespace Go.Proofs.Ytfodkackfahldaa.Lo
open Go.RowKit
set_option linter.unusedVariables false
set_option linter.unusedSimpArgs false

theorem dv_eq (n b q : Int) (w : World) (hn : 0 ≤ n) (hn2 : n ≤ 64) (hb : 1 ≤ b) (hb2 : b ≤ 64) (hq : dv n b = q) : Calls Try.prog 34 #[.int .i64 n, .int .i64 b] w fun e w' => e = .returned (.int .i64 q) ∧ w = w' := by
  subst hq
  exact divideUp_any n b w hn hn2 hb hb2
theorem ov_eq (n b q : Int) (w : World) (hn : 0 ≤ n) (hn2 : n ≤ 64) (hb : 1 ≤ b) (hb2 : b ≤ 64) (hq : dv n b = q) : Calls Try.prog 30 #[.int .i64 n, .int .i64 b] w fun e w' => e = .returned (.int .i64 q) ∧ w = w' := by
  subst hq
  exact over_any n b w hn hn2 hb hb2
theorem pr_rng {q d : Int} (h : 0 ≤ q) (h2 : q ≤ 127) (h3 : 1 ≤ d) (h4 : d ≤ 16) : 0 ≤ (q + 4) * (4 * d + 8) ∧ (q + 4) * (4 * d + 8) ≤ 10000 := by
  refine ⟨Int.mul_nonneg (by omega) (by omega), ?_⟩
  have := Int.mul_le_mul (a := q + 4) (b := 4 * d + 8) (c := 131) (d := 72) (by omega) (by omega) (by omega) (by omega)
  omega
theorem wr_two {a p : Int} (ha : 0 ≤ a) (ha2 : a ≤ 1000) (hp : 0 ≤ p) (hp2 : p ≤ 10000) : IntKind.i64.wrap (a + IntKind.i64.wrap (2 * p)) = a + 2 * p := by
  rw [IntWalk.i64_in (2 * p) (by omega), IntWalk.i64_in (a + 2 * p) (by omega)]
theorem sq_rng {q s : Int} (h : 0 ≤ q) (h2 : q ≤ 127) (h3 : 1 ≤ s) (h4 : s ≤ 16) : (0 ≤ s * (s - 1) ∧ s * (s - 1) ≤ 240) ∧ 0 ≤ s * (s - 1) * q ∧ s * (s - 1) * q ≤ 30480 := by
  have a : 0 ≤ s * (s - 1) := Int.mul_nonneg (by omega) (by omega)
  have b := Int.mul_le_mul (a := s) (b := s - 1) (c := 16) (d := 15) (by omega) (by omega) (by omega) (by omega)
  have c : 0 ≤ s * (s - 1) * q := Int.mul_nonneg a h
  have d := Int.mul_le_mul (a := s * (s - 1)) (b := q) (c := 240) (d := 127) (by omega) (by omega) (by omega) (by omega)
  omega


set_option maxRecDepth 100000 in
set_option maxHeartbeats 2000000 in
theorem st_ok (no wi ba st ca ro fl d : Int) (ao : Option Addr) (n c : Nat) (xs : List Int) (r : Bool) (w : World) (h : Cf w no wi ba st ca ro fl ao n c xs r 0) (hg : headC no wi ba st ca ro fl n = true) (hd : (1 ≤ d ∧ d ≤ ba ∧ d ≤ 16)) :
    Calls Try.prog 27 #[.agg #[.int .i64 no, .int .i64 wi, .int .i64 ba, .int .i64 st, .int .i64 ca, .int .i64 ro, .int .i64 fl, .slice ao n c], .int .i64 d] w fun e w' => e = .returned (.int .i64 (ca + 8 * d + 16)) ∧ Below w.heap.size w w' := by
  have HR : Hid (Cf w no wi ba st ca ro fl ao n c xs r 0) := h
  clear h
  obtain ⟨⟨h1, h2⟩, ⟨h3, h4⟩, ⟨h5, h6⟩, ⟨h7, h8⟩, ⟨h9, h10⟩, ⟨h11, h12⟩, ⟨h13, h14⟩, h15⟩ := headC_true hg
  have HN : Hid ((n : Int) = no) := h15
  clear hg h15
  obtain ⟨hd1, hd2, hd3⟩ := hd
  all_goals go_enter Try.func27, Try.ntmps27
  all_goals go_wp2_with (first

    | fail)
  all_goals first
    | go_ret
    | ((try simp only [Exit.inBlock, Exit.then]); refine bodyPost_ret (results_tmp2 rfl _ _ _) rfl ?_)
  all_goals exact ⟨by first | rfl | go_num | simp, (by first | exact bsp _ _ _ | exact HB.out | exact bst (bsp _ _ _) HB.out | exact Below.refl _ _)⟩


set_option maxRecDepth 100000 in
set_option maxHeartbeats 2000000 in
theorem dl_ok (no wi ba st ca ro fl d : Int) (ao : Option Addr) (n c : Nat) (xs : List Int) (r : Bool) (w : World) (h : Cf w no wi ba st ca ro fl ao n c xs r 0) (hg : headC no wi ba st ca ro fl n = true) (hd : (1 ≤ d ∧ d ≤ ba ∧ d ≤ 16)) :
    Calls Try.prog 29 #[.agg #[.int .i64 no, .int .i64 wi, .int .i64 ba, .int .i64 st, .int .i64 ca, .int .i64 ro, .int .i64 fl, .slice ao n c], .int .i64 d] w fun e w' => e = .returned (.int .i64 ((dv 32 wi + 4) * (4 * d + 8))) ∧ Below w.heap.size w w' := by
  have HR : Hid (Cf w no wi ba st ca ro fl ao n c xs r 0) := h
  clear h
  obtain ⟨⟨h1, h2⟩, ⟨h3, h4⟩, ⟨h5, h6⟩, ⟨h7, h8⟩, ⟨h9, h10⟩, ⟨h11, h12⟩, ⟨h13, h14⟩, h15⟩ := headC_true hg
  have HN : Hid ((n : Int) = no) := h15
  clear hg h15
  obtain ⟨hd1, hd2, hd3⟩ := hd
  obtain ⟨q, hq⟩ : ∃ q, dv 32 wi = q := ⟨_, rfl⟩
  have HQ : Hid (dv 32 wi = q) := hq
  obtain ⟨q0, q1⟩ : 0 ≤ q ∧ q ≤ 127 := by rw [← hq]; exact dv_rng (by omega) (by omega) (by omega) (by omega)
  obtain ⟨r0, r1⟩ := pr_rng q0 q1 hd1 hd3
  rw [hq]
  clear hq
  all_goals go_enter Try.func29, Try.ntmps29
  all_goals go_wp2_with (first
    | (go_at_call 34; refine (dv_eq _ _ q _ (by omega) (by omega) (by omega) (by omega) HQ.out).mono ?_; rintro e w' ⟨rfl, rfl⟩)
    | fail)
  all_goals first
    | go_ret
    | ((try simp only [Exit.inBlock, Exit.then]); refine bodyPost_ret (results_tmp2 rfl _ _ _) rfl ?_)
  all_goals exact ⟨by first | rfl | go_num | simp, (by first | exact bsp _ _ _ | exact HB.out | exact bst (bsp _ _ _) HB.out | exact Below.refl _ _)⟩


theorem dl_q (no wi ba st ca ro fl d q : Int) (ao : Option Addr) (n c : Nat) (xs : List Int) (r : Bool) (w : World) (h : Cf w no wi ba st ca ro fl ao n c xs r 0) (hg : headC no wi ba st ca ro fl n = true) (hd : (1 ≤ d ∧ d ≤ ba ∧ d ≤ 16)) (hq : dv 32 wi = q) :
    Calls Try.prog 29 #[.agg #[.int .i64 no, .int .i64 wi, .int .i64 ba, .int .i64 st, .int .i64 ca, .int .i64 ro, .int .i64 fl, .slice ao n c], .int .i64 d] w fun e w' => e = .returned (.int .i64 ((q + 4) * (4 * d + 8))) ∧ Below w.heap.size w w' := by
  subst hq
  exact dl_ok no wi ba st ca ro fl d ao n c xs r w h hg hd


set_option maxRecDepth 100000 in
set_option maxHeartbeats 2000000 in
theorem an_ok (no wi ba st ca ro fl d : Int) (ao : Option Addr) (n c : Nat) (xs : List Int) (r : Bool) (w : World) (h : Cf w no wi ba st ca ro fl ao n c xs r 0) (hg : headC no wi ba st ca ro fl n = true) (hd : (1 ≤ d ∧ d ≤ ba ∧ d ≤ 16)) :
    Calls Try.prog 31 #[.agg #[.int .i64 no, .int .i64 wi, .int .i64 ba, .int .i64 st, .int .i64 ca, .int .i64 ro, .int .i64 fl, .slice ao n c], .int .i64 d] w fun e w' => e = .returned (.int .i64 (ca + 8 * d + 16 + 2 * ((dv 32 wi + 4) * (4 * d + 8)))) ∧ Below w.heap.size w w' := by
  have HR : Hid (Cf w no wi ba st ca ro fl ao n c xs r 0) := h
  clear h
  have HG : Hid (headC no wi ba st ca ro fl n = true) := hg
  have HDD : Hid (1 ≤ d ∧ d ≤ ba ∧ d ≤ 16) := hd
  obtain ⟨⟨h1, h2⟩, ⟨h3, h4⟩, ⟨h5, h6⟩, ⟨h7, h8⟩, ⟨h9, h10⟩, ⟨h11, h12⟩, ⟨h13, h14⟩, h15⟩ := headC_true hg
  have HN : Hid ((n : Int) = no) := h15
  clear hg h15
  obtain ⟨hd1, hd2, hd3⟩ := hd
  obtain ⟨q, hq⟩ : ∃ q, dv 32 wi = q := ⟨_, rfl⟩
  have HQ : Hid (dv 32 wi = q) := hq
  obtain ⟨q0, q1⟩ : 0 ≤ q ∧ q ≤ 127 := by rw [← hq]; exact dv_rng (by omega) (by omega) (by omega) (by omega)
  obtain ⟨r0, r1⟩ := pr_rng q0 q1 hd1 hd3
  rw [hq]
  clear hq
  have HK : Hid ((w.alloc (.cells #[.int .i64 no, .int .i64 wi, .int .i64 ba, .int .i64 st, .int .i64 ca, .int .i64 ro, .int .i64 fl, .slice ao n c] 24)).heap[w.heap.size]? = some (.cells #[.int .i64 no, .int .i64 wi, .int .i64 ba, .int .i64 st, .int .i64 ca, .int .i64 ro, .int .i64 fl, .slice ao n c] 24 (0, 0))) := heap_new _ _ _
  have HB : Hid (Below w.heap.size w (w.alloc (.cells #[.int .i64 no, .int .i64 wi, .int .i64 ba, .int .i64 st, .int .i64 ca, .int .i64 ro, .int .i64 fl, .slice ao n c] 24))) := bsp _ _ _
  go_enter Try.func31, Try.ntmps31
  go_wp2_with fail
  generalize w.alloc (.cells #[.int .i64 no, .int .i64 wi, .int .i64 ba, .int .i64 st, .int .i64 ca, .int .i64 ro, .int .i64 fl, .slice ao n c] 24) = F at *
  obtain ⟨k, hk⟩ : ∃ k, w.heap.size = k := ⟨_, rfl⟩
  rw [hk] at HK ⊢
  have HKK : Hid (w.heap.size = k) := hk
  clear hk
  have p0 : F.cell? ⟨k, 0, none⟩ = some (.int .i64 no) := blk_cell HK.out 0
  have p1 : F.cell? ⟨k, 1, none⟩ = some (.int .i64 wi) := blk_cell HK.out 1
  have p2 : F.cell? ⟨k, 2, none⟩ = some (.int .i64 ba) := blk_cell HK.out 2
  have p3 : F.cell? ⟨k, 3, none⟩ = some (.int .i64 st) := blk_cell HK.out 3
  have p4 : F.cell? ⟨k, 4, none⟩ = some (.int .i64 ca) := blk_cell HK.out 4
  have p5 : F.cell? ⟨k, 5, none⟩ = some (.int .i64 ro) := blk_cell HK.out 5
  have p6 : F.cell? ⟨k, 6, none⟩ = some (.int .i64 fl) := blk_cell HK.out 6
  have p7 : F.cell? ⟨k, 7, none⟩ = some (.slice ao n c) := blk_cell HK.out 7
  go_region_held3 (fun w' => w'.cell? ⟨k, 0, none⟩ = some (.int .i64 no) ∧ w'.cell? ⟨k, 1, none⟩ = some (.int .i64 wi) ∧ w'.cell? ⟨k, 2, none⟩ = some (.int .i64 ba) ∧ w'.cell? ⟨k, 3, none⟩ = some (.int .i64 st) ∧ w'.cell? ⟨k, 4, none⟩ = some (.int .i64 ca) ∧ w'.cell? ⟨k, 5, none⟩ = some (.int .i64 ro) ∧ w'.cell? ⟨k, 6, none⟩ = some (.int .i64 fl) ∧ w'.cell? ⟨k, 7, none⟩ = some (.slice ao n c)) (go_keep)
    (first
      | (go_at_call 27; refine (st_ok _ _ _ _ _ _ _ _ _ _ _ xs r _ (HR.out.below (by first | exact HB.out.drew | exact HB.out)) HG.out HDD.out).mono ?_; rintro e w2 ⟨rfl, hb⟩; have HK : Hid (w2.heap[k]? = some (.cells #[.int .i64 no, .int .i64 wi, .int .i64 ba, .int .i64 st, .int .i64 ca, .int .i64 ro, .int .i64 fl, .slice ao n c] 24 (0, 0))) := blk_on hb HK.out; have HB : Hid (Below w.heap.size w w2) := bst (by first | exact HB.out.drew | exact HB.out) hb; clear hb; have p0 : w2.cell? ⟨k, 0, none⟩ = some (.int .i64 no) := blk_cell HK.out 0; have p1 : w2.cell? ⟨k, 1, none⟩ = some (.int .i64 wi) := blk_cell HK.out 1; have p2 : w2.cell? ⟨k, 2, none⟩ = some (.int .i64 ba) := blk_cell HK.out 2; have p3 : w2.cell? ⟨k, 3, none⟩ = some (.int .i64 st) := blk_cell HK.out 3; have p4 : w2.cell? ⟨k, 4, none⟩ = some (.int .i64 ca) := blk_cell HK.out 4; have p5 : w2.cell? ⟨k, 5, none⟩ = some (.int .i64 ro) := blk_cell HK.out 5; have p6 : w2.cell? ⟨k, 6, none⟩ = some (.int .i64 fl) := blk_cell HK.out 6; have p7 : w2.cell? ⟨k, 7, none⟩ = some (.slice ao n c) := blk_cell HK.out 7)
      | (go_at_call 29; refine (dl_q _ _ _ _ _ _ _ _ q _ _ _ xs r _ (HR.out.below (by first | exact HB.out.drew | exact HB.out)) HG.out HDD.out HQ.out).mono ?_; rintro e w2 ⟨rfl, hb⟩; have HK : Hid (w2.heap[k]? = some (.cells #[.int .i64 no, .int .i64 wi, .int .i64 ba, .int .i64 st, .int .i64 ca, .int .i64 ro, .int .i64 fl, .slice ao n c] 24 (0, 0))) := blk_on hb HK.out; have HB : Hid (Below w.heap.size w w2) := bst (by first | exact HB.out.drew | exact HB.out) hb; clear hb; have p0 : w2.cell? ⟨k, 0, none⟩ = some (.int .i64 no) := blk_cell HK.out 0; have p1 : w2.cell? ⟨k, 1, none⟩ = some (.int .i64 wi) := blk_cell HK.out 1; have p2 : w2.cell? ⟨k, 2, none⟩ = some (.int .i64 ba) := blk_cell HK.out 2; have p3 : w2.cell? ⟨k, 3, none⟩ = some (.int .i64 st) := blk_cell HK.out 3; have p4 : w2.cell? ⟨k, 4, none⟩ = some (.int .i64 ca) := blk_cell HK.out 4; have p5 : w2.cell? ⟨k, 5, none⟩ = some (.int .i64 ro) := blk_cell HK.out 5; have p6 : w2.cell? ⟨k, 6, none⟩ = some (.int .i64 fl) := blk_cell HK.out 6; have p7 : w2.cell? ⟨k, 7, none⟩ = some (.slice ao n c) := blk_cell HK.out 7)
      | fail)
  go_wp2_with fail
  all_goals go_ret
  all_goals exact ⟨by simp; exact wr_two (by omega) (by omega) r0 r1, by have := HKK.out; subst this; first | exact HB.out | exact HB.out.drew⟩


theorem an_q (no wi ba st ca ro fl d q : Int) (ao : Option Addr) (n c : Nat) (xs : List Int) (r : Bool) (w : World) (h : Cf w no wi ba st ca ro fl ao n c xs r 0) (hg : headC no wi ba st ca ro fl n = true) (hd : (1 ≤ d ∧ d ≤ ba ∧ d ≤ 16)) (hq : dv 32 wi = q) :
    Calls Try.prog 31 #[.agg #[.int .i64 no, .int .i64 wi, .int .i64 ba, .int .i64 st, .int .i64 ca, .int .i64 ro, .int .i64 fl, .slice ao n c], .int .i64 d] w fun e w' => e = .returned (.int .i64 (ca + 8 * d + 16 + 2 * ((q + 4) * (4 * d + 8)))) ∧ Below w.heap.size w w' := by
  subst hq
  exact an_ok no wi ba st ca ro fl d ao n c xs r w h hg hd

end Go.Proofs.Ytfodkackfahldaa.Lo
