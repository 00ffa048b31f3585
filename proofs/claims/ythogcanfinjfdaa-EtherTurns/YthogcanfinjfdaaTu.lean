import Derived.Test.YthogcanfinjfdaaMo
import Derived.Test.YthogcanfinjfdaaRows
import Derived.SizedLaws
import Derived.WalkKit
import Derived.ProofKit
import Derived.OpenShut
import Derived.ShutString
import Derived.ChangeOld
import Derived.Below
namespace Go.Proofs.Ythogcanfinjfdaa.Et
open Go.RowKit Go.Maps
set_option linter.unusedVariables false
set_option linter.unusedSimpArgs false
set_option maxRecDepth 100000
section
variable {E E' E2 : En} {R R' R2 : Rn} {w w' w1 w2 w3 : World} {B K K' m : Nat}
theorem Duo.up (h : Duo E R w B K) : Duo E R w B (K + 1) := ⟨h.e.mono (by omega), h.r, h.d, h.s.same, h.hB⟩
theorem Dtep.low (h : Duo E R w B K) (s : Dtep w w' E E' R R' B K) : Below B w w' := s.kept.below h.hB (fun j hj e => e.elim (fun e => by have := h.e.geOwn e; omega) (fun e => by have := h.r.geOwn e; omega))
theorem Duo.other (h : Duo E' R' w B K') (s : Dtep w w' E E2 R R2 B K) (hd : ∀ j, E.own j ∨ R.own j → ¬ (E'.own j ∨ R'.own j)) : Duo E' R' w' B K' ∧ ∀ j, E2.own j ∨ R2.own j → ¬ (E'.own j ∨ R'.own j) := by
  refine ⟨⟨h.e.keep s.kept (fun j hj e => hd j e (.inl hj)), h.r.keep s.kept (fun j hj e => hd j e (.inr hj)), h.d, h.s, Nat.le_trans h.hB s.kept.size⟩, fun j hj e => ?_⟩
  rcases s.own j hj with h1 | h1
  · exact hd j h1 e
  · rcases e with e | e
    · have := h.e.ltOwn e; omega
    · have := h.r.ltOwn e; omega
theorem Duo.other2 (h : Duo E' R' w B K') (s : Dtep w w' E E2 R R2 B K) (hd : ∀ j, E'.own j ∨ R'.own j → ¬ (E.own j ∨ R.own j)) : Duo E' R' w' B K' ∧ ∀ j, E'.own j ∨ R'.own j → ¬ (E2.own j ∨ R2.own j) := by
  obtain ⟨a, b⟩ := h.other s (fun j hj e => hd j e hj)
  exact ⟨a, fun j hj e => b j e hj⟩
theorem RdOps.still {oa : Option Addr} {n : Nat} {os : Nat → Opx} (ho : RdOps w oa n os) (hb : Below w.heap.size w w') : RdOps w' oa n os :=
  ⟨ho.1.elim (fun hh => Or.inl hh) (fun ⟨b, off, h1, h2⟩ => Or.inr ⟨b, off, h1, fun i hi j hj => by
    obtain ⟨u, hu⟩ := op_cs (os i) j hj
    have h3 := h2 i hi j hj
    rw [hu] at h3 ⊢
    exact below_at hb h3⟩), fun i hi => by
    obtain ⟨⟨bs, q1⟩, ⟨xs, q2⟩, q3⟩ := ho.2 i hi
    exact ⟨⟨bs, q1.still hb⟩, ⟨xs, q2.still hb⟩, q3⟩⟩
theorem plays_at {w0 : World} {o : Opx} (h : Duo E R w w0.heap.size K) (hK : K ≤ 2199023255551) (hin : OpIn w0 o) (hl : Below w0.heap.size w0 w) : Calls Try.prog 33 #[.pointer (some ⟨E.b, 0, none⟩), .pointer (some ⟨R.b, 0, none⟩), .agg o.cs] w fun e w' => e = .returned (.bool true) ∧ ∃ E2 R2, Dtep w w' E E2 R R2 w0.heap.size K := by
  obtain ⟨⟨bs, hbs⟩, ⟨xs, hxs⟩⟩ := hin.low hl
  exact plays_any h hK o bs xs hbs hxs hin.2.2.1 hin.2.2.2.1 hin.2.2.2.2

set_option maxHeartbeats 1000000 in
theorem turns00 (nd1 : Int) (nd2 : Int) (rm1 rm2 : Int) (oa1 oa2 : Option Addr) (n1 oc1 n2 oc2 : Nat) (os1 os2 : Nat → Opx) (gb1 : badNew nd1 rm1) (gb2 : badNew nd2 rm2) (ho1 : RdOps w oa1 n1 os1) (ho2 : RdOps w oa2 n2 os2) (hn1 : n1 ≤ 2199023255551) (hn2 : n2 ≤ 2199023255551) : Calls Try.prog 8 #[.agg (kc nd1 rm1 oa1 n1 oc1), .agg (kc nd2 rm2 oa2 n2 oc2)] w fun e w' => e = .returned (.bool true) ∧ Below w.heap.size w w' := by
  generalize hW : (w.alloc (.cells #[.int .i64 nd1, .int .i64 rm1, .slice oa1 n1 oc1] 24)).alloc (.cells #[.int .i64 nd2, .int .i64 rm2, .slice oa2 n2 oc2] 24) = W
  have hbW : Below w.heap.size w W := by rw [← hW]; exact balloc (balloc (Below.refl _ w))
  have hb1 : W.heap[w.heap.size]? = some (.cells #[.int .i64 nd1, .int .i64 rm1, .slice oa1 n1 oc1] 24 (0, 0)) := by rw [← hW]; exact blk_alloc (heap_alloc_new w _)
  have hb2 : W.heap[w.heap.size + 1]? = some (.cells #[.int .i64 nd2, .int .i64 rm2, .slice oa2 n2 oc2] 24 (0, 0)) := by
    rw [← hW]
    have := heap_alloc_new (w.alloc (.cells #[.int .i64 nd1, .int .i64 rm1, .slice oa1 n1 oc1] 24)) (.cells #[.int .i64 nd2, .int .i64 rm2, .slice oa2 n2 oc2] 24)
    simpa using this
  have Hc : Hid (∀ w', Below W.heap.size W w' → (w'.cell? ⟨w.heap.size, 0, none⟩ = some (.int .i64 nd1) ∧ w'.cell? ⟨w.heap.size, 1, none⟩ = some (.int .i64 rm1) ∧ w'.cell? ⟨w.heap.size, 2, none⟩ = some (.slice oa1 n1 oc1)) ∧ w'.cell? ⟨w.heap.size + 1, 0, none⟩ = some (.int .i64 nd2) ∧ w'.cell? ⟨w.heap.size + 1, 1, none⟩ = some (.int .i64 rm2) ∧ w'.cell? ⟨w.heap.size + 1, 2, none⟩ = some (.slice oa2 n2 oc2)) := fun w' hb => ⟨⟨below_at hb (blk_cell hb1 0), below_at hb (blk_cell hb1 1), below_at hb (blk_cell hb1 2)⟩, below_at hb (blk_cell hb2 0), below_at hb (blk_cell hb2 1), below_at hb (blk_cell hb2 2)⟩
  have HO1 : Hid (RdOps W oa1 n1 os1) := ho1.still hbW
  have HO2 : Hid (RdOps W oa2 n2 os2) := ho2.still hbW
  have Hb : Hid (Below w.heap.size w W) := hbW
  have HA1 : Hid (∀ wx, Calls Try.prog 9 #[.int .i64 nd1, .int .i64 rm1] wx fun e w' => e = .returned (.tuple #[.pointer none, .int .i64 1]) ∧ wx = w') := fun wx => new_no nd1 rm1 gb1
  have HB1 : Hid (∀ wx, Calls Try.prog 31 #[.int .i64 nd1, .int .i64 rm1] wx fun e w' => e = .returned (.tuple #[.pointer none, .int .i64 1]) ∧ wx = w') := fun wx => rnew_no nd1 rm1 gb1
  have HA2 : Hid (∀ wx, Calls Try.prog 9 #[.int .i64 nd2, .int .i64 rm2] wx fun e w' => e = .returned (.tuple #[.pointer none, .int .i64 1]) ∧ wx = w') := fun wx => new_no nd2 rm2 gb2
  have HB2 : Hid (∀ wx, Calls Try.prog 31 #[.int .i64 nd2, .int .i64 rm2] wx fun e w' => e = .returned (.tuple #[.pointer none, .int .i64 1]) ∧ wx = w') := fun wx => rnew_no nd2 rm2 gb2
  unfold kc
  obtain ⟨⟨c0, c1, c2⟩, d0, d1, d2⟩ := Hc.out W (Below.refl _ _)
  clear hbW hb1 hb2 ho1 ho2
  go_enter Try.func8, Try.ntmps8
  have HLW : Hid (Below W.heap.size W W) := Below.refl _ _
  go_wp2_with (fail)
  refine (HA1.out _).mono ?_
  rintro e wE1 ⟨rfl, rfl⟩
  go_wp2_with (fail)
  refine (HB1.out _).mono ?_
  rintro e wR1 ⟨rfl, rfl⟩
  go_wp2_with (fail)
  refine (HA2.out _).mono ?_
  rintro e wE2 ⟨rfl, rfl⟩
  go_wp2_with (fail)
  refine (HB2.out _).mono ?_
  rintro e wR2 ⟨rfl, rfl⟩
  go_wp2_with (first | (go_at_call 32; refine (num_any _).mono ?_; rintro e w5 ⟨rfl, rfl⟩) | fail)
  have hN : ∃ N, N = (if n1 < n2 then n2 else n1) := ⟨_, rfl⟩
  obtain ⟨N, hN⟩ := hN
  have HN : Hid (N = (if n1 < n2 then n2 else n1)) := hN
  have hN1 : n1 ≤ N := by rw [hN]; split <;> omega
  have hN2 : n2 ≤ N := by rw [hN]; split <;> omega
  have hN3 : N ≤ 2199023255551 := by rw [hN]; split <;> omega
  have hN4 : ∀ k, k < N → k < n1 ∨ k < n2 := by intro k hk; rw [hN] at hk; split at hk <;> omega
  have HN4 : Hid (∀ k, k < N → k < n1 ∨ k < n2) := hN4
  clear hN hN4
  go_loopw [13] (fun i wr => ∃ (k : Nat) , k ≤ N ∧ i = .int .i64 k ∧ Below W.heap.size W wr) (fun i _ => N - (intOf i).toNat)
  case atStart => exact ⟨0, Nat.zero_le _, rfl, HLW.out⟩
  case round =>
    obtain ⟨k, hk, rfl, hl⟩ := hrel
    have HL : Hid (Below W.heap.size W wr) := hl
    clear c0 c1 c2 d0 d1 d2
    obtain ⟨⟨c0, c1, c2⟩, d0, d1, d2⟩ := Hc.out _ hl
    have i0 : (0 : Int) ≤ (k : Int) := Int.natCast_nonneg _
    clear hl
    by_cases hlt : k < N
    · have hor := HN4.out k hlt
      by_cases t1 : k < n1
      · by_cases t2 : k < n2
        · skip
          have k1 : (k : Int) < (n1 : Int) := by omega
          have k2 : (k : Int) < (n2 : Int) := by omega
          go_wp2
          first
            | exact ⟨⟨k + 1, by omega, by go_num, HL.out⟩, by simp [intOf]; omega⟩
            | (go_roundw
               case rel => exact ⟨k + 1, by omega, by go_num, HL.out⟩
               case measure => simp [intOf]; omega)
        · skip
          have k1 : (k : Int) < (n1 : Int) := by omega
          have k2 : (k : Int) ≥ (n2 : Int) := by omega
          go_wp2
          first
            | exact ⟨⟨k + 1, by omega, by go_num, HL.out⟩, by simp [intOf]; omega⟩
            | (go_roundw
               case rel => exact ⟨k + 1, by omega, by go_num, HL.out⟩
               case measure => simp [intOf]; omega)
      · have t2 : k < n2 := by omega
        have k1 : (k : Int) ≥ (n1 : Int) := by omega
        have k2 : (k : Int) < (n2 : Int) := by omega
        go_wp2
        first
          | exact ⟨⟨k + 1, by omega, by go_num, HL.out⟩, by simp [intOf]; omega⟩
          | (go_roundw
             case rel => exact ⟨k + 1, by omega, by go_num, HL.out⟩
             case measure => simp [intOf]; omega)
    · obtain rfl : k = N := by omega
      have k1 : (k : Int) ≥ (n1 : Int) := by omega
      have k2 : (k : Int) ≥ (n2 : Int) := by omega
      go_wp2
      go_ret
      exact ⟨rfl, bstep Hb.out HL.out⟩

set_option maxHeartbeats 1000000 in
theorem turns01 (nd1 : Int) (nd2 : Nat) (rm1 rm2 : Int) (oa1 oa2 : Option Addr) (n1 oc1 n2 oc2 : Nat) (os1 os2 : Nat → Opx) (gb1 : badNew nd1 rm1) (g21 : 1 ≤ nd2) (g22 : nd2 ≤ 16) (g23 : 1 ≤ rm2) (g24 : rm2 ≤ 20000) (ho1 : RdOps w oa1 n1 os1) (ho2 : RdOps w oa2 n2 os2) (hn1 : n1 ≤ 2199023255551) (hn2 : n2 ≤ 2199023255551) : Calls Try.prog 8 #[.agg (kc nd1 rm1 oa1 n1 oc1), .agg (kc nd2 rm2 oa2 n2 oc2)] w fun e w' => e = .returned (.bool true) ∧ Below w.heap.size w w' := by
  generalize hW : (w.alloc (.cells #[.int .i64 nd1, .int .i64 rm1, .slice oa1 n1 oc1] 24)).alloc (.cells #[.int .i64 nd2, .int .i64 rm2, .slice oa2 n2 oc2] 24) = W
  have hbW : Below w.heap.size w W := by rw [← hW]; exact balloc (balloc (Below.refl _ w))
  have hb1 : W.heap[w.heap.size]? = some (.cells #[.int .i64 nd1, .int .i64 rm1, .slice oa1 n1 oc1] 24 (0, 0)) := by rw [← hW]; exact blk_alloc (heap_alloc_new w _)
  have hb2 : W.heap[w.heap.size + 1]? = some (.cells #[.int .i64 nd2, .int .i64 rm2, .slice oa2 n2 oc2] 24 (0, 0)) := by
    rw [← hW]
    have := heap_alloc_new (w.alloc (.cells #[.int .i64 nd1, .int .i64 rm1, .slice oa1 n1 oc1] 24)) (.cells #[.int .i64 nd2, .int .i64 rm2, .slice oa2 n2 oc2] 24)
    simpa using this
  have Hc : Hid (∀ w', Below W.heap.size W w' → (w'.cell? ⟨w.heap.size, 0, none⟩ = some (.int .i64 nd1) ∧ w'.cell? ⟨w.heap.size, 1, none⟩ = some (.int .i64 rm1) ∧ w'.cell? ⟨w.heap.size, 2, none⟩ = some (.slice oa1 n1 oc1)) ∧ w'.cell? ⟨w.heap.size + 1, 0, none⟩ = some (.int .i64 nd2) ∧ w'.cell? ⟨w.heap.size + 1, 1, none⟩ = some (.int .i64 rm2) ∧ w'.cell? ⟨w.heap.size + 1, 2, none⟩ = some (.slice oa2 n2 oc2)) := fun w' hb => ⟨⟨below_at hb (blk_cell hb1 0), below_at hb (blk_cell hb1 1), below_at hb (blk_cell hb1 2)⟩, below_at hb (blk_cell hb2 0), below_at hb (blk_cell hb2 1), below_at hb (blk_cell hb2 2)⟩
  have HO1 : Hid (RdOps W oa1 n1 os1) := ho1.still hbW
  have HO2 : Hid (RdOps W oa2 n2 os2) := ho2.still hbW
  have Hb : Hid (Below w.heap.size w W) := hbW
  have HA1 : Hid (∀ wx, Calls Try.prog 9 #[.int .i64 nd1, .int .i64 rm1] wx fun e w' => e = .returned (.tuple #[.pointer none, .int .i64 1]) ∧ wx = w') := fun wx => new_no nd1 rm1 gb1
  have HB1 : Hid (∀ wx, Calls Try.prog 31 #[.int .i64 nd1, .int .i64 rm1] wx fun e w' => e = .returned (.tuple #[.pointer none, .int .i64 1]) ∧ wx = w') := fun wx => rnew_no nd1 rm1 gb1
  have HA2 : Hid (∀ wx, Calls Try.prog 9 #[.int .i64 nd2, .int .i64 rm2] wx fun e w' => ∃ b bn bc bd, e = .returned (.tuple #[.pointer (some ⟨b, 0, none⟩), .int .i64 0]) ∧ En.Ok (newE b bn bc bd nd2 rm2 nd2) w' wx.heap.size 0 ∧ Below wx.heap.size wx w') := fun wx => new_ok nd2 rm2 g21 g22 g23 g24
  have HB2 : Hid (∀ wx, Calls Try.prog 31 #[.int .i64 nd2, .int .i64 rm2] wx fun e w' => ∃ R : Rn, e = .returned (.tuple #[.pointer (some ⟨R.b, 0, none⟩), .int .i64 0]) ∧ R.Ok w' wx.heap.size ∧ Below wx.heap.size wx w' ∧ R.nn = nd2 ∧ R.room = rm2 ∧ R.now = 0 ∧ R.all = [] ∧ ∀ i, i < 16 → R.up i = true ∧ R.inc i = 1 ∧ R.tick i = 0 ∧ ∀ j, j < 16 → R.shut i j = false ∧ R.slow i j = 1) := fun wx => rnew_ok nd2 rm2 g21 g22 g23 g24
  unfold kc
  obtain ⟨⟨c0, c1, c2⟩, d0, d1, d2⟩ := Hc.out W (Below.refl _ _)
  clear hbW hb1 hb2 ho1 ho2
  go_enter Try.func8, Try.ntmps8
  have HLW : Hid (Below W.heap.size W W) := Below.refl _ _
  go_wp2_with (fail)
  refine (HA1.out _).mono ?_
  rintro e wE1 ⟨rfl, rfl⟩
  go_wp2_with (fail)
  refine (HB1.out _).mono ?_
  rintro e wR1 ⟨rfl, rfl⟩
  go_wp2_with (fail)
  refine (HA2.out _).mono ?_
  rintro e wE2 ⟨b2, bn2, bc2, bd2, rfl, hE, hb⟩
  have HE2 : Hid (En.Ok (newE b2 bn2 bc2 bd2 nd2 rm2 nd2) wE2 W.heap.size 0) := hE
  have HBE2 : Hid (Below W.heap.size W wE2) := hb
  have HLE2 : Hid (Below W.heap.size W wE2) := bstep HLW.out hb
  clear hE hb c0 c1 c2 d0 d1 d2
  obtain ⟨⟨c0, c1, c2⟩, d0, d1, d2⟩ := Hc.out _ HLE2.out
  go_wp2_with (fail)
  refine (HB2.out _).mono ?_
  rintro e wR2 ⟨R2, rfl, hR, hb, f1, f2, f3, f4, f5⟩
  have HD2 : Hid (Duo (newE b2 bn2 bc2 bd2 nd2 rm2 nd2) R2 wR2 W.heap.size 0) := duo_new g21 g22 g23 g24 HE2.out HBE2.out hR hb f1 f2 f3 f4 f5 HLW.out.size
  have HBR2 : Hid (Below wE2.heap.size wE2 wR2) := hb
  have HRO2 : Hid (∀ j, R2.own j → wE2.heap.size ≤ j) := fun j hj => hR.geOwn hj
  have HEO2 : Hid (∀ j, (newE b2 bn2 bc2 bd2 nd2 rm2 nd2).own j → W.heap.size ≤ j) := fun j hj => HE2.out.geOwn hj
  have HLR2 : Hid (Below W.heap.size W wR2) := bstep HLE2.out hb
  generalize hRb : R2.b = rb2 at *
  have HRb2 : Hid (R2.b = rb2) := hRb
  have hsz2 : W.heap.size ≤ wE2.heap.size := HBE2.out.size
  have hsy2 : wE2.heap.size ≤ wR2.heap.size := HBR2.out.size
  clear hR hb f1 f2 f3 f4 f5 hRb c0 c1 c2 d0 d1 d2
  obtain ⟨⟨c0, c1, c2⟩, d0, d1, d2⟩ := Hc.out _ HLR2.out
  go_wp2_with (first | (go_at_call 32; refine (num_any _).mono ?_; rintro e w5 ⟨rfl, rfl⟩) | fail)
  have hN : ∃ N, N = (if n1 < n2 then n2 else n1) := ⟨_, rfl⟩
  obtain ⟨N, hN⟩ := hN
  have HN : Hid (N = (if n1 < n2 then n2 else n1)) := hN
  have hN1 : n1 ≤ N := by rw [hN]; split <;> omega
  have hN2 : n2 ≤ N := by rw [hN]; split <;> omega
  have hN3 : N ≤ 2199023255551 := by rw [hN]; split <;> omega
  have hN4 : ∀ k, k < N → k < n1 ∨ k < n2 := by intro k hk; rw [hN] at hk; split at hk <;> omega
  have HN4 : Hid (∀ k, k < N → k < n1 ∨ k < n2) := hN4
  clear hN hN4
  go_loopw [13] (fun i wr => ∃ (k : Nat) (E2 : En) (R2 : Rn), k ≤ N ∧ i = .int .i64 k ∧ Below W.heap.size W wr ∧ Duo E2 R2 wr W.heap.size k ∧ E2.b = b2 ∧ R2.b = rb2) (fun i _ => N - (intOf i).toNat)
  case atStart => exact ⟨0, _, R2, Nat.zero_le _, rfl, HLR2.out, HD2.out, rfl, HRb2.out⟩
  case round =>
    obtain ⟨k, E2, R2', hk, rfl, hl, hd2, rfl, rfl⟩ := hrel
    have HL : Hid (Below W.heap.size W wr) := hl
    clear c0 c1 c2 d0 d1 d2
    obtain ⟨⟨c0, c1, c2⟩, d0, d1, d2⟩ := Hc.out _ hl
    have i0 : (0 : Int) ≤ (k : Int) := Int.natCast_nonneg _
    have HD2x : Hid (Duo E2 R2' wr W.heap.size k) := hd2
    clear hl hd2
    by_cases hlt : k < N
    · have hor := HN4.out k hlt
      by_cases t1 : k < n1
      · by_cases t2 : k < n2
        · skip
          have k1 : (k : Int) < (n1 : Int) := by omega
          have k2 : (k : Int) < (n2 : Int) := by omega
          obtain ⟨ob2, off2, hoa2, y0, y1, y2, y3, y4, y5⟩ := HO2.out.at HL.out (show k < n2 by omega)
          have HP2 : Hid (Calls Try.prog 33 #[.pointer (some ⟨E2.b, 0, none⟩), .pointer (some ⟨R2'.b, 0, none⟩), .agg #[.int .i64 (os2 k).k, .int .i64 (os2 k).p, .int .i64 (os2 k).q, .int .i64 (os2 k).n, .slice (os2 k).ba (os2 k).bn (os2 k).bc, .slice (os2 k).sa (os2 k).sn (os2 k).sc]] wr fun e w' => e = .returned (.bool true) ∧ ∃ E3 R3, Dtep wr w' E2 E3 R2' R3 W.heap.size k) := plays_at HD2x.out (by omega) (HO2.out.2 k (by omega)) HL.out
          generalize os2 k = o2 at y0 y1 y2 y3 y4 y5 HP2
          rw [hoa2] at d2
          clear hoa2
          go_wp2_with (fail)
          refine HP2.out.mono ?_
          rintro e wb ⟨rfl, E2n, R2n, hs2⟩
          have HS2 : Hid (Dtep wr wb E2 E2n R2' R2n W.heap.size k) := hs2
          have HLb : Hid (Below W.heap.size W wb) := HL.out.trans (Dtep.low HD2x.out hs2)
          clear hs2 c0 c1 c2 d0 d1 d2 y0 y1 y2 y3 y4 y5
          obtain ⟨⟨c0, c1, c2⟩, d0, d1, d2⟩ := Hc.out _ HLb.out
          go_wp2
          first
            | exact ⟨⟨k + 1, E2n, R2n, by omega, by go_num, HLb.out, HS2.out.duo, HS2.out.eb, HS2.out.rb⟩, by simp [intOf]; omega⟩
            | (go_roundw
               case rel => exact ⟨k + 1, E2n, R2n, by omega, by go_num, HLb.out, HS2.out.duo, HS2.out.eb, HS2.out.rb⟩
               case measure => simp [intOf]; omega)
        · skip
          have k1 : (k : Int) < (n1 : Int) := by omega
          have k2 : (k : Int) ≥ (n2 : Int) := by omega
          go_wp2
          first
            | exact ⟨⟨k + 1, E2, R2', by omega, by go_num, HL.out, (HD2x.out).up, rfl, rfl⟩, by simp [intOf]; omega⟩
            | (go_roundw
               case rel => exact ⟨k + 1, E2, R2', by omega, by go_num, HL.out, (HD2x.out).up, rfl, rfl⟩
               case measure => simp [intOf]; omega)
      · have t2 : k < n2 := by omega
        have k1 : (k : Int) ≥ (n1 : Int) := by omega
        have k2 : (k : Int) < (n2 : Int) := by omega
        obtain ⟨ob2, off2, hoa2, y0, y1, y2, y3, y4, y5⟩ := HO2.out.at HL.out (show k < n2 by omega)
        have HP2 : Hid (Calls Try.prog 33 #[.pointer (some ⟨E2.b, 0, none⟩), .pointer (some ⟨R2'.b, 0, none⟩), .agg #[.int .i64 (os2 k).k, .int .i64 (os2 k).p, .int .i64 (os2 k).q, .int .i64 (os2 k).n, .slice (os2 k).ba (os2 k).bn (os2 k).bc, .slice (os2 k).sa (os2 k).sn (os2 k).sc]] wr fun e w' => e = .returned (.bool true) ∧ ∃ E3 R3, Dtep wr w' E2 E3 R2' R3 W.heap.size k) := plays_at HD2x.out (by omega) (HO2.out.2 k (by omega)) HL.out
        generalize os2 k = o2 at y0 y1 y2 y3 y4 y5 HP2
        rw [hoa2] at d2
        clear hoa2
        go_wp2_with (fail)
        refine HP2.out.mono ?_
        rintro e wb ⟨rfl, E2n, R2n, hs2⟩
        have HS2 : Hid (Dtep wr wb E2 E2n R2' R2n W.heap.size k) := hs2
        have HLb : Hid (Below W.heap.size W wb) := HL.out.trans (Dtep.low HD2x.out hs2)
        clear hs2 c0 c1 c2 d0 d1 d2 y0 y1 y2 y3 y4 y5
        obtain ⟨⟨c0, c1, c2⟩, d0, d1, d2⟩ := Hc.out _ HLb.out
        go_wp2
        first
          | exact ⟨⟨k + 1, E2n, R2n, by omega, by go_num, HLb.out, HS2.out.duo, HS2.out.eb, HS2.out.rb⟩, by simp [intOf]; omega⟩
          | (go_roundw
             case rel => exact ⟨k + 1, E2n, R2n, by omega, by go_num, HLb.out, HS2.out.duo, HS2.out.eb, HS2.out.rb⟩
             case measure => simp [intOf]; omega)
    · obtain rfl : k = N := by omega
      have k1 : (k : Int) ≥ (n1 : Int) := by omega
      have k2 : (k : Int) ≥ (n2 : Int) := by omega
      go_wp2
      go_ret
      exact ⟨rfl, bstep Hb.out HL.out⟩

set_option maxHeartbeats 1000000 in
theorem turns10 (nd1 : Nat) (nd2 : Int) (rm1 rm2 : Int) (oa1 oa2 : Option Addr) (n1 oc1 n2 oc2 : Nat) (os1 os2 : Nat → Opx) (g11 : 1 ≤ nd1) (g12 : nd1 ≤ 16) (g13 : 1 ≤ rm1) (g14 : rm1 ≤ 20000) (gb2 : badNew nd2 rm2) (ho1 : RdOps w oa1 n1 os1) (ho2 : RdOps w oa2 n2 os2) (hn1 : n1 ≤ 2199023255551) (hn2 : n2 ≤ 2199023255551) : Calls Try.prog 8 #[.agg (kc nd1 rm1 oa1 n1 oc1), .agg (kc nd2 rm2 oa2 n2 oc2)] w fun e w' => e = .returned (.bool true) ∧ Below w.heap.size w w' := by
  generalize hW : (w.alloc (.cells #[.int .i64 nd1, .int .i64 rm1, .slice oa1 n1 oc1] 24)).alloc (.cells #[.int .i64 nd2, .int .i64 rm2, .slice oa2 n2 oc2] 24) = W
  have hbW : Below w.heap.size w W := by rw [← hW]; exact balloc (balloc (Below.refl _ w))
  have hb1 : W.heap[w.heap.size]? = some (.cells #[.int .i64 nd1, .int .i64 rm1, .slice oa1 n1 oc1] 24 (0, 0)) := by rw [← hW]; exact blk_alloc (heap_alloc_new w _)
  have hb2 : W.heap[w.heap.size + 1]? = some (.cells #[.int .i64 nd2, .int .i64 rm2, .slice oa2 n2 oc2] 24 (0, 0)) := by
    rw [← hW]
    have := heap_alloc_new (w.alloc (.cells #[.int .i64 nd1, .int .i64 rm1, .slice oa1 n1 oc1] 24)) (.cells #[.int .i64 nd2, .int .i64 rm2, .slice oa2 n2 oc2] 24)
    simpa using this
  have Hc : Hid (∀ w', Below W.heap.size W w' → (w'.cell? ⟨w.heap.size, 0, none⟩ = some (.int .i64 nd1) ∧ w'.cell? ⟨w.heap.size, 1, none⟩ = some (.int .i64 rm1) ∧ w'.cell? ⟨w.heap.size, 2, none⟩ = some (.slice oa1 n1 oc1)) ∧ w'.cell? ⟨w.heap.size + 1, 0, none⟩ = some (.int .i64 nd2) ∧ w'.cell? ⟨w.heap.size + 1, 1, none⟩ = some (.int .i64 rm2) ∧ w'.cell? ⟨w.heap.size + 1, 2, none⟩ = some (.slice oa2 n2 oc2)) := fun w' hb => ⟨⟨below_at hb (blk_cell hb1 0), below_at hb (blk_cell hb1 1), below_at hb (blk_cell hb1 2)⟩, below_at hb (blk_cell hb2 0), below_at hb (blk_cell hb2 1), below_at hb (blk_cell hb2 2)⟩
  have HO1 : Hid (RdOps W oa1 n1 os1) := ho1.still hbW
  have HO2 : Hid (RdOps W oa2 n2 os2) := ho2.still hbW
  have Hb : Hid (Below w.heap.size w W) := hbW
  have HA1 : Hid (∀ wx, Calls Try.prog 9 #[.int .i64 nd1, .int .i64 rm1] wx fun e w' => ∃ b bn bc bd, e = .returned (.tuple #[.pointer (some ⟨b, 0, none⟩), .int .i64 0]) ∧ En.Ok (newE b bn bc bd nd1 rm1 nd1) w' wx.heap.size 0 ∧ Below wx.heap.size wx w') := fun wx => new_ok nd1 rm1 g11 g12 g13 g14
  have HB1 : Hid (∀ wx, Calls Try.prog 31 #[.int .i64 nd1, .int .i64 rm1] wx fun e w' => ∃ R : Rn, e = .returned (.tuple #[.pointer (some ⟨R.b, 0, none⟩), .int .i64 0]) ∧ R.Ok w' wx.heap.size ∧ Below wx.heap.size wx w' ∧ R.nn = nd1 ∧ R.room = rm1 ∧ R.now = 0 ∧ R.all = [] ∧ ∀ i, i < 16 → R.up i = true ∧ R.inc i = 1 ∧ R.tick i = 0 ∧ ∀ j, j < 16 → R.shut i j = false ∧ R.slow i j = 1) := fun wx => rnew_ok nd1 rm1 g11 g12 g13 g14
  have HA2 : Hid (∀ wx, Calls Try.prog 9 #[.int .i64 nd2, .int .i64 rm2] wx fun e w' => e = .returned (.tuple #[.pointer none, .int .i64 1]) ∧ wx = w') := fun wx => new_no nd2 rm2 gb2
  have HB2 : Hid (∀ wx, Calls Try.prog 31 #[.int .i64 nd2, .int .i64 rm2] wx fun e w' => e = .returned (.tuple #[.pointer none, .int .i64 1]) ∧ wx = w') := fun wx => rnew_no nd2 rm2 gb2
  unfold kc
  obtain ⟨⟨c0, c1, c2⟩, d0, d1, d2⟩ := Hc.out W (Below.refl _ _)
  clear hbW hb1 hb2 ho1 ho2
  go_enter Try.func8, Try.ntmps8
  have HLW : Hid (Below W.heap.size W W) := Below.refl _ _
  go_wp2_with (fail)
  refine (HA1.out _).mono ?_
  rintro e wE1 ⟨b1, bn1, bc1, bd1, rfl, hE, hb⟩
  have HE1 : Hid (En.Ok (newE b1 bn1 bc1 bd1 nd1 rm1 nd1) wE1 W.heap.size 0) := hE
  have HBE1 : Hid (Below W.heap.size W wE1) := hb
  have HLE1 : Hid (Below W.heap.size W wE1) := bstep HLW.out hb
  clear hE hb c0 c1 c2 d0 d1 d2
  obtain ⟨⟨c0, c1, c2⟩, d0, d1, d2⟩ := Hc.out _ HLE1.out
  go_wp2_with (fail)
  refine (HB1.out _).mono ?_
  rintro e wR1 ⟨R1, rfl, hR, hb, f1, f2, f3, f4, f5⟩
  have HD1 : Hid (Duo (newE b1 bn1 bc1 bd1 nd1 rm1 nd1) R1 wR1 W.heap.size 0) := duo_new g11 g12 g13 g14 HE1.out HBE1.out hR hb f1 f2 f3 f4 f5 HLW.out.size
  have HBR1 : Hid (Below wE1.heap.size wE1 wR1) := hb
  have HRO1 : Hid (∀ j, R1.own j → wE1.heap.size ≤ j) := fun j hj => hR.geOwn hj
  have HEO1 : Hid (∀ j, (newE b1 bn1 bc1 bd1 nd1 rm1 nd1).own j → W.heap.size ≤ j) := fun j hj => HE1.out.geOwn hj
  have HLR1 : Hid (Below W.heap.size W wR1) := bstep HLE1.out hb
  generalize hRb : R1.b = rb1 at *
  have HRb1 : Hid (R1.b = rb1) := hRb
  have hsz1 : W.heap.size ≤ wE1.heap.size := HBE1.out.size
  have hsy1 : wE1.heap.size ≤ wR1.heap.size := HBR1.out.size
  clear hR hb f1 f2 f3 f4 f5 hRb c0 c1 c2 d0 d1 d2
  obtain ⟨⟨c0, c1, c2⟩, d0, d1, d2⟩ := Hc.out _ HLR1.out
  go_wp2_with (fail)
  refine (HA2.out _).mono ?_
  rintro e wE2 ⟨rfl, rfl⟩
  go_wp2_with (fail)
  refine (HB2.out _).mono ?_
  rintro e wR2 ⟨rfl, rfl⟩
  go_wp2_with (first | (go_at_call 32; refine (num_any _).mono ?_; rintro e w5 ⟨rfl, rfl⟩) | fail)
  have hN : ∃ N, N = (if n1 < n2 then n2 else n1) := ⟨_, rfl⟩
  obtain ⟨N, hN⟩ := hN
  have HN : Hid (N = (if n1 < n2 then n2 else n1)) := hN
  have hN1 : n1 ≤ N := by rw [hN]; split <;> omega
  have hN2 : n2 ≤ N := by rw [hN]; split <;> omega
  have hN3 : N ≤ 2199023255551 := by rw [hN]; split <;> omega
  have hN4 : ∀ k, k < N → k < n1 ∨ k < n2 := by intro k hk; rw [hN] at hk; split at hk <;> omega
  have HN4 : Hid (∀ k, k < N → k < n1 ∨ k < n2) := hN4
  clear hN hN4
  go_loopw [13] (fun i wr => ∃ (k : Nat) (E1 : En) (R1 : Rn), k ≤ N ∧ i = .int .i64 k ∧ Below W.heap.size W wr ∧ Duo E1 R1 wr W.heap.size k ∧ E1.b = b1 ∧ R1.b = rb1) (fun i _ => N - (intOf i).toNat)
  case atStart => exact ⟨0, _, R1, Nat.zero_le _, rfl, HLR1.out, HD1.out, rfl, HRb1.out⟩
  case round =>
    obtain ⟨k, E1, R1', hk, rfl, hl, hd1, rfl, rfl⟩ := hrel
    have HL : Hid (Below W.heap.size W wr) := hl
    clear c0 c1 c2 d0 d1 d2
    obtain ⟨⟨c0, c1, c2⟩, d0, d1, d2⟩ := Hc.out _ hl
    have i0 : (0 : Int) ≤ (k : Int) := Int.natCast_nonneg _
    have HD1x : Hid (Duo E1 R1' wr W.heap.size k) := hd1
    clear hl hd1
    by_cases hlt : k < N
    · have hor := HN4.out k hlt
      by_cases t1 : k < n1
      · by_cases t2 : k < n2
        · skip
          have k1 : (k : Int) < (n1 : Int) := by omega
          have k2 : (k : Int) < (n2 : Int) := by omega
          obtain ⟨ob1, off1, hoa1, x0, x1, x2, x3, x4, x5⟩ := HO1.out.at HL.out (show k < n1 by omega)
          have HP1 : Hid (Calls Try.prog 33 #[.pointer (some ⟨E1.b, 0, none⟩), .pointer (some ⟨R1'.b, 0, none⟩), .agg #[.int .i64 (os1 k).k, .int .i64 (os1 k).p, .int .i64 (os1 k).q, .int .i64 (os1 k).n, .slice (os1 k).ba (os1 k).bn (os1 k).bc, .slice (os1 k).sa (os1 k).sn (os1 k).sc]] wr fun e w' => e = .returned (.bool true) ∧ ∃ E2 R2, Dtep wr w' E1 E2 R1' R2 W.heap.size k) := plays_at HD1x.out (by omega) (HO1.out.2 k (by omega)) HL.out
          generalize os1 k = o1 at x0 x1 x2 x3 x4 x5 HP1
          rw [hoa1] at c2
          clear hoa1
          go_wp2_with (fail)
          refine HP1.out.mono ?_
          rintro e wa ⟨rfl, E1n, R1n, hs1⟩
          have HS1 : Hid (Dtep wr wa E1 E1n R1' R1n W.heap.size k) := hs1
          have HLa : Hid (Below W.heap.size W wa) := HL.out.trans (Dtep.low HD1x.out hs1)
          clear hs1 c0 c1 c2 d0 d1 d2 x0 x1 x2 x3 x4 x5
          obtain ⟨⟨c0, c1, c2⟩, d0, d1, d2⟩ := Hc.out _ HLa.out
          go_wp2
          first
            | exact ⟨⟨k + 1, E1n, R1n, by omega, by go_num, HLa.out, HS1.out.duo, HS1.out.eb, HS1.out.rb⟩, by simp [intOf]; omega⟩
            | (go_roundw
               case rel => exact ⟨k + 1, E1n, R1n, by omega, by go_num, HLa.out, HS1.out.duo, HS1.out.eb, HS1.out.rb⟩
               case measure => simp [intOf]; omega)
        · skip
          have k1 : (k : Int) < (n1 : Int) := by omega
          have k2 : (k : Int) ≥ (n2 : Int) := by omega
          obtain ⟨ob1, off1, hoa1, x0, x1, x2, x3, x4, x5⟩ := HO1.out.at HL.out (show k < n1 by omega)
          have HP1 : Hid (Calls Try.prog 33 #[.pointer (some ⟨E1.b, 0, none⟩), .pointer (some ⟨R1'.b, 0, none⟩), .agg #[.int .i64 (os1 k).k, .int .i64 (os1 k).p, .int .i64 (os1 k).q, .int .i64 (os1 k).n, .slice (os1 k).ba (os1 k).bn (os1 k).bc, .slice (os1 k).sa (os1 k).sn (os1 k).sc]] wr fun e w' => e = .returned (.bool true) ∧ ∃ E2 R2, Dtep wr w' E1 E2 R1' R2 W.heap.size k) := plays_at HD1x.out (by omega) (HO1.out.2 k (by omega)) HL.out
          generalize os1 k = o1 at x0 x1 x2 x3 x4 x5 HP1
          rw [hoa1] at c2
          clear hoa1
          go_wp2_with (fail)
          refine HP1.out.mono ?_
          rintro e wa ⟨rfl, E1n, R1n, hs1⟩
          have HS1 : Hid (Dtep wr wa E1 E1n R1' R1n W.heap.size k) := hs1
          have HLa : Hid (Below W.heap.size W wa) := HL.out.trans (Dtep.low HD1x.out hs1)
          clear hs1 c0 c1 c2 d0 d1 d2 x0 x1 x2 x3 x4 x5
          obtain ⟨⟨c0, c1, c2⟩, d0, d1, d2⟩ := Hc.out _ HLa.out
          go_wp2
          first
            | exact ⟨⟨k + 1, E1n, R1n, by omega, by go_num, HLa.out, HS1.out.duo, HS1.out.eb, HS1.out.rb⟩, by simp [intOf]; omega⟩
            | (go_roundw
               case rel => exact ⟨k + 1, E1n, R1n, by omega, by go_num, HLa.out, HS1.out.duo, HS1.out.eb, HS1.out.rb⟩
               case measure => simp [intOf]; omega)
      · have t2 : k < n2 := by omega
        have k1 : (k : Int) ≥ (n1 : Int) := by omega
        have k2 : (k : Int) < (n2 : Int) := by omega
        go_wp2
        first
          | exact ⟨⟨k + 1, E1, R1', by omega, by go_num, HL.out, (HD1x.out).up, rfl, rfl⟩, by simp [intOf]; omega⟩
          | (go_roundw
             case rel => exact ⟨k + 1, E1, R1', by omega, by go_num, HL.out, (HD1x.out).up, rfl, rfl⟩
             case measure => simp [intOf]; omega)
    · obtain rfl : k = N := by omega
      have k1 : (k : Int) ≥ (n1 : Int) := by omega
      have k2 : (k : Int) ≥ (n2 : Int) := by omega
      go_wp2
      go_ret
      exact ⟨rfl, bstep Hb.out HL.out⟩

set_option maxHeartbeats 1000000 in
theorem turns11 (nd1 : Nat) (nd2 : Nat) (rm1 rm2 : Int) (oa1 oa2 : Option Addr) (n1 oc1 n2 oc2 : Nat) (os1 os2 : Nat → Opx) (g11 : 1 ≤ nd1) (g12 : nd1 ≤ 16) (g13 : 1 ≤ rm1) (g14 : rm1 ≤ 20000) (g21 : 1 ≤ nd2) (g22 : nd2 ≤ 16) (g23 : 1 ≤ rm2) (g24 : rm2 ≤ 20000) (ho1 : RdOps w oa1 n1 os1) (ho2 : RdOps w oa2 n2 os2) (hn1 : n1 ≤ 2199023255551) (hn2 : n2 ≤ 2199023255551) : Calls Try.prog 8 #[.agg (kc nd1 rm1 oa1 n1 oc1), .agg (kc nd2 rm2 oa2 n2 oc2)] w fun e w' => e = .returned (.bool true) ∧ Below w.heap.size w w' := by
  generalize hW : (w.alloc (.cells #[.int .i64 nd1, .int .i64 rm1, .slice oa1 n1 oc1] 24)).alloc (.cells #[.int .i64 nd2, .int .i64 rm2, .slice oa2 n2 oc2] 24) = W
  have hbW : Below w.heap.size w W := by rw [← hW]; exact balloc (balloc (Below.refl _ w))
  have hb1 : W.heap[w.heap.size]? = some (.cells #[.int .i64 nd1, .int .i64 rm1, .slice oa1 n1 oc1] 24 (0, 0)) := by rw [← hW]; exact blk_alloc (heap_alloc_new w _)
  have hb2 : W.heap[w.heap.size + 1]? = some (.cells #[.int .i64 nd2, .int .i64 rm2, .slice oa2 n2 oc2] 24 (0, 0)) := by
    rw [← hW]
    have := heap_alloc_new (w.alloc (.cells #[.int .i64 nd1, .int .i64 rm1, .slice oa1 n1 oc1] 24)) (.cells #[.int .i64 nd2, .int .i64 rm2, .slice oa2 n2 oc2] 24)
    simpa using this
  have Hc : Hid (∀ w', Below W.heap.size W w' → (w'.cell? ⟨w.heap.size, 0, none⟩ = some (.int .i64 nd1) ∧ w'.cell? ⟨w.heap.size, 1, none⟩ = some (.int .i64 rm1) ∧ w'.cell? ⟨w.heap.size, 2, none⟩ = some (.slice oa1 n1 oc1)) ∧ w'.cell? ⟨w.heap.size + 1, 0, none⟩ = some (.int .i64 nd2) ∧ w'.cell? ⟨w.heap.size + 1, 1, none⟩ = some (.int .i64 rm2) ∧ w'.cell? ⟨w.heap.size + 1, 2, none⟩ = some (.slice oa2 n2 oc2)) := fun w' hb => ⟨⟨below_at hb (blk_cell hb1 0), below_at hb (blk_cell hb1 1), below_at hb (blk_cell hb1 2)⟩, below_at hb (blk_cell hb2 0), below_at hb (blk_cell hb2 1), below_at hb (blk_cell hb2 2)⟩
  have HO1 : Hid (RdOps W oa1 n1 os1) := ho1.still hbW
  have HO2 : Hid (RdOps W oa2 n2 os2) := ho2.still hbW
  have Hb : Hid (Below w.heap.size w W) := hbW
  have HA1 : Hid (∀ wx, Calls Try.prog 9 #[.int .i64 nd1, .int .i64 rm1] wx fun e w' => ∃ b bn bc bd, e = .returned (.tuple #[.pointer (some ⟨b, 0, none⟩), .int .i64 0]) ∧ En.Ok (newE b bn bc bd nd1 rm1 nd1) w' wx.heap.size 0 ∧ Below wx.heap.size wx w') := fun wx => new_ok nd1 rm1 g11 g12 g13 g14
  have HB1 : Hid (∀ wx, Calls Try.prog 31 #[.int .i64 nd1, .int .i64 rm1] wx fun e w' => ∃ R : Rn, e = .returned (.tuple #[.pointer (some ⟨R.b, 0, none⟩), .int .i64 0]) ∧ R.Ok w' wx.heap.size ∧ Below wx.heap.size wx w' ∧ R.nn = nd1 ∧ R.room = rm1 ∧ R.now = 0 ∧ R.all = [] ∧ ∀ i, i < 16 → R.up i = true ∧ R.inc i = 1 ∧ R.tick i = 0 ∧ ∀ j, j < 16 → R.shut i j = false ∧ R.slow i j = 1) := fun wx => rnew_ok nd1 rm1 g11 g12 g13 g14
  have HA2 : Hid (∀ wx, Calls Try.prog 9 #[.int .i64 nd2, .int .i64 rm2] wx fun e w' => ∃ b bn bc bd, e = .returned (.tuple #[.pointer (some ⟨b, 0, none⟩), .int .i64 0]) ∧ En.Ok (newE b bn bc bd nd2 rm2 nd2) w' wx.heap.size 0 ∧ Below wx.heap.size wx w') := fun wx => new_ok nd2 rm2 g21 g22 g23 g24
  have HB2 : Hid (∀ wx, Calls Try.prog 31 #[.int .i64 nd2, .int .i64 rm2] wx fun e w' => ∃ R : Rn, e = .returned (.tuple #[.pointer (some ⟨R.b, 0, none⟩), .int .i64 0]) ∧ R.Ok w' wx.heap.size ∧ Below wx.heap.size wx w' ∧ R.nn = nd2 ∧ R.room = rm2 ∧ R.now = 0 ∧ R.all = [] ∧ ∀ i, i < 16 → R.up i = true ∧ R.inc i = 1 ∧ R.tick i = 0 ∧ ∀ j, j < 16 → R.shut i j = false ∧ R.slow i j = 1) := fun wx => rnew_ok nd2 rm2 g21 g22 g23 g24
  unfold kc
  obtain ⟨⟨c0, c1, c2⟩, d0, d1, d2⟩ := Hc.out W (Below.refl _ _)
  clear hbW hb1 hb2 ho1 ho2
  go_enter Try.func8, Try.ntmps8
  have HLW : Hid (Below W.heap.size W W) := Below.refl _ _
  go_wp2_with (fail)
  refine (HA1.out _).mono ?_
  rintro e wE1 ⟨b1, bn1, bc1, bd1, rfl, hE, hb⟩
  have HE1 : Hid (En.Ok (newE b1 bn1 bc1 bd1 nd1 rm1 nd1) wE1 W.heap.size 0) := hE
  have HBE1 : Hid (Below W.heap.size W wE1) := hb
  have HLE1 : Hid (Below W.heap.size W wE1) := bstep HLW.out hb
  clear hE hb c0 c1 c2 d0 d1 d2
  obtain ⟨⟨c0, c1, c2⟩, d0, d1, d2⟩ := Hc.out _ HLE1.out
  go_wp2_with (fail)
  refine (HB1.out _).mono ?_
  rintro e wR1 ⟨R1, rfl, hR, hb, f1, f2, f3, f4, f5⟩
  have HD1 : Hid (Duo (newE b1 bn1 bc1 bd1 nd1 rm1 nd1) R1 wR1 W.heap.size 0) := duo_new g11 g12 g13 g14 HE1.out HBE1.out hR hb f1 f2 f3 f4 f5 HLW.out.size
  have HBR1 : Hid (Below wE1.heap.size wE1 wR1) := hb
  have HRO1 : Hid (∀ j, R1.own j → wE1.heap.size ≤ j) := fun j hj => hR.geOwn hj
  have HEO1 : Hid (∀ j, (newE b1 bn1 bc1 bd1 nd1 rm1 nd1).own j → W.heap.size ≤ j) := fun j hj => HE1.out.geOwn hj
  have HLR1 : Hid (Below W.heap.size W wR1) := bstep HLE1.out hb
  generalize hRb : R1.b = rb1 at *
  have HRb1 : Hid (R1.b = rb1) := hRb
  have hsz1 : W.heap.size ≤ wE1.heap.size := HBE1.out.size
  have hsy1 : wE1.heap.size ≤ wR1.heap.size := HBR1.out.size
  clear hR hb f1 f2 f3 f4 f5 hRb c0 c1 c2 d0 d1 d2
  obtain ⟨⟨c0, c1, c2⟩, d0, d1, d2⟩ := Hc.out _ HLR1.out
  go_wp2_with (fail)
  refine (HA2.out _).mono ?_
  rintro e wE2 ⟨b2, bn2, bc2, bd2, rfl, hE, hb⟩
  have HE2 : Hid (En.Ok (newE b2 bn2 bc2 bd2 nd2 rm2 nd2) wE2 wR1.heap.size 0) := hE
  have HBE2 : Hid (Below wR1.heap.size wR1 wE2) := hb
  have HLE2 : Hid (Below W.heap.size W wE2) := bstep HLR1.out hb
  clear hE hb c0 c1 c2 d0 d1 d2
  obtain ⟨⟨c0, c1, c2⟩, d0, d1, d2⟩ := Hc.out _ HLE2.out
  go_wp2_with (fail)
  refine (HB2.out _).mono ?_
  rintro e wR2 ⟨R2, rfl, hR, hb, f1, f2, f3, f4, f5⟩
  have HD2 : Hid (Duo (newE b2 bn2 bc2 bd2 nd2 rm2 nd2) R2 wR2 W.heap.size 0) := duo_new g21 g22 g23 g24 HE2.out HBE2.out hR hb f1 f2 f3 f4 f5 HLR1.out.size
  have HBR2 : Hid (Below wE2.heap.size wE2 wR2) := hb
  have HRO2 : Hid (∀ j, R2.own j → wE2.heap.size ≤ j) := fun j hj => hR.geOwn hj
  have HEO2 : Hid (∀ j, (newE b2 bn2 bc2 bd2 nd2 rm2 nd2).own j → wR1.heap.size ≤ j) := fun j hj => HE2.out.geOwn hj
  have HLR2 : Hid (Below W.heap.size W wR2) := bstep HLE2.out hb
  generalize hRb : R2.b = rb2 at *
  have HRb2 : Hid (R2.b = rb2) := hRb
  have hsz2 : wR1.heap.size ≤ wE2.heap.size := HBE2.out.size
  have hsy2 : wE2.heap.size ≤ wR2.heap.size := HBR2.out.size
  clear hR hb f1 f2 f3 f4 f5 hRb c0 c1 c2 d0 d1 d2
  obtain ⟨⟨c0, c1, c2⟩, d0, d1, d2⟩ := Hc.out _ HLR2.out
  go_wp2_with (first | (go_at_call 32; refine (num_any _).mono ?_; rintro e w5 ⟨rfl, rfl⟩) | fail)
  have hN : ∃ N, N = (if n1 < n2 then n2 else n1) := ⟨_, rfl⟩
  obtain ⟨N, hN⟩ := hN
  have HN : Hid (N = (if n1 < n2 then n2 else n1)) := hN
  have hN1 : n1 ≤ N := by rw [hN]; split <;> omega
  have hN2 : n2 ≤ N := by rw [hN]; split <;> omega
  have hN3 : N ≤ 2199023255551 := by rw [hN]; split <;> omega
  have hN4 : ∀ k, k < N → k < n1 ∨ k < n2 := by intro k hk; rw [hN] at hk; split at hk <;> omega
  have HN4 : Hid (∀ k, k < N → k < n1 ∨ k < n2) := hN4
  clear hN hN4
  go_loopw [13] (fun i wr => ∃ (k : Nat) (E1 : En) (R1 : Rn) (E2 : En) (R2 : Rn), k ≤ N ∧ i = .int .i64 k ∧ Below W.heap.size W wr ∧ Duo E1 R1 wr W.heap.size k ∧ E1.b = b1 ∧ R1.b = rb1 ∧ Duo E2 R2 wr W.heap.size k ∧ E2.b = b2 ∧ R2.b = rb2 ∧ (∀ j, E1.own j ∨ R1.own j → ¬ (E2.own j ∨ R2.own j))) (fun i _ => N - (intOf i).toNat)
  case atStart => exact ⟨0, _, R1, _, R2, Nat.zero_le _, rfl, HLR2.out, (HD1.out.still HBE2.out).still HBR2.out, rfl, HRb1.out, HD2.out, rfl, HRb2.out, (fun j hj e => by
      have h1 : j < wR1.heap.size := hj.elim (fun q => HD1.out.e.ltOwn q) (fun q => HD1.out.r.ltOwn q)
      have h2 : wR1.heap.size ≤ j := e.elim (fun q => HEO2.out j q) (fun q => Nat.le_trans hsz2 (HRO2.out j q))
      omega)⟩
  case round =>
    obtain ⟨k, E1, R1', E2, R2', hk, rfl, hl, hd1, rfl, rfl, hd2, rfl, rfl, hdj⟩ := hrel
    have HL : Hid (Below W.heap.size W wr) := hl
    clear c0 c1 c2 d0 d1 d2
    obtain ⟨⟨c0, c1, c2⟩, d0, d1, d2⟩ := Hc.out _ hl
    have i0 : (0 : Int) ≤ (k : Int) := Int.natCast_nonneg _
    have HD1x : Hid (Duo E1 R1' wr W.heap.size k) := hd1
    have HD2x : Hid (Duo E2 R2' wr W.heap.size k) := hd2
    have HDJ : Hid (∀ j, E1.own j ∨ R1'.own j → ¬ (E2.own j ∨ R2'.own j)) := hdj
    clear hdj
    clear hl hd1 hd2
    by_cases hlt : k < N
    · have hor := HN4.out k hlt
      by_cases t1 : k < n1
      · by_cases t2 : k < n2
        · skip
          have k1 : (k : Int) < (n1 : Int) := by omega
          have k2 : (k : Int) < (n2 : Int) := by omega
          obtain ⟨ob1, off1, hoa1, x0, x1, x2, x3, x4, x5⟩ := HO1.out.at HL.out (show k < n1 by omega)
          have HP1 : Hid (Calls Try.prog 33 #[.pointer (some ⟨E1.b, 0, none⟩), .pointer (some ⟨R1'.b, 0, none⟩), .agg #[.int .i64 (os1 k).k, .int .i64 (os1 k).p, .int .i64 (os1 k).q, .int .i64 (os1 k).n, .slice (os1 k).ba (os1 k).bn (os1 k).bc, .slice (os1 k).sa (os1 k).sn (os1 k).sc]] wr fun e w' => e = .returned (.bool true) ∧ ∃ E2 R2, Dtep wr w' E1 E2 R1' R2 W.heap.size k) := plays_at HD1x.out (by omega) (HO1.out.2 k (by omega)) HL.out
          generalize os1 k = o1 at x0 x1 x2 x3 x4 x5 HP1
          rw [hoa1] at c2
          clear hoa1
          go_wp2_with (fail)
          refine HP1.out.mono ?_
          rintro e wa ⟨rfl, E1n, R1n, hs1⟩
          have HS1 : Hid (Dtep wr wa E1 E1n R1' R1n W.heap.size k) := hs1
          have HLa : Hid (Below W.heap.size W wa) := HL.out.trans (Dtep.low HD1x.out hs1)
          clear hs1 c0 c1 c2 d0 d1 d2 x0 x1 x2 x3 x4 x5
          obtain ⟨⟨c0, c1, c2⟩, d0, d1, d2⟩ := Hc.out _ HLa.out
          have HO : Hid (Duo E2 R2' wa W.heap.size k ∧ ∀ j, E1n.own j ∨ R1n.own j → ¬ (E2.own j ∨ R2'.own j)) := HD2x.out.other HS1.out HDJ.out
          obtain ⟨ob2, off2, hoa2, y0, y1, y2, y3, y4, y5⟩ := HO2.out.at HLa.out (show k < n2 by omega)
          have HP2 : Hid (Calls Try.prog 33 #[.pointer (some ⟨E2.b, 0, none⟩), .pointer (some ⟨R2'.b, 0, none⟩), .agg #[.int .i64 (os2 k).k, .int .i64 (os2 k).p, .int .i64 (os2 k).q, .int .i64 (os2 k).n, .slice (os2 k).ba (os2 k).bn (os2 k).bc, .slice (os2 k).sa (os2 k).sn (os2 k).sc]] wa fun e w' => e = .returned (.bool true) ∧ ∃ E3 R3, Dtep wa w' E2 E3 R2' R3 W.heap.size k) := plays_at HO.out.1 (by omega) (HO2.out.2 k (by omega)) HLa.out
          generalize os2 k = o2 at y0 y1 y2 y3 y4 y5 HP2
          rw [hoa2] at d2
          clear hoa2
          go_wp2_with (fail)
          refine HP2.out.mono ?_
          rintro e wb ⟨rfl, E2n, R2n, hs2⟩
          have HS2 : Hid (Dtep wa wb E2 E2n R2' R2n W.heap.size k) := hs2
          have HLb : Hid (Below W.heap.size W wb) := HLa.out.trans (Dtep.low HO.out.1 hs2)
          clear hs2 c0 c1 c2 d0 d1 d2 y0 y1 y2 y3 y4 y5
          obtain ⟨⟨c0, c1, c2⟩, d0, d1, d2⟩ := Hc.out _ HLb.out
          have HQ : Hid (Duo E1n R1n wb W.heap.size (k + 1) ∧ ∀ j, E1n.own j ∨ R1n.own j → ¬ (E2n.own j ∨ R2n.own j)) := Duo.other2 HS1.out.duo HS2.out HO.out.2
          go_wp2
          first
            | exact ⟨⟨k + 1, E1n, R1n, E2n, R2n, by omega, by go_num, HLb.out, HQ.out.1, HS1.out.eb, HS1.out.rb, HS2.out.duo, HS2.out.eb, HS2.out.rb, HQ.out.2⟩, by simp [intOf]; omega⟩
            | (go_roundw
               case rel => exact ⟨k + 1, E1n, R1n, E2n, R2n, by omega, by go_num, HLb.out, HQ.out.1, HS1.out.eb, HS1.out.rb, HS2.out.duo, HS2.out.eb, HS2.out.rb, HQ.out.2⟩
               case measure => simp [intOf]; omega)
        · skip
          have k1 : (k : Int) < (n1 : Int) := by omega
          have k2 : (k : Int) ≥ (n2 : Int) := by omega
          obtain ⟨ob1, off1, hoa1, x0, x1, x2, x3, x4, x5⟩ := HO1.out.at HL.out (show k < n1 by omega)
          have HP1 : Hid (Calls Try.prog 33 #[.pointer (some ⟨E1.b, 0, none⟩), .pointer (some ⟨R1'.b, 0, none⟩), .agg #[.int .i64 (os1 k).k, .int .i64 (os1 k).p, .int .i64 (os1 k).q, .int .i64 (os1 k).n, .slice (os1 k).ba (os1 k).bn (os1 k).bc, .slice (os1 k).sa (os1 k).sn (os1 k).sc]] wr fun e w' => e = .returned (.bool true) ∧ ∃ E2 R2, Dtep wr w' E1 E2 R1' R2 W.heap.size k) := plays_at HD1x.out (by omega) (HO1.out.2 k (by omega)) HL.out
          generalize os1 k = o1 at x0 x1 x2 x3 x4 x5 HP1
          rw [hoa1] at c2
          clear hoa1
          go_wp2_with (fail)
          refine HP1.out.mono ?_
          rintro e wa ⟨rfl, E1n, R1n, hs1⟩
          have HS1 : Hid (Dtep wr wa E1 E1n R1' R1n W.heap.size k) := hs1
          have HLa : Hid (Below W.heap.size W wa) := HL.out.trans (Dtep.low HD1x.out hs1)
          clear hs1 c0 c1 c2 d0 d1 d2 x0 x1 x2 x3 x4 x5
          obtain ⟨⟨c0, c1, c2⟩, d0, d1, d2⟩ := Hc.out _ HLa.out
          have HO : Hid (Duo E2 R2' wa W.heap.size k ∧ ∀ j, E1n.own j ∨ R1n.own j → ¬ (E2.own j ∨ R2'.own j)) := HD2x.out.other HS1.out HDJ.out
          go_wp2
          first
            | exact ⟨⟨k + 1, E1n, R1n, E2, R2', by omega, by go_num, HLa.out, HS1.out.duo, HS1.out.eb, HS1.out.rb, (HO.out.1).up, rfl, rfl, HO.out.2⟩, by simp [intOf]; omega⟩
            | (go_roundw
               case rel => exact ⟨k + 1, E1n, R1n, E2, R2', by omega, by go_num, HLa.out, HS1.out.duo, HS1.out.eb, HS1.out.rb, (HO.out.1).up, rfl, rfl, HO.out.2⟩
               case measure => simp [intOf]; omega)
      · have t2 : k < n2 := by omega
        have k1 : (k : Int) ≥ (n1 : Int) := by omega
        have k2 : (k : Int) < (n2 : Int) := by omega
        obtain ⟨ob2, off2, hoa2, y0, y1, y2, y3, y4, y5⟩ := HO2.out.at HL.out (show k < n2 by omega)
        have HP2 : Hid (Calls Try.prog 33 #[.pointer (some ⟨E2.b, 0, none⟩), .pointer (some ⟨R2'.b, 0, none⟩), .agg #[.int .i64 (os2 k).k, .int .i64 (os2 k).p, .int .i64 (os2 k).q, .int .i64 (os2 k).n, .slice (os2 k).ba (os2 k).bn (os2 k).bc, .slice (os2 k).sa (os2 k).sn (os2 k).sc]] wr fun e w' => e = .returned (.bool true) ∧ ∃ E3 R3, Dtep wr w' E2 E3 R2' R3 W.heap.size k) := plays_at HD2x.out (by omega) (HO2.out.2 k (by omega)) HL.out
        generalize os2 k = o2 at y0 y1 y2 y3 y4 y5 HP2
        rw [hoa2] at d2
        clear hoa2
        go_wp2_with (fail)
        refine HP2.out.mono ?_
        rintro e wb ⟨rfl, E2n, R2n, hs2⟩
        have HS2 : Hid (Dtep wr wb E2 E2n R2' R2n W.heap.size k) := hs2
        have HLb : Hid (Below W.heap.size W wb) := HL.out.trans (Dtep.low HD2x.out hs2)
        clear hs2 c0 c1 c2 d0 d1 d2 y0 y1 y2 y3 y4 y5
        obtain ⟨⟨c0, c1, c2⟩, d0, d1, d2⟩ := Hc.out _ HLb.out
        have HQ : Hid (Duo E1 R1' wb W.heap.size (k) ∧ ∀ j, E1.own j ∨ R1'.own j → ¬ (E2n.own j ∨ R2n.own j)) := Duo.other2 HD1x.out HS2.out HDJ.out
        go_wp2
        first
          | exact ⟨⟨k + 1, E1, R1', E2n, R2n, by omega, by go_num, HLb.out, (HQ.out.1).up, rfl, rfl, HS2.out.duo, HS2.out.eb, HS2.out.rb, HQ.out.2⟩, by simp [intOf]; omega⟩
          | (go_roundw
             case rel => exact ⟨k + 1, E1, R1', E2n, R2n, by omega, by go_num, HLb.out, (HQ.out.1).up, rfl, rfl, HS2.out.duo, HS2.out.eb, HS2.out.rb, HQ.out.2⟩
             case measure => simp [intOf]; omega)
    · obtain rfl : k = N := by omega
      have k1 : (k : Int) ≥ (n1 : Int) := by omega
      have k2 : (k : Int) ≥ (n2 : Int) := by omega
      go_wp2
      go_ret
      exact ⟨rfl, bstep Hb.out HL.out⟩

theorem turns_any (nd1 nd2 rm1 rm2 : Int) (oa1 oa2 : Option Addr) (n1 oc1 n2 oc2 : Nat) (os1 os2 : Nat → Opx) (ho1 : RdOps w oa1 n1 os1) (ho2 : RdOps w oa2 n2 os2) (hn1 : n1 ≤ 2199023255551) (hn2 : n2 ≤ 2199023255551) : Calls Try.prog 8 #[.agg (kc nd1 rm1 oa1 n1 oc1), .agg (kc nd2 rm2 oa2 n2 oc2)] w fun e w' => e = .returned (.bool true) ∧ Below w.heap.size w w' := by
  by_cases b1 : badNew nd1 rm1
  · by_cases b2 : badNew nd2 rm2
    · exact turns00 nd1 nd2 rm1 rm2 oa1 oa2 n1 oc1 n2 oc2 os1 os2 b1 b2 ho1 ho2 hn1 hn2
    · unfold badNew at b2
      obtain ⟨k2, rfl⟩ : ∃ k : Nat, nd2 = k := ⟨nd2.toNat, by omega⟩
      exact turns01 nd1 k2 rm1 rm2 oa1 oa2 n1 oc1 n2 oc2 os1 os2 b1 (by omega) (by omega) (by omega) (by omega) ho1 ho2 hn1 hn2
  · unfold badNew at b1
    obtain ⟨k1, rfl⟩ : ∃ k : Nat, nd1 = k := ⟨nd1.toNat, by omega⟩
    by_cases b2 : badNew nd2 rm2
    · exact turns10 k1 nd2 rm1 rm2 oa1 oa2 n1 oc1 n2 oc2 os1 os2 (by omega) (by omega) (by omega) (by omega) b2 ho1 ho2 hn1 hn2
    · unfold badNew at b2
      obtain ⟨k2, rfl⟩ : ∃ k : Nat, nd2 = k := ⟨nd2.toNat, by omega⟩
      exact turns11 k1 k2 rm1 rm2 oa1 oa2 n1 oc1 n2 oc2 os1 os2 (by omega) (by omega) (by omega) (by omega) (by omega) (by omega) (by omega) (by omega) ho1 ho2 hn1 hn2
end
end Go.Proofs.Ythogcanfinjfdaa.Et
