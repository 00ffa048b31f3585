import Derived.Test.YtdegjhkjmgimpaaV10
namespace Go.Proofs.Ytdegjhkjmgimpaa.Mb
open Go.RowKit
set_option linter.unusedVariables false
set_option maxRecDepth 100000
set_option linter.unusedSimpArgs false
section
variable {w w' W : World} {B : Nat}
set_option maxHeartbeats 20000000 in
theorem propOf_C (p : Pq) (hp : p.Rd w) (q : Nat) (hq : q < 16) (inc : Int) (n : Nat) (hn : n ≤ 16) (hSA : p.SA q inc n = true) (hSB : p.SB q = true) : Calls Try.prog 31 #[.agg p.cs, .int .i64 q, .int .i64 inc, .int .i64 n] w fun e w' => ∃ P0 : Pp, e = .returned (.tuple #[.agg (ints P0.fl).toArray, .bool (p.valid q inc n)]) ∧ P0.L ∧ (p.valid q inc n = true → P0 = p.pp) ∧ Below w.heap.size w w' := by
  generalize hW1 : w.alloc (.cells p.cs 33) = W1
  generalize hW2 : W1.alloc (.cells #[.int .i64 0, .int .i64 0, .int .i64 0, .int .i64 0, .int .i64 0, .int .i64 0, .int .i64 0, .int .i64 0, .int .i64 0, .int .i64 0, .int .i64 0, .int .i64 0, .int .i64 0, .int .i64 0, .int .i64 0, .int .i64 0, .int .i64 0, .int .i64 0, .int .i64 0, .int .i64 0, .int .i64 0, .int .i64 0, .int .i64 0, .int .i64 0, .int .i64 0, .int .i64 0, .int .i64 0, .int .i64 0, .int .i64 0, .int .i64 0, .int .i64 0, .int .i64 0, .int .i64 0, .int .i64 0, .int .i64 0, .int .i64 0, .int .i64 0, .int .i64 0, .int .i64 0] 63) = W2
  have b1 : Below w.heap.size w W1 := hW1 ▸ balloc (Below.refl _ _)
  have b2 : Below W1.heap.size W1 W2 := hW2 ▸ balloc (Below.refl _ _)
  have s1 : W1.heap.size = w.heap.size + 1 := by rw [← hW1]; simp
  have k1 : W1.heap[w.heap.size]? = some (.cells p.cs 33 (0, 0)) := by rw [← hW1]; exact heap_alloc_new w _
  have k2 : Rw W2 W1.heap.size 63 z39 := by unfold Rw; rw [← hW2]; exact heap_alloc_new W1 _
  have HK1 : Hid (W2.heap[w.heap.size]? = some (.cells p.cs 33 (0, 0))) := (Kept.ofBelow b2 (fun _ => False)).obj k1 (fun hh => hh)
  have HK2 : Hid (Rw W2 W1.heap.size 63 z39) := k2
  have HB2 : Hid (Below w.heap.size w W2) := bstep b1 b2
  have HP2 : Hid (p.Rd W2) := (hp.still b1).still b2
  have HP0 : Hid (p.Rd w) := hp
  have q0 : W2.cell? ⟨w.heap.size, 0, none⟩ = some (.slice p.sa p.sn p.sc) := blk_cell HK1.out 0
  have hk1 : w.heap.size < W1.heap.size := by omega
  have hs2 : W1.heap.size < W2.heap.size := by rw [← hW2]; simp
  have hpl := hp.l
  clear b1 b2 s1 k1 k2 hp
  go_enter Try.func31, Try.ntmps31
  go_wp2_with (first
    | (refine store_mid 61 (.tmp 12) (.tmp 27) (HK6.out.there 0 rv.length (by rw [hrv]; exact Nat.le_refl _)) (by rw [hrv]; exact info_row) rfl rfl rfl rfl ?_; have HK7 : Hid (Rw (W6.setCells W5.heap.size 0 (ints rv)) W5.heap.size 61 rv) := HK6.out.whole (by rw [hrv]; rfl); have HB7 : Hid (Below V1.heap.size V1 (W6.setCells W5.heap.size 0 (ints rv))) := bsets hk5 _ _ HB6.out; generalize W6.setCells W5.heap.size 0 (ints rv) = V at *; clear HK6 HB6)
    | (go_at_call 20; refine (rowOf_any (xs := p.vs) HP5.out.v n hn HP5.out.vn).mono ?_; rintro e W5 ⟨rv, rfl, hrv, hok2, b5⟩; generalize hW6 : W5.alloc (.cells #[.int .i64 0, .int .i64 0, .int .i64 0, .int .i64 0, .int .i64 0, .int .i64 0, .int .i64 0, .int .i64 0, .int .i64 0, .int .i64 0, .int .i64 0, .int .i64 0, .int .i64 0, .int .i64 0, .int .i64 0, .int .i64 0] 61) = W6; have hk5 : V1.heap.size ≤ W5.heap.size := b5.size; have hk35 : W3.heap.size < V1.heap.size := HK5.out.lt; have hb6 : Below W5.heap.size W5 W6 := (by rw [← hW6]; exact balloc (Below.refl _ _)); have HK6 : Hid (Rw W6 W5.heap.size 61 zs) := (by show Rw _ _ _ _; unfold Rw; rw [← hW6]; exact heap_alloc_new W5 _); have HB6 : Hid (Below V1.heap.size V1 W6) := bstep b5 hb6; clear b5 hb6)
    | (refine store_mid 61 (.tmp 10) (.tmp 20) (HK4.out.there 0 rs.length (by rw [hrs]; exact Nat.le_refl _)) (by rw [hrs]; exact info_row) rfl rfl rfl rfl ?_; have HK5 : Hid (Rw (W4.setCells W3.heap.size 0 (ints rs)) W3.heap.size 61 rs) := HK4.out.whole (by rw [hrs]; rfl); have HB5 : Hid (Below W2.heap.size W2 (W4.setCells W3.heap.size 0 (ints rs))) := bsets hk3 _ _ HB4.out; generalize W4.setCells W3.heap.size 0 (ints rs) = V1 at *; have HP5 : Hid (p.Rd V1) := HP2.out.still HB5.out; have q8 : V1.cell? ⟨w.heap.size, 8, none⟩ = some (.slice p.va p.vn p.vc) := below_at HB5.out (blk_cell HK1.out 8); clear HK4 HB4)
    | (go_at_call 20; refine (rowOf_any (xs := p.ss) HP2.out.s n hn HP2.out.sn).mono ?_; rintro e W3 ⟨rs, rfl, hrs, hok1, b3⟩; generalize hW4 : W3.alloc (.cells #[.int .i64 0, .int .i64 0, .int .i64 0, .int .i64 0, .int .i64 0, .int .i64 0, .int .i64 0, .int .i64 0, .int .i64 0, .int .i64 0, .int .i64 0, .int .i64 0, .int .i64 0, .int .i64 0, .int .i64 0, .int .i64 0] 61) = W4; have hk3 : W2.heap.size ≤ W3.heap.size := b3.size; have hb4 : Below W3.heap.size W3 W4 := (by rw [← hW4]; exact balloc (Below.refl _ _)); have HK4 : Hid (Rw W4 W3.heap.size 61 zs) := (by show Rw _ _ _ _; unfold Rw; rw [← hW4]; exact heap_alloc_new W3 _); have HB4 : Hid (Below W2.heap.size W2 W4) := bstep b3 hb4; clear b3 hb4)
    | fail)
  have a0 : V.cell? ⟨w.heap.size, 1, none⟩ = some (.int .i64 p.cid) := below_at HB7.out (below_at HB5.out (blk_cell HK1.out 1))
  have a1 : V.cell? ⟨w.heap.size, 2, none⟩ = some (.int .i64 p.rev) := below_at HB7.out (below_at HB5.out (blk_cell HK1.out 2))
  have a2 : V.cell? ⟨w.heap.size, 3, none⟩ = some (.int .i64 p.top) := below_at HB7.out (below_at HB5.out (blk_cell HK1.out 3))
  have a3 : V.rangeAt w.heap.size 4 (ints p.prev) := rng_below (rng_below (prev_range HK1.out hpl) HB5.out) HB7.out
  have hK5 : Rw V W3.heap.size 61 rs := HK5.out.still HB7.out
  have a4 : V.cell? ⟨W3.heap.size, q, none⟩ = some (.int .i64 (rs.getD q 0)) := hK5.cell (by rw [hrs]; exact hq)
  have a5 : V.cell? ⟨W5.heap.size, q, none⟩ = some (.int .i64 (rv.getD q 0)) := HK7.out.cell (by rw [hrv]; exact hq)
  have a6 : V.rangeAt W3.heap.size 0 (ints rs) := hK5.all
  have a7 : V.rangeAt W5.heap.size 0 (ints rv) := HK7.out.all
  have HZ : Hid (Rw V W1.heap.size 63 z39) := (HK2.out.still HB5.out).still HB7.out
  have HBV : Hid (Below w.heap.size w V) := bstep (bstep HB2.out HB5.out) HB7.out
  generalize hk10 : W3.heap.size = k10 at *
  generalize hk12 : W5.heap.size = k12 at *
  have i3 : (q : Int) < 16 := by omega
  have Gh : Hid (∀ W, Calls Try.prog 39 #[.agg (ints rv).toArray, .agg (ints rs).toArray] W fun e w' => e = .returned (.bool (honly rv rs)) ∧ Below W.heap.size W w') := fun W => honly_any rv rs hrv hrs
  have G1 : Hid (∀ W, Calls Try.prog 26 #[.int .i64 p.cid, .int .i64 1, .int .i64 4611686018427387904] W fun e w' => e = .returned (.bool (wB p.cid 1 4611686018427387904)) ∧ W = w') := fun W => within_w _ _ _
  have G2 : Hid (∀ W, Calls Try.prog 26 #[.int .i64 p.rev, .int .i64 1, .int .i64 4611686018427387904] W fun e w' => e = .returned (.bool (wB p.rev 1 4611686018427387904)) ∧ W = w') := fun W => within_w _ _ _
  have G3 : Hid (∀ W, Calls Try.prog 26 #[.int .i64 p.top, .int .i64 0, .int .i64 4611686018427387903] W fun e w' => e = .returned (.bool (wB p.top 0 4611686018427387903)) ∧ W = w') := fun W => within_w _ _ _
  have Gp : Hid (∀ W, Calls Try.prog 40 #[.agg (ints p.prev).toArray, .int .i64 n] W fun e w' => e = .returned (.bool (prevOk p.prev n)) ∧ Below W.heap.size W w') := fun W => prev_any p.prev hpl n hn
  obtain ⟨bq, hbq⟩ : ∃ b, (rs.getD q 0 == inc) = b := ⟨_, rfl⟩
  obtain ⟨bc, hbc⟩ : ∃ b, (rv.getD q 0 == p.cid) = b := ⟨_, rfl⟩
  have Hv : Hid (p.valid q inc n = (okL p.ss n && okL p.vs n && bq && bc && honly rv rs && wB p.cid 1 4611686018427387904 && wB p.rev 1 4611686018427387904 && wB p.top 0 4611686018427387903 && prevOk p.prev n)) := by
    show p.valid q inc n = _
    unfold Pq.valid
    cases h1 : okL p.ss n with
    | false => simp
    | true =>
      cases h2 : okL p.vs n with
      | false => simp
      | true => rw [← hok1 h1, ← hok2 h2, hbq, hbc]
  have HSA : Hid ((okL p.ss n && okL p.vs n && bq) = true) := by
    show (okL p.ss n && okL p.vs n && bq) = _
    rw [← hSA]
    unfold Pq.SA
    cases h1 : okL p.ss n with
    | false => simp
    | true => rw [← hok1 h1, hbq]
  have HSB : Hid ((bc && honly rv rs && wB p.cid 1 4611686018427387904 && wB p.rev 1 4611686018427387904) = true) := by
    show (bc && honly rv rs && wB p.cid 1 4611686018427387904 && wB p.rev 1 4611686018427387904) = _
    rw [← hSB]
    have h3 := hSA
    unfold Pq.SA at h3
    simp only [Bool.and_eq_true] at h3
    unfold Pq.SB
    rw [← hok1 h3.1.1, ← hok2 h3.1.2, hbc]
  have He : Hid (p.valid q inc n = true → (⟨rs, p.cid, p.rev, p.top, p.prev, rv⟩ : Pp) = p.pp) := fun h => by
    unfold Pq.valid at h
    simp only [Bool.and_eq_true] at h
    unfold Pq.pp
    rw [hok1 h.1.1.1.1.1.1.1.1, hok2 h.1.1.1.1.1.1.1.2]
  have LP : Hid (⟨rs, p.cid, p.rev, p.top, p.prev, rv⟩ : Pp).L := ⟨hrs, hpl, hrv⟩
  clear hSA hSB
  generalize rs.getD q 0 = xq at *
  generalize rv.getD q 0 = xv at *
  generalize okL p.ss n = b0 at *
  generalize okL p.vs n = b1 at *
  generalize honly rv rs = bh at *
  generalize wB p.cid 1 4611686018427387904 = d1 at *
  generalize wB p.rev 1 4611686018427387904 = d2 at *
  generalize wB p.top 0 4611686018427387903 = d3 at *
  generalize prevOk p.prev n = dp at *
  clear hok1 hok2 HK5 HK7 hK5 HB5 HB7 HP5 q8 q0 HK1 HK2 HB2 HP2
  cases b0 with
  | false =>
    exact absurd HSA.out (by simp)
  | true =>
    cases b1 with
    | false =>
      exact absurd HSA.out (by simp)
    | true =>
      cases bq with
      | false =>
        exact absurd HSA.out (by simp)
      | true =>
        cases bc with
        | false =>
          exact absurd HSB.out (by simp)
        | true =>
          cases bh with
          | false =>
            exact absurd HSB.out (by simp)
          | true =>
            cases d1 with
            | false =>
              exact absurd HSB.out (by simp)
            | true =>
              cases d2 with
              | false =>
                exact absurd HSB.out (by simp)
              | true =>
                cases d3 with
                | false =>
                  refine wp_region_held_drew (S := (fun w' => w'.cell? ⟨w.heap.size, 1, none⟩ = some (.int .i64 p.cid) ∧ w'.cell? ⟨w.heap.size, 2, none⟩ = some (.int .i64 p.rev) ∧ w'.cell? ⟨w.heap.size, 3, none⟩ = some (.int .i64 p.top) ∧ w'.rangeAt w.heap.size 4 (ints p.prev) ∧ w'.cell? ⟨k10, q, none⟩ = some (.int .i64 xq) ∧ w'.cell? ⟨k12, q, none⟩ = some (.int .i64 xv) ∧ w'.rangeAt k10 0 (ints rs) ∧ w'.rangeAt k12 0 (ints rv) ∧ Below V.heap.size V w')) (by kernel_rfl) ⟨below_at (Below.refl _ _).drew a0, below_at (Below.refl _ _).drew a1, below_at (Below.refl _ _).drew a2, rng_below a3 (Below.refl _ _).drew, below_at (Below.refl _ _).drew a4, below_at (Below.refl _ _).drew a5, rng_below a6 (Below.refl _ _).drew, rng_below a7 (Below.refl _ _).drew, (Below.refl _ _).drew⟩ (fun hHeld => ?_)
                  simp only [Act.put, List.size_toArray, List.length_cons, List.length_nil, Nat.zero_add]
                  refine wpAnyH_take (i := 0) (v := .bool true) rfl (by kernel_rfl) (by kernel_rfl) (by kernel_rfl) (fun _ _ _ h => h) (Or.inl ⟨by rfl, fun w' hS => by go_simp⟩) hHeld ?_
                  simp only [Act.put, gA9, gZ9, gC9, sA9, sZ9, sC9]
                  refine wpAnyH_take (i := 1) (v := .bool true) rfl (by kernel_rfl) (by kernel_rfl) (by kernel_rfl) (fun _ _ _ h => h) (Or.inl ⟨by rfl, fun w' hS => by go_simp⟩) hHeld ?_
                  simp only [Act.put, gA9, gZ9, gC9, sA9, sZ9, sC9]
                  refine wpAnyH_take (i := 2) (v := .bool true) rfl (by kernel_rfl) (by kernel_rfl) (by kernel_rfl) (fun _ _ _ h => h) (Or.inl ⟨by rfl, fun w' hS => by go_simp⟩) hHeld ?_
                  simp only [Act.put, gA9, gZ9, gC9, sA9, sZ9, sC9]
                  refine wpAnyH_take (i := 3) (v := .bool true) rfl (by kernel_rfl) (by kernel_rfl) (by kernel_rfl) (fun _ _ _ h => h) (Or.inl ⟨by rfl, fun w' hS => by go_simp⟩) hHeld ?_
                  simp only [Act.put, gA9, gZ9, gC9, sA9, sZ9, sC9]
                  refine wpAnyH_take (i := 4) (v := .bool true) rfl (by kernel_rfl) (by kernel_rfl) (by kernel_rfl) (fun _ _ _ h => h) (Or.inl ⟨by rfl, fun w' hS => by go_simp⟩) hHeld ?_
                  simp only [Act.put, gA9, gZ9, gC9, sA9, sZ9, sC9]
                  refine wpAnyH_take (i := 5) (v := .int .i64 (q : Int)) rfl (by kernel_rfl) (by kernel_rfl) (by kernel_rfl) (fun _ _ _ h => h) (Or.inl ⟨by rfl, fun w' hS => by go_simp⟩) hHeld ?_
                  simp only [Act.put, gA9, gZ9, gC9, sA9, sZ9, sC9]
                  refine wpAnyH_take (i := 6) (v := .pointer (some ⟨k10, q, none⟩)) rfl (by kernel_rfl) (by kernel_rfl) (by kernel_rfl) (fun _ _ _ h => h) (Or.inl ⟨by rfl, fun w' hS => by (go_simp <;> (intro hh; omega))⟩) hHeld ?_
                  simp only [Act.put, gA9, gZ9, gC9, sA9, sZ9, sC9]
                  refine wpAnyH_take (i := 7) (v := .int .i64 xq) rfl (by kernel_rfl) (by kernel_rfl) (by kernel_rfl) (fun _ _ _ h => h) (Or.inl ⟨by rfl, fun w' hS => by (obtain ⟨s0, s1, s2, s3, s4, s5, s6, s7, s8⟩ := hS; go_simp)⟩) hHeld ?_
                  simp only [Act.put, gA9, gZ9, gC9, sA9, sZ9, sC9]
                  refine wpAnyH_take (i := 8) (v := .int .i64 inc) rfl (by kernel_rfl) (by kernel_rfl) (by kernel_rfl) (fun _ _ _ h => h) (Or.inl ⟨by rfl, fun w' hS => by go_simp⟩) hHeld ?_
                  simp only [Act.put, gA9, gZ9, gC9, sA9, sZ9, sC9]
                  refine wpAnyH_take (i := 9) (v := .bool true) rfl (by kernel_rfl) (by kernel_rfl) (by kernel_rfl) (fun _ _ _ h => h) (Or.inl ⟨by rfl, fun w' hS => by (go_simp <;> simpa using hbq)⟩) hHeld ?_
                  simp only [Act.put, gA9, gZ9, gC9, sA9, sZ9, sC9]
                  refine wpAnyH_take (i := 10) (v := .bool true) rfl (by kernel_rfl) (by kernel_rfl) (by kernel_rfl) (fun _ _ _ h => h) (Or.inl ⟨by rfl, fun w' hS => by go_simp⟩) hHeld ?_
                  simp only [Act.put, gA9, gZ9, gC9, sA9, sZ9, sC9]
                  refine wpAnyH_take (i := 11) (v := .bool true) rfl (by kernel_rfl) (by kernel_rfl) (by kernel_rfl) (fun _ _ _ h => h) (Or.inl ⟨by rfl, fun w' hS => by go_simp⟩) hHeld ?_
                  simp only [Act.put, gA9, gZ9, gC9, sA9, sZ9, sC9]
                  refine wpAnyH_take (i := 12) (v := .int .i64 (q : Int)) rfl (by kernel_rfl) (by kernel_rfl) (by kernel_rfl) (fun _ _ _ h => h) (Or.inl ⟨by rfl, fun w' hS => by go_simp⟩) hHeld ?_
                  simp only [Act.put, gA9, gZ9, gC9, sA9, sZ9, sC9]
                  refine wpAnyH_take (i := 13) (v := .pointer (some ⟨k12, q, none⟩)) rfl (by kernel_rfl) (by kernel_rfl) (by kernel_rfl) (fun _ _ _ h => h) (Or.inl ⟨by rfl, fun w' hS => by (go_simp <;> (intro hh; omega))⟩) hHeld ?_
                  simp only [Act.put, gA9, gZ9, gC9, sA9, sZ9, sC9]
                  refine wpAnyH_take (i := 14) (v := .int .i64 xv) rfl (by kernel_rfl) (by kernel_rfl) (by kernel_rfl) (fun _ _ _ h => h) (Or.inl ⟨by rfl, fun w' hS => by (obtain ⟨s0, s1, s2, s3, s4, s5, s6, s7, s8⟩ := hS; go_simp)⟩) hHeld ?_
                  simp only [Act.put, gA9, gZ9, gC9, sA9, sZ9, sC9]
                  refine wpAnyH_take (i := 15) (v := .pointer (some ⟨w.heap.size, 1, none⟩)) rfl (by kernel_rfl) (by kernel_rfl) (by kernel_rfl) (fun _ _ _ h => h) (Or.inl ⟨by rfl, fun w' hS => by go_simp⟩) hHeld ?_
                  simp only [Act.put, gA9, gZ9, gC9, sA9, sZ9, sC9]
                  refine wpAnyH_take (i := 16) (v := .int .i64 p.cid) rfl (by kernel_rfl) (by kernel_rfl) (by kernel_rfl) (fun _ _ _ h => h) (Or.inl ⟨by rfl, fun w' hS => by (obtain ⟨s0, s1, s2, s3, s4, s5, s6, s7, s8⟩ := hS; go_simp)⟩) hHeld ?_
                  simp only [Act.put, gA9, gZ9, gC9, sA9, sZ9, sC9]
                  refine wpAnyH_take (i := 17) (v := .bool true) rfl (by kernel_rfl) (by kernel_rfl) (by kernel_rfl) (fun _ _ _ h => h) (Or.inl ⟨by rfl, fun w' hS => by (go_simp <;> simpa using hbc)⟩) hHeld ?_
                  simp only [Act.put, gA9, gZ9, gC9, sA9, sZ9, sC9]
                  refine wpAnyH_take (i := 18) (v := .bool true) rfl (by kernel_rfl) (by kernel_rfl) (by kernel_rfl) (fun _ _ _ h => h) (Or.inl ⟨by rfl, fun w' hS => by go_simp⟩) hHeld ?_
                  simp only [Act.put, gA9, gZ9, gC9, sA9, sZ9, sC9]
                  refine wpAnyH_take (i := 19) (v := .bool true) rfl (by kernel_rfl) (by kernel_rfl) (by kernel_rfl) (fun _ _ _ h => h) (Or.inl ⟨by rfl, fun w' hS => by go_simp⟩) hHeld ?_
                  simp only [Act.put, gA9, gZ9, gC9, sA9, sZ9, sC9]
                  refine wpAnyH_take (i := 20) (v := .agg (ints rv).toArray) rfl (by kernel_rfl) (by kernel_rfl) (by kernel_rfl) (fun _ _ _ h => h) (yieldsIf_load_mid (by rfl) 61 (.tmp 12) rfl k12 (0) (by rfl) (ints rv) _ (fun w' hS => hS.2.2.2.2.2.2.2.1) Try.underlying61 rfl (by rw [ints_len, hrv]; exact info_row)) hHeld ?_
                  simp only [Act.put, gA9, gZ9, gC9, sA9, sZ9, sC9]
                  refine wpAnyH_take (i := 21) (v := .agg (ints rs).toArray) rfl (by kernel_rfl) (by kernel_rfl) (by kernel_rfl) (fun _ _ _ h => h) (yieldsIf_load_mid (by rfl) 61 (.tmp 10) rfl k10 (0) (by rfl) (ints rs) _ (fun w' hS => hS.2.2.2.2.2.2.1) Try.underlying61 rfl (by rw [ints_len, hrs]; exact info_row)) hHeld ?_
                  simp only [Act.put, gA9, gZ9, gC9, sA9, sZ9, sC9]
                  refine wpAnyH_ready (rs := [22]) (by kernel_rfl) (by simp) ?_
                  refine AllReadyH.cons rfl (fun K hK => ?_) AllReadyH.nil
                  go_simp
                  refine (Gh.out _).mono ?_
                  rintro e w2 ⟨rfl, hb2⟩
                  refine hK.out _ _ ⟨below_at hb2 hHeld.1, below_at hb2 hHeld.2.1, below_at hb2 hHeld.2.2.1, rng_below hHeld.2.2.2.1 hb2, below_at hb2 hHeld.2.2.2.2.1, below_at hb2 hHeld.2.2.2.2.2.1, rng_below hHeld.2.2.2.2.2.2.1 hb2, rng_below hHeld.2.2.2.2.2.2.2.1 hb2, bstep hHeld.2.2.2.2.2.2.2.2 hb2⟩ (fun hHeld => ?_)
                  clear hK K
                  refine wpAnyH_take (i := 23) (v := .bool true) rfl (by kernel_rfl) (by kernel_rfl) (by kernel_rfl) (fun _ _ _ h => h) (Or.inl ⟨by rfl, fun w' hS => by go_simp⟩) hHeld ?_
                  simp only [Act.put, gA9, gZ9, gC9, sA9, sZ9, sC9]
                  refine wpAnyH_take (i := 24) (v := .bool true) rfl (by kernel_rfl) (by kernel_rfl) (by kernel_rfl) (fun _ _ _ h => h) (Or.inl ⟨by rfl, fun w' hS => by go_simp⟩) hHeld ?_
                  simp only [Act.put, gA9, gZ9, gC9, sA9, sZ9, sC9]
                  refine wpAnyH_take (i := 25) (v := .pointer (some ⟨w.heap.size, 1, none⟩)) rfl (by kernel_rfl) (by kernel_rfl) (by kernel_rfl) (fun _ _ _ h => h) (Or.inl ⟨by rfl, fun w' hS => by go_simp⟩) hHeld ?_
                  simp only [Act.put, gA9, gZ9, gC9, sA9, sZ9, sC9]
                  refine wpAnyH_take (i := 26) (v := .int .i64 p.cid) rfl (by kernel_rfl) (by kernel_rfl) (by kernel_rfl) (fun _ _ _ h => h) (Or.inl ⟨by rfl, fun w' hS => by (obtain ⟨s0, s1, s2, s3, s4, s5, s6, s7, s8⟩ := hS; go_simp)⟩) hHeld ?_
                  simp only [Act.put, gA9, gZ9, gC9, sA9, sZ9, sC9]
                  refine wpAnyH_ready (rs := [27]) (by kernel_rfl) (by simp) ?_
                  refine AllReadyH.cons rfl (fun K hK => ?_) AllReadyH.nil
                  go_simp
                  refine (G1.out _).mono ?_
                  rintro e w2 ⟨rfl, rfl⟩
                  refine hK.out _ _ hHeld (fun hHeld => ?_)
                  clear hK K
                  refine wpAnyH_take (i := 28) (v := .bool true) rfl (by kernel_rfl) (by kernel_rfl) (by kernel_rfl) (fun _ _ _ h => h) (Or.inl ⟨by rfl, fun w' hS => by go_simp⟩) hHeld ?_
                  simp only [Act.put, gA9, gZ9, gC9, sA9, sZ9, sC9]
                  refine wpAnyH_take (i := 29) (v := .bool true) rfl (by kernel_rfl) (by kernel_rfl) (by kernel_rfl) (fun _ _ _ h => h) (Or.inl ⟨by rfl, fun w' hS => by go_simp⟩) hHeld ?_
                  simp only [Act.put, gA9, gZ9, gC9, sA9, sZ9, sC9]
                  refine wpAnyH_take (i := 30) (v := .pointer (some ⟨w.heap.size, 2, none⟩)) rfl (by kernel_rfl) (by kernel_rfl) (by kernel_rfl) (fun _ _ _ h => h) (Or.inl ⟨by rfl, fun w' hS => by go_simp⟩) hHeld ?_
                  simp only [Act.put, gA9, gZ9, gC9, sA9, sZ9, sC9]
                  refine wpAnyH_take (i := 31) (v := .int .i64 p.rev) rfl (by kernel_rfl) (by kernel_rfl) (by kernel_rfl) (fun _ _ _ h => h) (Or.inl ⟨by rfl, fun w' hS => by (obtain ⟨s0, s1, s2, s3, s4, s5, s6, s7, s8⟩ := hS; go_simp)⟩) hHeld ?_
                  simp only [Act.put, gA9, gZ9, gC9, sA9, sZ9, sC9]
                  refine wpAnyH_ready (rs := [32]) (by kernel_rfl) (by simp) ?_
                  refine AllReadyH.cons rfl (fun K hK => ?_) AllReadyH.nil
                  go_simp
                  refine (G2.out _).mono ?_
                  rintro e w2 ⟨rfl, rfl⟩
                  refine hK.out _ _ hHeld (fun hHeld => ?_)
                  clear hK K
                  refine wpAnyH_take (i := 33) (v := .bool true) rfl (by kernel_rfl) (by kernel_rfl) (by kernel_rfl) (fun _ _ _ h => h) (Or.inl ⟨by rfl, fun w' hS => by go_simp⟩) hHeld ?_
                  simp only [Act.put, gA9, gZ9, gC9, sA9, sZ9, sC9]
                  refine wpAnyH_take (i := 34) (v := .bool true) rfl (by kernel_rfl) (by kernel_rfl) (by kernel_rfl) (fun _ _ _ h => h) (Or.inl ⟨by rfl, fun w' hS => by go_simp⟩) hHeld ?_
                  simp only [Act.put, gA9, gZ9, gC9, sA9, sZ9, sC9]
                  refine wpAnyH_take (i := 35) (v := .pointer (some ⟨w.heap.size, 3, none⟩)) rfl (by kernel_rfl) (by kernel_rfl) (by kernel_rfl) (fun _ _ _ h => h) (Or.inl ⟨by rfl, fun w' hS => by go_simp⟩) hHeld ?_
                  simp only [Act.put, gA9, gZ9, gC9, sA9, sZ9, sC9]
                  refine wpAnyH_take (i := 36) (v := .int .i64 p.top) rfl (by kernel_rfl) (by kernel_rfl) (by kernel_rfl) (fun _ _ _ h => h) (Or.inl ⟨by rfl, fun w' hS => by (obtain ⟨s0, s1, s2, s3, s4, s5, s6, s7, s8⟩ := hS; go_simp)⟩) hHeld ?_
                  simp only [Act.put, gA9, gZ9, gC9, sA9, sZ9, sC9]
                  refine wpAnyH_ready (rs := [37]) (by kernel_rfl) (by simp) ?_
                  refine AllReadyH.cons rfl (fun K hK => ?_) AllReadyH.nil
                  go_simp
                  refine (G3.out _).mono ?_
                  rintro e w2 ⟨rfl, rfl⟩
                  refine hK.out _ _ hHeld (fun hHeld => ?_)
                  clear hK K
                  refine wpAnyH_take (i := 38) (v := .bool false) rfl (by kernel_rfl) (by kernel_rfl) (by kernel_rfl) (fun _ _ _ h => h) (Or.inl ⟨by rfl, fun w' hS => by go_simp⟩) hHeld ?_
                  simp only [Act.put, gA9, gZ9, gC9, sA9, sZ9, sC9]
                  refine wpAnyH_take (i := 39) (v := .bool false) rfl (by kernel_rfl) (by kernel_rfl) (by kernel_rfl) (fun _ _ _ h => h) (Or.inl ⟨by rfl, fun w' hS => by go_simp⟩) hHeld ?_
                  simp only [Act.put, gA9, gZ9, gC9, sA9, sZ9, sC9]
                  refine wpAnyH_take (i := 40) (v := undef) rfl (by kernel_rfl) (by kernel_rfl) (by kernel_rfl) (fun _ _ _ h => h) (Or.inr ⟨by rfl, rfl⟩) hHeld ?_
                  simp only [Act.put, gA9, gZ9, gC9, sA9, sZ9, sC9]
                  refine wpAnyH_take (i := 41) (v := undef) rfl (by kernel_rfl) (by kernel_rfl) (by kernel_rfl) (fun _ _ _ h => h) (Or.inr ⟨by rfl, rfl⟩) hHeld ?_
                  simp only [Act.put, gA9, gZ9, gC9, sA9, sZ9, sC9]
                  refine wpAnyH_take (i := 42) (v := undef) rfl (by kernel_rfl) (by kernel_rfl) (by kernel_rfl) (fun _ _ _ h => h) (Or.inr ⟨by rfl, rfl⟩) hHeld ?_
                  simp only [Act.put, gA9, gZ9, gC9, sA9, sZ9, sC9]
                  refine wpAnyH_take (i := 43) (v := undef) rfl (by kernel_rfl) (by kernel_rfl) (by kernel_rfl) (fun _ _ _ h => h) (Or.inr ⟨by rfl, rfl⟩) hHeld ?_
                  simp only [Act.put, gA9, gZ9, gC9, sA9, sZ9, sC9]
                  refine wpAnyH_take (i := 44) (v := .bool false) rfl (by kernel_rfl) (by kernel_rfl) (by kernel_rfl) (fun _ _ _ h => h) (Or.inl ⟨by rfl, fun w' hS => by go_simp⟩) hHeld ?_
                  simp only [Act.put, gA9, gZ9, gC9, sA9, sZ9, sC9]
                  refine wpAnyH_take (i := 45) (v := .bool false) rfl (by kernel_rfl) (by kernel_rfl) (by kernel_rfl) (fun _ _ _ h => h) (Or.inl ⟨by rfl, fun w' hS => by go_simp⟩) hHeld ?_
                  simp only [Act.put, gA9, gZ9, gC9, sA9, sZ9, sC9]
                  refine wpAnyH_done (by kernel_rfl) ?_ _
                  obtain ⟨s0, s1, s2, s3, s4, s5, s6, s7, s8⟩ := hHeld
                  have HZX : Hid (Rw _ W1.heap.size 63 z39) := HZ.out.still s8
                  have HBX : Hid (Below w.heap.size w _) := bstep HBV.out s8
                  have HS3 : Hid (World.rangeAt _ w.heap.size 4 (ints p.prev)) := s3
                  have HS6 : Hid (World.rangeAt _ k10 0 (ints rs)) := s6
                  have HS7 : Hid (World.rangeAt _ k12 0 (ints rv)) := s7
                  clear s3 s4 s5 s6 s7 s8
                  go_wp2_with (first
                    | (refine load_mid 61 (.tmp 10) HS6.out _ Try.underlying61 rfl (by rw [ints_len, hrs]; exact info_row) rfl rfl rfl ?_)
                    | (refine load_mid 61 (.tmp 12) HS7.out _ Try.underlying61 rfl (by rw [ints_len, hrv]; exact info_row) rfl rfl rfl ?_)
                    | (refine load_mid 31 (.tmp 81) HS3.out _ Try.underlying31 rfl (by rw [ints_len, hpl]; exact info_id) rfl rfl rfl ?_)
                    | (refine build_prop_step ⟨rs, p.cid, p.rev, p.top, p.prev, rv⟩ LP.out (.tmp 74) (.tmp 76) (.tmp 78) (.tmp 80) (.tmp 82) (.tmp 83) rfl rfl rfl rfl rfl rfl rfl rfl ?_)
                    | (refine store_mid 63 (.tmp 8) (.tmp 84) (HZX.out.there 0 (⟨rs, p.cid, p.rev, p.top, p.prev, rv⟩ : Pp).fl.length (by rw [LP.out.fl]; exact Nat.le_refl _)) (by rw [LP.out.fl]; exact info_prop) rfl rfl rfl rfl ?_)
                    | fail)
                  (try simp only [Exit.inBlock, Exit.then])
                  refine bodyPost_ret (v := .tuple #[.agg (ints (⟨rs, p.cid, p.rev, p.top, p.prev, rv⟩ : Pp).fl).toArray, .bool false]) ?_ ?_ ?_
                  · exact results_row_tmp rfl _ _ W1.heap.size 63 _ _ _ rfl rfl (HZX.out.whole (by rw [LP.out.fl]; rfl)) Try.underlying63 rfl (by rw [LP.out.fl]; exact info_prop)
                  · rfl
                  · exact ⟨_, by rw [Hv.out]; rfl, LP.out, He.out, bsets (Nat.le_of_lt hk1) _ _ HBX.out⟩
                | true =>
                  cases dp with
                  | false =>
                    refine wp_region_held_drew (S := (fun w' => w'.cell? ⟨w.heap.size, 1, none⟩ = some (.int .i64 p.cid) ∧ w'.cell? ⟨w.heap.size, 2, none⟩ = some (.int .i64 p.rev) ∧ w'.cell? ⟨w.heap.size, 3, none⟩ = some (.int .i64 p.top) ∧ w'.rangeAt w.heap.size 4 (ints p.prev) ∧ w'.cell? ⟨k10, q, none⟩ = some (.int .i64 xq) ∧ w'.cell? ⟨k12, q, none⟩ = some (.int .i64 xv) ∧ w'.rangeAt k10 0 (ints rs) ∧ w'.rangeAt k12 0 (ints rv) ∧ Below V.heap.size V w')) (by kernel_rfl) ⟨below_at (Below.refl _ _).drew a0, below_at (Below.refl _ _).drew a1, below_at (Below.refl _ _).drew a2, rng_below a3 (Below.refl _ _).drew, below_at (Below.refl _ _).drew a4, below_at (Below.refl _ _).drew a5, rng_below a6 (Below.refl _ _).drew, rng_below a7 (Below.refl _ _).drew, (Below.refl _ _).drew⟩ (fun hHeld => ?_)
                    simp only [Act.put, List.size_toArray, List.length_cons, List.length_nil, Nat.zero_add]
                    refine wpAnyH_take (i := 0) (v := .bool true) rfl (by kernel_rfl) (by kernel_rfl) (by kernel_rfl) (fun _ _ _ h => h) (Or.inl ⟨by rfl, fun w' hS => by go_simp⟩) hHeld ?_
                    simp only [Act.put, gA9, gZ9, gC9, sA9, sZ9, sC9]
                    refine wpAnyH_take (i := 1) (v := .bool true) rfl (by kernel_rfl) (by kernel_rfl) (by kernel_rfl) (fun _ _ _ h => h) (Or.inl ⟨by rfl, fun w' hS => by go_simp⟩) hHeld ?_
                    simp only [Act.put, gA9, gZ9, gC9, sA9, sZ9, sC9]
                    refine wpAnyH_take (i := 2) (v := .bool true) rfl (by kernel_rfl) (by kernel_rfl) (by kernel_rfl) (fun _ _ _ h => h) (Or.inl ⟨by rfl, fun w' hS => by go_simp⟩) hHeld ?_
                    simp only [Act.put, gA9, gZ9, gC9, sA9, sZ9, sC9]
                    refine wpAnyH_take (i := 3) (v := .bool true) rfl (by kernel_rfl) (by kernel_rfl) (by kernel_rfl) (fun _ _ _ h => h) (Or.inl ⟨by rfl, fun w' hS => by go_simp⟩) hHeld ?_
                    simp only [Act.put, gA9, gZ9, gC9, sA9, sZ9, sC9]
                    refine wpAnyH_take (i := 4) (v := .bool true) rfl (by kernel_rfl) (by kernel_rfl) (by kernel_rfl) (fun _ _ _ h => h) (Or.inl ⟨by rfl, fun w' hS => by go_simp⟩) hHeld ?_
                    simp only [Act.put, gA9, gZ9, gC9, sA9, sZ9, sC9]
                    refine wpAnyH_take (i := 5) (v := .int .i64 (q : Int)) rfl (by kernel_rfl) (by kernel_rfl) (by kernel_rfl) (fun _ _ _ h => h) (Or.inl ⟨by rfl, fun w' hS => by go_simp⟩) hHeld ?_
                    simp only [Act.put, gA9, gZ9, gC9, sA9, sZ9, sC9]
                    refine wpAnyH_take (i := 6) (v := .pointer (some ⟨k10, q, none⟩)) rfl (by kernel_rfl) (by kernel_rfl) (by kernel_rfl) (fun _ _ _ h => h) (Or.inl ⟨by rfl, fun w' hS => by (go_simp <;> (intro hh; omega))⟩) hHeld ?_
                    simp only [Act.put, gA9, gZ9, gC9, sA9, sZ9, sC9]
                    refine wpAnyH_take (i := 7) (v := .int .i64 xq) rfl (by kernel_rfl) (by kernel_rfl) (by kernel_rfl) (fun _ _ _ h => h) (Or.inl ⟨by rfl, fun w' hS => by (obtain ⟨s0, s1, s2, s3, s4, s5, s6, s7, s8⟩ := hS; go_simp)⟩) hHeld ?_
                    simp only [Act.put, gA9, gZ9, gC9, sA9, sZ9, sC9]
                    refine wpAnyH_take (i := 8) (v := .int .i64 inc) rfl (by kernel_rfl) (by kernel_rfl) (by kernel_rfl) (fun _ _ _ h => h) (Or.inl ⟨by rfl, fun w' hS => by go_simp⟩) hHeld ?_
                    simp only [Act.put, gA9, gZ9, gC9, sA9, sZ9, sC9]
                    refine wpAnyH_take (i := 9) (v := .bool true) rfl (by kernel_rfl) (by kernel_rfl) (by kernel_rfl) (fun _ _ _ h => h) (Or.inl ⟨by rfl, fun w' hS => by (go_simp <;> simpa using hbq)⟩) hHeld ?_
                    simp only [Act.put, gA9, gZ9, gC9, sA9, sZ9, sC9]
                    refine wpAnyH_take (i := 10) (v := .bool true) rfl (by kernel_rfl) (by kernel_rfl) (by kernel_rfl) (fun _ _ _ h => h) (Or.inl ⟨by rfl, fun w' hS => by go_simp⟩) hHeld ?_
                    simp only [Act.put, gA9, gZ9, gC9, sA9, sZ9, sC9]
                    refine wpAnyH_take (i := 11) (v := .bool true) rfl (by kernel_rfl) (by kernel_rfl) (by kernel_rfl) (fun _ _ _ h => h) (Or.inl ⟨by rfl, fun w' hS => by go_simp⟩) hHeld ?_
                    simp only [Act.put, gA9, gZ9, gC9, sA9, sZ9, sC9]
                    refine wpAnyH_take (i := 12) (v := .int .i64 (q : Int)) rfl (by kernel_rfl) (by kernel_rfl) (by kernel_rfl) (fun _ _ _ h => h) (Or.inl ⟨by rfl, fun w' hS => by go_simp⟩) hHeld ?_
                    simp only [Act.put, gA9, gZ9, gC9, sA9, sZ9, sC9]
                    refine wpAnyH_take (i := 13) (v := .pointer (some ⟨k12, q, none⟩)) rfl (by kernel_rfl) (by kernel_rfl) (by kernel_rfl) (fun _ _ _ h => h) (Or.inl ⟨by rfl, fun w' hS => by (go_simp <;> (intro hh; omega))⟩) hHeld ?_
                    simp only [Act.put, gA9, gZ9, gC9, sA9, sZ9, sC9]
                    refine wpAnyH_take (i := 14) (v := .int .i64 xv) rfl (by kernel_rfl) (by kernel_rfl) (by kernel_rfl) (fun _ _ _ h => h) (Or.inl ⟨by rfl, fun w' hS => by (obtain ⟨s0, s1, s2, s3, s4, s5, s6, s7, s8⟩ := hS; go_simp)⟩) hHeld ?_
                    simp only [Act.put, gA9, gZ9, gC9, sA9, sZ9, sC9]
                    refine wpAnyH_take (i := 15) (v := .pointer (some ⟨w.heap.size, 1, none⟩)) rfl (by kernel_rfl) (by kernel_rfl) (by kernel_rfl) (fun _ _ _ h => h) (Or.inl ⟨by rfl, fun w' hS => by go_simp⟩) hHeld ?_
                    simp only [Act.put, gA9, gZ9, gC9, sA9, sZ9, sC9]
                    refine wpAnyH_take (i := 16) (v := .int .i64 p.cid) rfl (by kernel_rfl) (by kernel_rfl) (by kernel_rfl) (fun _ _ _ h => h) (Or.inl ⟨by rfl, fun w' hS => by (obtain ⟨s0, s1, s2, s3, s4, s5, s6, s7, s8⟩ := hS; go_simp)⟩) hHeld ?_
                    simp only [Act.put, gA9, gZ9, gC9, sA9, sZ9, sC9]
                    refine wpAnyH_take (i := 17) (v := .bool true) rfl (by kernel_rfl) (by kernel_rfl) (by kernel_rfl) (fun _ _ _ h => h) (Or.inl ⟨by rfl, fun w' hS => by (go_simp <;> simpa using hbc)⟩) hHeld ?_
                    simp only [Act.put, gA9, gZ9, gC9, sA9, sZ9, sC9]
                    refine wpAnyH_take (i := 18) (v := .bool true) rfl (by kernel_rfl) (by kernel_rfl) (by kernel_rfl) (fun _ _ _ h => h) (Or.inl ⟨by rfl, fun w' hS => by go_simp⟩) hHeld ?_
                    simp only [Act.put, gA9, gZ9, gC9, sA9, sZ9, sC9]
                    refine wpAnyH_take (i := 19) (v := .bool true) rfl (by kernel_rfl) (by kernel_rfl) (by kernel_rfl) (fun _ _ _ h => h) (Or.inl ⟨by rfl, fun w' hS => by go_simp⟩) hHeld ?_
                    simp only [Act.put, gA9, gZ9, gC9, sA9, sZ9, sC9]
                    refine wpAnyH_take (i := 20) (v := .agg (ints rv).toArray) rfl (by kernel_rfl) (by kernel_rfl) (by kernel_rfl) (fun _ _ _ h => h) (yieldsIf_load_mid (by rfl) 61 (.tmp 12) rfl k12 (0) (by rfl) (ints rv) _ (fun w' hS => hS.2.2.2.2.2.2.2.1) Try.underlying61 rfl (by rw [ints_len, hrv]; exact info_row)) hHeld ?_
                    simp only [Act.put, gA9, gZ9, gC9, sA9, sZ9, sC9]
                    refine wpAnyH_take (i := 21) (v := .agg (ints rs).toArray) rfl (by kernel_rfl) (by kernel_rfl) (by kernel_rfl) (fun _ _ _ h => h) (yieldsIf_load_mid (by rfl) 61 (.tmp 10) rfl k10 (0) (by rfl) (ints rs) _ (fun w' hS => hS.2.2.2.2.2.2.1) Try.underlying61 rfl (by rw [ints_len, hrs]; exact info_row)) hHeld ?_
                    simp only [Act.put, gA9, gZ9, gC9, sA9, sZ9, sC9]
                    refine wpAnyH_ready (rs := [22]) (by kernel_rfl) (by simp) ?_
                    refine AllReadyH.cons rfl (fun K hK => ?_) AllReadyH.nil
                    go_simp
                    refine (Gh.out _).mono ?_
                    rintro e w2 ⟨rfl, hb2⟩
                    refine hK.out _ _ ⟨below_at hb2 hHeld.1, below_at hb2 hHeld.2.1, below_at hb2 hHeld.2.2.1, rng_below hHeld.2.2.2.1 hb2, below_at hb2 hHeld.2.2.2.2.1, below_at hb2 hHeld.2.2.2.2.2.1, rng_below hHeld.2.2.2.2.2.2.1 hb2, rng_below hHeld.2.2.2.2.2.2.2.1 hb2, bstep hHeld.2.2.2.2.2.2.2.2 hb2⟩ (fun hHeld => ?_)
                    clear hK K
                    refine wpAnyH_take (i := 23) (v := .bool true) rfl (by kernel_rfl) (by kernel_rfl) (by kernel_rfl) (fun _ _ _ h => h) (Or.inl ⟨by rfl, fun w' hS => by go_simp⟩) hHeld ?_
                    simp only [Act.put, gA9, gZ9, gC9, sA9, sZ9, sC9]
                    refine wpAnyH_take (i := 24) (v := .bool true) rfl (by kernel_rfl) (by kernel_rfl) (by kernel_rfl) (fun _ _ _ h => h) (Or.inl ⟨by rfl, fun w' hS => by go_simp⟩) hHeld ?_
                    simp only [Act.put, gA9, gZ9, gC9, sA9, sZ9, sC9]
                    refine wpAnyH_take (i := 25) (v := .pointer (some ⟨w.heap.size, 1, none⟩)) rfl (by kernel_rfl) (by kernel_rfl) (by kernel_rfl) (fun _ _ _ h => h) (Or.inl ⟨by rfl, fun w' hS => by go_simp⟩) hHeld ?_
                    simp only [Act.put, gA9, gZ9, gC9, sA9, sZ9, sC9]
                    refine wpAnyH_take (i := 26) (v := .int .i64 p.cid) rfl (by kernel_rfl) (by kernel_rfl) (by kernel_rfl) (fun _ _ _ h => h) (Or.inl ⟨by rfl, fun w' hS => by (obtain ⟨s0, s1, s2, s3, s4, s5, s6, s7, s8⟩ := hS; go_simp)⟩) hHeld ?_
                    simp only [Act.put, gA9, gZ9, gC9, sA9, sZ9, sC9]
                    refine wpAnyH_ready (rs := [27]) (by kernel_rfl) (by simp) ?_
                    refine AllReadyH.cons rfl (fun K hK => ?_) AllReadyH.nil
                    go_simp
                    refine (G1.out _).mono ?_
                    rintro e w2 ⟨rfl, rfl⟩
                    refine hK.out _ _ hHeld (fun hHeld => ?_)
                    clear hK K
                    refine wpAnyH_take (i := 28) (v := .bool true) rfl (by kernel_rfl) (by kernel_rfl) (by kernel_rfl) (fun _ _ _ h => h) (Or.inl ⟨by rfl, fun w' hS => by go_simp⟩) hHeld ?_
                    simp only [Act.put, gA9, gZ9, gC9, sA9, sZ9, sC9]
                    refine wpAnyH_take (i := 29) (v := .bool true) rfl (by kernel_rfl) (by kernel_rfl) (by kernel_rfl) (fun _ _ _ h => h) (Or.inl ⟨by rfl, fun w' hS => by go_simp⟩) hHeld ?_
                    simp only [Act.put, gA9, gZ9, gC9, sA9, sZ9, sC9]
                    refine wpAnyH_take (i := 30) (v := .pointer (some ⟨w.heap.size, 2, none⟩)) rfl (by kernel_rfl) (by kernel_rfl) (by kernel_rfl) (fun _ _ _ h => h) (Or.inl ⟨by rfl, fun w' hS => by go_simp⟩) hHeld ?_
                    simp only [Act.put, gA9, gZ9, gC9, sA9, sZ9, sC9]
                    refine wpAnyH_take (i := 31) (v := .int .i64 p.rev) rfl (by kernel_rfl) (by kernel_rfl) (by kernel_rfl) (fun _ _ _ h => h) (Or.inl ⟨by rfl, fun w' hS => by (obtain ⟨s0, s1, s2, s3, s4, s5, s6, s7, s8⟩ := hS; go_simp)⟩) hHeld ?_
                    simp only [Act.put, gA9, gZ9, gC9, sA9, sZ9, sC9]
                    refine wpAnyH_ready (rs := [32]) (by kernel_rfl) (by simp) ?_
                    refine AllReadyH.cons rfl (fun K hK => ?_) AllReadyH.nil
                    go_simp
                    refine (G2.out _).mono ?_
                    rintro e w2 ⟨rfl, rfl⟩
                    refine hK.out _ _ hHeld (fun hHeld => ?_)
                    clear hK K
                    refine wpAnyH_take (i := 33) (v := .bool true) rfl (by kernel_rfl) (by kernel_rfl) (by kernel_rfl) (fun _ _ _ h => h) (Or.inl ⟨by rfl, fun w' hS => by go_simp⟩) hHeld ?_
                    simp only [Act.put, gA9, gZ9, gC9, sA9, sZ9, sC9]
                    refine wpAnyH_take (i := 34) (v := .bool true) rfl (by kernel_rfl) (by kernel_rfl) (by kernel_rfl) (fun _ _ _ h => h) (Or.inl ⟨by rfl, fun w' hS => by go_simp⟩) hHeld ?_
                    simp only [Act.put, gA9, gZ9, gC9, sA9, sZ9, sC9]
                    refine wpAnyH_take (i := 35) (v := .pointer (some ⟨w.heap.size, 3, none⟩)) rfl (by kernel_rfl) (by kernel_rfl) (by kernel_rfl) (fun _ _ _ h => h) (Or.inl ⟨by rfl, fun w' hS => by go_simp⟩) hHeld ?_
                    simp only [Act.put, gA9, gZ9, gC9, sA9, sZ9, sC9]
                    refine wpAnyH_take (i := 36) (v := .int .i64 p.top) rfl (by kernel_rfl) (by kernel_rfl) (by kernel_rfl) (fun _ _ _ h => h) (Or.inl ⟨by rfl, fun w' hS => by (obtain ⟨s0, s1, s2, s3, s4, s5, s6, s7, s8⟩ := hS; go_simp)⟩) hHeld ?_
                    simp only [Act.put, gA9, gZ9, gC9, sA9, sZ9, sC9]
                    refine wpAnyH_ready (rs := [37]) (by kernel_rfl) (by simp) ?_
                    refine AllReadyH.cons rfl (fun K hK => ?_) AllReadyH.nil
                    go_simp
                    refine (G3.out _).mono ?_
                    rintro e w2 ⟨rfl, rfl⟩
                    refine hK.out _ _ hHeld (fun hHeld => ?_)
                    clear hK K
                    refine wpAnyH_take (i := 38) (v := .bool true) rfl (by kernel_rfl) (by kernel_rfl) (by kernel_rfl) (fun _ _ _ h => h) (Or.inl ⟨by rfl, fun w' hS => by go_simp⟩) hHeld ?_
                    simp only [Act.put, gA9, gZ9, gC9, sA9, sZ9, sC9]
                    refine wpAnyH_take (i := 39) (v := .bool true) rfl (by kernel_rfl) (by kernel_rfl) (by kernel_rfl) (fun _ _ _ h => h) (Or.inl ⟨by rfl, fun w' hS => by go_simp⟩) hHeld ?_
                    simp only [Act.put, gA9, gZ9, gC9, sA9, sZ9, sC9]
                    refine wpAnyH_take (i := 40) (v := .pointer (some ⟨w.heap.size, 4, none⟩)) rfl (by kernel_rfl) (by kernel_rfl) (by kernel_rfl) (fun _ _ _ h => h) (Or.inl ⟨by rfl, fun w' hS => by go_simp⟩) hHeld ?_
                    simp only [Act.put, gA9, gZ9, gC9, sA9, sZ9, sC9]
                    refine wpAnyH_take (i := 41) (v := .agg (ints p.prev).toArray) rfl (by kernel_rfl) (by kernel_rfl) (by kernel_rfl) (fun _ _ _ h => h) (yieldsIf_load_mid (by rfl) 31 (.tmp 69) rfl w.heap.size (4) (by rfl) (ints p.prev) _ (fun w' hS => hS.2.2.2.1) Try.underlying31 rfl (by rw [ints_len, hpl]; exact info_id)) hHeld ?_
                    simp only [Act.put, gA9, gZ9, gC9, sA9, sZ9, sC9]
                    refine wpAnyH_take (i := 42) (v := .int .i64 (n : Int)) rfl (by kernel_rfl) (by kernel_rfl) (by kernel_rfl) (fun _ _ _ h => h) (Or.inl ⟨by rfl, fun w' hS => by go_simp⟩) hHeld ?_
                    simp only [Act.put, gA9, gZ9, gC9, sA9, sZ9, sC9]
                    refine wpAnyH_ready (rs := [43]) (by kernel_rfl) (by simp) ?_
                    refine AllReadyH.cons rfl (fun K hK => ?_) AllReadyH.nil
                    go_simp
                    refine (Gp.out _).mono ?_
                    rintro e w2 ⟨rfl, hb2⟩
                    refine hK.out _ _ ⟨below_at hb2 hHeld.1, below_at hb2 hHeld.2.1, below_at hb2 hHeld.2.2.1, rng_below hHeld.2.2.2.1 hb2, below_at hb2 hHeld.2.2.2.2.1, below_at hb2 hHeld.2.2.2.2.2.1, rng_below hHeld.2.2.2.2.2.2.1 hb2, rng_below hHeld.2.2.2.2.2.2.2.1 hb2, bstep hHeld.2.2.2.2.2.2.2.2 hb2⟩ (fun hHeld => ?_)
                    clear hK K
                    refine wpAnyH_take (i := 44) (v := .bool false) rfl (by kernel_rfl) (by kernel_rfl) (by kernel_rfl) (fun _ _ _ h => h) (Or.inl ⟨by rfl, fun w' hS => by go_simp⟩) hHeld ?_
                    simp only [Act.put, gA9, gZ9, gC9, sA9, sZ9, sC9]
                    refine wpAnyH_take (i := 45) (v := .bool false) rfl (by kernel_rfl) (by kernel_rfl) (by kernel_rfl) (fun _ _ _ h => h) (Or.inl ⟨by rfl, fun w' hS => by go_simp⟩) hHeld ?_
                    simp only [Act.put, gA9, gZ9, gC9, sA9, sZ9, sC9]
                    refine wpAnyH_done (by kernel_rfl) ?_ _
                    obtain ⟨s0, s1, s2, s3, s4, s5, s6, s7, s8⟩ := hHeld
                    have HZX : Hid (Rw _ W1.heap.size 63 z39) := HZ.out.still s8
                    have HBX : Hid (Below w.heap.size w _) := bstep HBV.out s8
                    have HS3 : Hid (World.rangeAt _ w.heap.size 4 (ints p.prev)) := s3
                    have HS6 : Hid (World.rangeAt _ k10 0 (ints rs)) := s6
                    have HS7 : Hid (World.rangeAt _ k12 0 (ints rv)) := s7
                    clear s3 s4 s5 s6 s7 s8
                    go_wp2_with (first
                      | (refine load_mid 61 (.tmp 10) HS6.out _ Try.underlying61 rfl (by rw [ints_len, hrs]; exact info_row) rfl rfl rfl ?_)
                      | (refine load_mid 61 (.tmp 12) HS7.out _ Try.underlying61 rfl (by rw [ints_len, hrv]; exact info_row) rfl rfl rfl ?_)
                      | (refine load_mid 31 (.tmp 81) HS3.out _ Try.underlying31 rfl (by rw [ints_len, hpl]; exact info_id) rfl rfl rfl ?_)
                      | (refine build_prop_step ⟨rs, p.cid, p.rev, p.top, p.prev, rv⟩ LP.out (.tmp 74) (.tmp 76) (.tmp 78) (.tmp 80) (.tmp 82) (.tmp 83) rfl rfl rfl rfl rfl rfl rfl rfl ?_)
                      | (refine store_mid 63 (.tmp 8) (.tmp 84) (HZX.out.there 0 (⟨rs, p.cid, p.rev, p.top, p.prev, rv⟩ : Pp).fl.length (by rw [LP.out.fl]; exact Nat.le_refl _)) (by rw [LP.out.fl]; exact info_prop) rfl rfl rfl rfl ?_)
                      | fail)
                    (try simp only [Exit.inBlock, Exit.then])
                    refine bodyPost_ret (v := .tuple #[.agg (ints (⟨rs, p.cid, p.rev, p.top, p.prev, rv⟩ : Pp).fl).toArray, .bool false]) ?_ ?_ ?_
                    · exact results_row_tmp rfl _ _ W1.heap.size 63 _ _ _ rfl rfl (HZX.out.whole (by rw [LP.out.fl]; rfl)) Try.underlying63 rfl (by rw [LP.out.fl]; exact info_prop)
                    · rfl
                    · exact ⟨_, by rw [Hv.out]; rfl, LP.out, He.out, bsets (Nat.le_of_lt hk1) _ _ HBX.out⟩
                  | true =>
                    refine wp_region_held_drew (S := (fun w' => w'.cell? ⟨w.heap.size, 1, none⟩ = some (.int .i64 p.cid) ∧ w'.cell? ⟨w.heap.size, 2, none⟩ = some (.int .i64 p.rev) ∧ w'.cell? ⟨w.heap.size, 3, none⟩ = some (.int .i64 p.top) ∧ w'.rangeAt w.heap.size 4 (ints p.prev) ∧ w'.cell? ⟨k10, q, none⟩ = some (.int .i64 xq) ∧ w'.cell? ⟨k12, q, none⟩ = some (.int .i64 xv) ∧ w'.rangeAt k10 0 (ints rs) ∧ w'.rangeAt k12 0 (ints rv) ∧ Below V.heap.size V w')) (by kernel_rfl) ⟨below_at (Below.refl _ _).drew a0, below_at (Below.refl _ _).drew a1, below_at (Below.refl _ _).drew a2, rng_below a3 (Below.refl _ _).drew, below_at (Below.refl _ _).drew a4, below_at (Below.refl _ _).drew a5, rng_below a6 (Below.refl _ _).drew, rng_below a7 (Below.refl _ _).drew, (Below.refl _ _).drew⟩ (fun hHeld => ?_)
                    simp only [Act.put, List.size_toArray, List.length_cons, List.length_nil, Nat.zero_add]
                    refine wpAnyH_take (i := 0) (v := .bool true) rfl (by kernel_rfl) (by kernel_rfl) (by kernel_rfl) (fun _ _ _ h => h) (Or.inl ⟨by rfl, fun w' hS => by go_simp⟩) hHeld ?_
                    simp only [Act.put, gA9, gZ9, gC9, sA9, sZ9, sC9]
                    refine wpAnyH_take (i := 1) (v := .bool true) rfl (by kernel_rfl) (by kernel_rfl) (by kernel_rfl) (fun _ _ _ h => h) (Or.inl ⟨by rfl, fun w' hS => by go_simp⟩) hHeld ?_
                    simp only [Act.put, gA9, gZ9, gC9, sA9, sZ9, sC9]
                    refine wpAnyH_take (i := 2) (v := .bool true) rfl (by kernel_rfl) (by kernel_rfl) (by kernel_rfl) (fun _ _ _ h => h) (Or.inl ⟨by rfl, fun w' hS => by go_simp⟩) hHeld ?_
                    simp only [Act.put, gA9, gZ9, gC9, sA9, sZ9, sC9]
                    refine wpAnyH_take (i := 3) (v := .bool true) rfl (by kernel_rfl) (by kernel_rfl) (by kernel_rfl) (fun _ _ _ h => h) (Or.inl ⟨by rfl, fun w' hS => by go_simp⟩) hHeld ?_
                    simp only [Act.put, gA9, gZ9, gC9, sA9, sZ9, sC9]
                    refine wpAnyH_take (i := 4) (v := .bool true) rfl (by kernel_rfl) (by kernel_rfl) (by kernel_rfl) (fun _ _ _ h => h) (Or.inl ⟨by rfl, fun w' hS => by go_simp⟩) hHeld ?_
                    simp only [Act.put, gA9, gZ9, gC9, sA9, sZ9, sC9]
                    refine wpAnyH_take (i := 5) (v := .int .i64 (q : Int)) rfl (by kernel_rfl) (by kernel_rfl) (by kernel_rfl) (fun _ _ _ h => h) (Or.inl ⟨by rfl, fun w' hS => by go_simp⟩) hHeld ?_
                    simp only [Act.put, gA9, gZ9, gC9, sA9, sZ9, sC9]
                    refine wpAnyH_take (i := 6) (v := .pointer (some ⟨k10, q, none⟩)) rfl (by kernel_rfl) (by kernel_rfl) (by kernel_rfl) (fun _ _ _ h => h) (Or.inl ⟨by rfl, fun w' hS => by (go_simp <;> (intro hh; omega))⟩) hHeld ?_
                    simp only [Act.put, gA9, gZ9, gC9, sA9, sZ9, sC9]
                    refine wpAnyH_take (i := 7) (v := .int .i64 xq) rfl (by kernel_rfl) (by kernel_rfl) (by kernel_rfl) (fun _ _ _ h => h) (Or.inl ⟨by rfl, fun w' hS => by (obtain ⟨s0, s1, s2, s3, s4, s5, s6, s7, s8⟩ := hS; go_simp)⟩) hHeld ?_
                    simp only [Act.put, gA9, gZ9, gC9, sA9, sZ9, sC9]
                    refine wpAnyH_take (i := 8) (v := .int .i64 inc) rfl (by kernel_rfl) (by kernel_rfl) (by kernel_rfl) (fun _ _ _ h => h) (Or.inl ⟨by rfl, fun w' hS => by go_simp⟩) hHeld ?_
                    simp only [Act.put, gA9, gZ9, gC9, sA9, sZ9, sC9]
                    refine wpAnyH_take (i := 9) (v := .bool true) rfl (by kernel_rfl) (by kernel_rfl) (by kernel_rfl) (fun _ _ _ h => h) (Or.inl ⟨by rfl, fun w' hS => by (go_simp <;> simpa using hbq)⟩) hHeld ?_
                    simp only [Act.put, gA9, gZ9, gC9, sA9, sZ9, sC9]
                    refine wpAnyH_take (i := 10) (v := .bool true) rfl (by kernel_rfl) (by kernel_rfl) (by kernel_rfl) (fun _ _ _ h => h) (Or.inl ⟨by rfl, fun w' hS => by go_simp⟩) hHeld ?_
                    simp only [Act.put, gA9, gZ9, gC9, sA9, sZ9, sC9]
                    refine wpAnyH_take (i := 11) (v := .bool true) rfl (by kernel_rfl) (by kernel_rfl) (by kernel_rfl) (fun _ _ _ h => h) (Or.inl ⟨by rfl, fun w' hS => by go_simp⟩) hHeld ?_
                    simp only [Act.put, gA9, gZ9, gC9, sA9, sZ9, sC9]
                    refine wpAnyH_take (i := 12) (v := .int .i64 (q : Int)) rfl (by kernel_rfl) (by kernel_rfl) (by kernel_rfl) (fun _ _ _ h => h) (Or.inl ⟨by rfl, fun w' hS => by go_simp⟩) hHeld ?_
                    simp only [Act.put, gA9, gZ9, gC9, sA9, sZ9, sC9]
                    refine wpAnyH_take (i := 13) (v := .pointer (some ⟨k12, q, none⟩)) rfl (by kernel_rfl) (by kernel_rfl) (by kernel_rfl) (fun _ _ _ h => h) (Or.inl ⟨by rfl, fun w' hS => by (go_simp <;> (intro hh; omega))⟩) hHeld ?_
                    simp only [Act.put, gA9, gZ9, gC9, sA9, sZ9, sC9]
                    refine wpAnyH_take (i := 14) (v := .int .i64 xv) rfl (by kernel_rfl) (by kernel_rfl) (by kernel_rfl) (fun _ _ _ h => h) (Or.inl ⟨by rfl, fun w' hS => by (obtain ⟨s0, s1, s2, s3, s4, s5, s6, s7, s8⟩ := hS; go_simp)⟩) hHeld ?_
                    simp only [Act.put, gA9, gZ9, gC9, sA9, sZ9, sC9]
                    refine wpAnyH_take (i := 15) (v := .pointer (some ⟨w.heap.size, 1, none⟩)) rfl (by kernel_rfl) (by kernel_rfl) (by kernel_rfl) (fun _ _ _ h => h) (Or.inl ⟨by rfl, fun w' hS => by go_simp⟩) hHeld ?_
                    simp only [Act.put, gA9, gZ9, gC9, sA9, sZ9, sC9]
                    refine wpAnyH_take (i := 16) (v := .int .i64 p.cid) rfl (by kernel_rfl) (by kernel_rfl) (by kernel_rfl) (fun _ _ _ h => h) (Or.inl ⟨by rfl, fun w' hS => by (obtain ⟨s0, s1, s2, s3, s4, s5, s6, s7, s8⟩ := hS; go_simp)⟩) hHeld ?_
                    simp only [Act.put, gA9, gZ9, gC9, sA9, sZ9, sC9]
                    refine wpAnyH_take (i := 17) (v := .bool true) rfl (by kernel_rfl) (by kernel_rfl) (by kernel_rfl) (fun _ _ _ h => h) (Or.inl ⟨by rfl, fun w' hS => by (go_simp <;> simpa using hbc)⟩) hHeld ?_
                    simp only [Act.put, gA9, gZ9, gC9, sA9, sZ9, sC9]
                    refine wpAnyH_take (i := 18) (v := .bool true) rfl (by kernel_rfl) (by kernel_rfl) (by kernel_rfl) (fun _ _ _ h => h) (Or.inl ⟨by rfl, fun w' hS => by go_simp⟩) hHeld ?_
                    simp only [Act.put, gA9, gZ9, gC9, sA9, sZ9, sC9]
                    refine wpAnyH_take (i := 19) (v := .bool true) rfl (by kernel_rfl) (by kernel_rfl) (by kernel_rfl) (fun _ _ _ h => h) (Or.inl ⟨by rfl, fun w' hS => by go_simp⟩) hHeld ?_
                    simp only [Act.put, gA9, gZ9, gC9, sA9, sZ9, sC9]
                    refine wpAnyH_take (i := 20) (v := .agg (ints rv).toArray) rfl (by kernel_rfl) (by kernel_rfl) (by kernel_rfl) (fun _ _ _ h => h) (yieldsIf_load_mid (by rfl) 61 (.tmp 12) rfl k12 (0) (by rfl) (ints rv) _ (fun w' hS => hS.2.2.2.2.2.2.2.1) Try.underlying61 rfl (by rw [ints_len, hrv]; exact info_row)) hHeld ?_
                    simp only [Act.put, gA9, gZ9, gC9, sA9, sZ9, sC9]
                    refine wpAnyH_take (i := 21) (v := .agg (ints rs).toArray) rfl (by kernel_rfl) (by kernel_rfl) (by kernel_rfl) (fun _ _ _ h => h) (yieldsIf_load_mid (by rfl) 61 (.tmp 10) rfl k10 (0) (by rfl) (ints rs) _ (fun w' hS => hS.2.2.2.2.2.2.1) Try.underlying61 rfl (by rw [ints_len, hrs]; exact info_row)) hHeld ?_
                    simp only [Act.put, gA9, gZ9, gC9, sA9, sZ9, sC9]
                    refine wpAnyH_ready (rs := [22]) (by kernel_rfl) (by simp) ?_
                    refine AllReadyH.cons rfl (fun K hK => ?_) AllReadyH.nil
                    go_simp
                    refine (Gh.out _).mono ?_
                    rintro e w2 ⟨rfl, hb2⟩
                    refine hK.out _ _ ⟨below_at hb2 hHeld.1, below_at hb2 hHeld.2.1, below_at hb2 hHeld.2.2.1, rng_below hHeld.2.2.2.1 hb2, below_at hb2 hHeld.2.2.2.2.1, below_at hb2 hHeld.2.2.2.2.2.1, rng_below hHeld.2.2.2.2.2.2.1 hb2, rng_below hHeld.2.2.2.2.2.2.2.1 hb2, bstep hHeld.2.2.2.2.2.2.2.2 hb2⟩ (fun hHeld => ?_)
                    clear hK K
                    refine wpAnyH_take (i := 23) (v := .bool true) rfl (by kernel_rfl) (by kernel_rfl) (by kernel_rfl) (fun _ _ _ h => h) (Or.inl ⟨by rfl, fun w' hS => by go_simp⟩) hHeld ?_
                    simp only [Act.put, gA9, gZ9, gC9, sA9, sZ9, sC9]
                    refine wpAnyH_take (i := 24) (v := .bool true) rfl (by kernel_rfl) (by kernel_rfl) (by kernel_rfl) (fun _ _ _ h => h) (Or.inl ⟨by rfl, fun w' hS => by go_simp⟩) hHeld ?_
                    simp only [Act.put, gA9, gZ9, gC9, sA9, sZ9, sC9]
                    refine wpAnyH_take (i := 25) (v := .pointer (some ⟨w.heap.size, 1, none⟩)) rfl (by kernel_rfl) (by kernel_rfl) (by kernel_rfl) (fun _ _ _ h => h) (Or.inl ⟨by rfl, fun w' hS => by go_simp⟩) hHeld ?_
                    simp only [Act.put, gA9, gZ9, gC9, sA9, sZ9, sC9]
                    refine wpAnyH_take (i := 26) (v := .int .i64 p.cid) rfl (by kernel_rfl) (by kernel_rfl) (by kernel_rfl) (fun _ _ _ h => h) (Or.inl ⟨by rfl, fun w' hS => by (obtain ⟨s0, s1, s2, s3, s4, s5, s6, s7, s8⟩ := hS; go_simp)⟩) hHeld ?_
                    simp only [Act.put, gA9, gZ9, gC9, sA9, sZ9, sC9]
                    refine wpAnyH_ready (rs := [27]) (by kernel_rfl) (by simp) ?_
                    refine AllReadyH.cons rfl (fun K hK => ?_) AllReadyH.nil
                    go_simp
                    refine (G1.out _).mono ?_
                    rintro e w2 ⟨rfl, rfl⟩
                    refine hK.out _ _ hHeld (fun hHeld => ?_)
                    clear hK K
                    refine wpAnyH_take (i := 28) (v := .bool true) rfl (by kernel_rfl) (by kernel_rfl) (by kernel_rfl) (fun _ _ _ h => h) (Or.inl ⟨by rfl, fun w' hS => by go_simp⟩) hHeld ?_
                    simp only [Act.put, gA9, gZ9, gC9, sA9, sZ9, sC9]
                    refine wpAnyH_take (i := 29) (v := .bool true) rfl (by kernel_rfl) (by kernel_rfl) (by kernel_rfl) (fun _ _ _ h => h) (Or.inl ⟨by rfl, fun w' hS => by go_simp⟩) hHeld ?_
                    simp only [Act.put, gA9, gZ9, gC9, sA9, sZ9, sC9]
                    refine wpAnyH_take (i := 30) (v := .pointer (some ⟨w.heap.size, 2, none⟩)) rfl (by kernel_rfl) (by kernel_rfl) (by kernel_rfl) (fun _ _ _ h => h) (Or.inl ⟨by rfl, fun w' hS => by go_simp⟩) hHeld ?_
                    simp only [Act.put, gA9, gZ9, gC9, sA9, sZ9, sC9]
                    refine wpAnyH_take (i := 31) (v := .int .i64 p.rev) rfl (by kernel_rfl) (by kernel_rfl) (by kernel_rfl) (fun _ _ _ h => h) (Or.inl ⟨by rfl, fun w' hS => by (obtain ⟨s0, s1, s2, s3, s4, s5, s6, s7, s8⟩ := hS; go_simp)⟩) hHeld ?_
                    simp only [Act.put, gA9, gZ9, gC9, sA9, sZ9, sC9]
                    refine wpAnyH_ready (rs := [32]) (by kernel_rfl) (by simp) ?_
                    refine AllReadyH.cons rfl (fun K hK => ?_) AllReadyH.nil
                    go_simp
                    refine (G2.out _).mono ?_
                    rintro e w2 ⟨rfl, rfl⟩
                    refine hK.out _ _ hHeld (fun hHeld => ?_)
                    clear hK K
                    refine wpAnyH_take (i := 33) (v := .bool true) rfl (by kernel_rfl) (by kernel_rfl) (by kernel_rfl) (fun _ _ _ h => h) (Or.inl ⟨by rfl, fun w' hS => by go_simp⟩) hHeld ?_
                    simp only [Act.put, gA9, gZ9, gC9, sA9, sZ9, sC9]
                    refine wpAnyH_take (i := 34) (v := .bool true) rfl (by kernel_rfl) (by kernel_rfl) (by kernel_rfl) (fun _ _ _ h => h) (Or.inl ⟨by rfl, fun w' hS => by go_simp⟩) hHeld ?_
                    simp only [Act.put, gA9, gZ9, gC9, sA9, sZ9, sC9]
                    refine wpAnyH_take (i := 35) (v := .pointer (some ⟨w.heap.size, 3, none⟩)) rfl (by kernel_rfl) (by kernel_rfl) (by kernel_rfl) (fun _ _ _ h => h) (Or.inl ⟨by rfl, fun w' hS => by go_simp⟩) hHeld ?_
                    simp only [Act.put, gA9, gZ9, gC9, sA9, sZ9, sC9]
                    refine wpAnyH_take (i := 36) (v := .int .i64 p.top) rfl (by kernel_rfl) (by kernel_rfl) (by kernel_rfl) (fun _ _ _ h => h) (Or.inl ⟨by rfl, fun w' hS => by (obtain ⟨s0, s1, s2, s3, s4, s5, s6, s7, s8⟩ := hS; go_simp)⟩) hHeld ?_
                    simp only [Act.put, gA9, gZ9, gC9, sA9, sZ9, sC9]
                    refine wpAnyH_ready (rs := [37]) (by kernel_rfl) (by simp) ?_
                    refine AllReadyH.cons rfl (fun K hK => ?_) AllReadyH.nil
                    go_simp
                    refine (G3.out _).mono ?_
                    rintro e w2 ⟨rfl, rfl⟩
                    refine hK.out _ _ hHeld (fun hHeld => ?_)
                    clear hK K
                    refine wpAnyH_take (i := 38) (v := .bool true) rfl (by kernel_rfl) (by kernel_rfl) (by kernel_rfl) (fun _ _ _ h => h) (Or.inl ⟨by rfl, fun w' hS => by go_simp⟩) hHeld ?_
                    simp only [Act.put, gA9, gZ9, gC9, sA9, sZ9, sC9]
                    refine wpAnyH_take (i := 39) (v := .bool true) rfl (by kernel_rfl) (by kernel_rfl) (by kernel_rfl) (fun _ _ _ h => h) (Or.inl ⟨by rfl, fun w' hS => by go_simp⟩) hHeld ?_
                    simp only [Act.put, gA9, gZ9, gC9, sA9, sZ9, sC9]
                    refine wpAnyH_take (i := 40) (v := .pointer (some ⟨w.heap.size, 4, none⟩)) rfl (by kernel_rfl) (by kernel_rfl) (by kernel_rfl) (fun _ _ _ h => h) (Or.inl ⟨by rfl, fun w' hS => by go_simp⟩) hHeld ?_
                    simp only [Act.put, gA9, gZ9, gC9, sA9, sZ9, sC9]
                    refine wpAnyH_take (i := 41) (v := .agg (ints p.prev).toArray) rfl (by kernel_rfl) (by kernel_rfl) (by kernel_rfl) (fun _ _ _ h => h) (yieldsIf_load_mid (by rfl) 31 (.tmp 69) rfl w.heap.size (4) (by rfl) (ints p.prev) _ (fun w' hS => hS.2.2.2.1) Try.underlying31 rfl (by rw [ints_len, hpl]; exact info_id)) hHeld ?_
                    simp only [Act.put, gA9, gZ9, gC9, sA9, sZ9, sC9]
                    refine wpAnyH_take (i := 42) (v := .int .i64 (n : Int)) rfl (by kernel_rfl) (by kernel_rfl) (by kernel_rfl) (fun _ _ _ h => h) (Or.inl ⟨by rfl, fun w' hS => by go_simp⟩) hHeld ?_
                    simp only [Act.put, gA9, gZ9, gC9, sA9, sZ9, sC9]
                    refine wpAnyH_ready (rs := [43]) (by kernel_rfl) (by simp) ?_
                    refine AllReadyH.cons rfl (fun K hK => ?_) AllReadyH.nil
                    go_simp
                    refine (Gp.out _).mono ?_
                    rintro e w2 ⟨rfl, hb2⟩
                    refine hK.out _ _ ⟨below_at hb2 hHeld.1, below_at hb2 hHeld.2.1, below_at hb2 hHeld.2.2.1, rng_below hHeld.2.2.2.1 hb2, below_at hb2 hHeld.2.2.2.2.1, below_at hb2 hHeld.2.2.2.2.2.1, rng_below hHeld.2.2.2.2.2.2.1 hb2, rng_below hHeld.2.2.2.2.2.2.2.1 hb2, bstep hHeld.2.2.2.2.2.2.2.2 hb2⟩ (fun hHeld => ?_)
                    clear hK K
                    refine wpAnyH_take (i := 44) (v := .bool true) rfl (by kernel_rfl) (by kernel_rfl) (by kernel_rfl) (fun _ _ _ h => h) (Or.inl ⟨by rfl, fun w' hS => by go_simp⟩) hHeld ?_
                    simp only [Act.put, gA9, gZ9, gC9, sA9, sZ9, sC9]
                    refine wpAnyH_take (i := 45) (v := .bool true) rfl (by kernel_rfl) (by kernel_rfl) (by kernel_rfl) (fun _ _ _ h => h) (Or.inl ⟨by rfl, fun w' hS => by go_simp⟩) hHeld ?_
                    simp only [Act.put, gA9, gZ9, gC9, sA9, sZ9, sC9]
                    refine wpAnyH_done (by kernel_rfl) ?_ _
                    obtain ⟨s0, s1, s2, s3, s4, s5, s6, s7, s8⟩ := hHeld
                    have HZX : Hid (Rw _ W1.heap.size 63 z39) := HZ.out.still s8
                    have HBX : Hid (Below w.heap.size w _) := bstep HBV.out s8
                    have HS3 : Hid (World.rangeAt _ w.heap.size 4 (ints p.prev)) := s3
                    have HS6 : Hid (World.rangeAt _ k10 0 (ints rs)) := s6
                    have HS7 : Hid (World.rangeAt _ k12 0 (ints rv)) := s7
                    clear s3 s4 s5 s6 s7 s8
                    go_wp2_with (first
                      | (refine load_mid 61 (.tmp 10) HS6.out _ Try.underlying61 rfl (by rw [ints_len, hrs]; exact info_row) rfl rfl rfl ?_)
                      | (refine load_mid 61 (.tmp 12) HS7.out _ Try.underlying61 rfl (by rw [ints_len, hrv]; exact info_row) rfl rfl rfl ?_)
                      | (refine load_mid 31 (.tmp 81) HS3.out _ Try.underlying31 rfl (by rw [ints_len, hpl]; exact info_id) rfl rfl rfl ?_)
                      | (refine build_prop_step ⟨rs, p.cid, p.rev, p.top, p.prev, rv⟩ LP.out (.tmp 74) (.tmp 76) (.tmp 78) (.tmp 80) (.tmp 82) (.tmp 83) rfl rfl rfl rfl rfl rfl rfl rfl ?_)
                      | (refine store_mid 63 (.tmp 8) (.tmp 84) (HZX.out.there 0 (⟨rs, p.cid, p.rev, p.top, p.prev, rv⟩ : Pp).fl.length (by rw [LP.out.fl]; exact Nat.le_refl _)) (by rw [LP.out.fl]; exact info_prop) rfl rfl rfl rfl ?_)
                      | fail)
                    (try simp only [Exit.inBlock, Exit.then])
                    refine bodyPost_ret (v := .tuple #[.agg (ints (⟨rs, p.cid, p.rev, p.top, p.prev, rv⟩ : Pp).fl).toArray, .bool true]) ?_ ?_ ?_
                    · exact results_row_tmp rfl _ _ W1.heap.size 63 _ _ _ rfl rfl (HZX.out.whole (by rw [LP.out.fl]; rfl)) Try.underlying63 rfl (by rw [LP.out.fl]; exact info_prop)
                    · rfl
                    · exact ⟨_, by rw [Hv.out]; rfl, LP.out, He.out, bsets (Nat.le_of_lt hk1) _ _ HBX.out⟩
end
end Go.Proofs.Ytdegjhkjmgimpaa.Mb
