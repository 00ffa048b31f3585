import Derived.Test.YtmphabgpabbbjaaDoorUr
namespace Go.Proofs.YtmphabgpabbbjaaDoor.Fg
open Go.RowKit Mb
set_option linter.unusedVariables false
set_option maxRecDepth 100000
set_option linter.unusedSimpArgs false
section
variable {w w' W : World} {B : Nat}
theorem own_full {base g c n m : Nat} {bs : List Int} (h : Own w base (.slice (some ⟨g, 0, none⟩) n c) bs) (hm : m ≤ n) : ∃ C : Array Value, w.heap[g]? = some (.cells C 5 (0, 0)) ∧ m ≤ C.size := by
  rcases h.2 with ⟨h1, _⟩ | ⟨g', cap, cur, hv, _, hh, hr1, hr2, hr3, hr4⟩
  · cases h1
  · simp at hv
    obtain ⟨rfl, h2, h3⟩ := hv
    exact ⟨cur, hh, by omega⟩
set_option maxHeartbeats 1000000 in
theorem splits_big {ao : Option Addr} {n c : Nat} {b : List Int} (hr : Rd w ao n c b) (hn : 4000 < n) (hn2 : n ≤ 140737488351232) : Calls Tryd.prog 6 #[.slice ao n c] w fun e w' => e = .returned (.bool true) ∧ Below w.heap.size w w' := by
  have Hr : Hid (Rd w ao n c b) := hr
  clear hr
  go_enter Tryd.func6, Tryd.ntmps6
  go_wp2_with fail
  refine (spare_any Hr.out (by omega)).mono ?_
  rintro e w1 ⟨g, c1, rfl, hc1, hg1, ho1, hb1⟩
  go_wp2_with fail
  refine (split_big (by omega) (by omega)).mono ?_
  rintro e w' ⟨rfl, rfl⟩
  go_wp2_with fail
  refine (intact_any ho1 hc1 (Hr.out.still hb1) (by omega)).mono ?_
  rintro e w' ⟨rfl, rfl⟩
  go_wp2_with fail
  refine (full_any (own_full ho1 (by omega)) (by omega)).mono ?_
  rintro e w2 ⟨rfl, hk2⟩
  have HB2 : Hid (Below w.heap.size w w2) := hb1.trans (hk2.below hb1.size (fun k hk => by omega))
  clear ho1 hb1 hk2
  go_wp2_with fail
  refine (rsplit_big (by omega) (by omega)).mono ?_
  rintro e w' ⟨rfl, rfl⟩
  go_wp2_with (first | (go_at_call 22; refine (num_any _).mono ?_; rintro e w' ⟨rfl, rfl⟩) | fail)
  refine wp_loop_rounds 1 ?_
  rw [rounds_succ]
  go_wp2
  go_ret
  exact ⟨rfl, HB2.out⟩
set_option maxHeartbeats 2000000 in
theorem splits_ok {ao : Option Addr} {n c : Nat} {b : List Int} (hr : Rd w ao n c b) (hn : n ≤ 4000) (hT : Tab w) : Calls Tryd.prog 6 #[.slice ao n c] w fun e w' => e = .returned (.bool true) ∧ Below w.heap.size w w' := by
  have hl := hr.len
  have hby := hr.by_
  have Hr : Hid (Rd w ao n c b) := hr
  have HT : Hid (Tab w) := hT
  clear hr hT
  go_enter Tryd.func6, Tryd.ntmps6
  go_wp2_with fail
  refine (spare_any Hr.out (by omega)).mono ?_
  rintro e w1 ⟨g, c1, rfl, hc1, hg1, ho1, hb1⟩
  go_wp2_with fail
  refine (split_ok (ho1.rdPre hby hl (by omega)) hn (HT.out.still hb1)).mono ?_
  rintro e w2 ⟨gc, gr, rfl, hgc, hgr, hF2, hB2, hb2⟩
  have hgl := (own_block_lt ho1).2
  go_wp2_with fail
  refine (intact_any (ho1.still hb2) hc1 (Hr.out.still (bstep hb1 hb2)) (by omega)).mono ?_
  rintro e w' ⟨rfl, rfl⟩
  go_wp2_with fail
  refine (full_any (own_full (ho1.still hb2) (by omega)) (by omega)).mono ?_
  rintro e w3 ⟨rfl, hk3⟩
  have HB3 : Hid (Below w.heap.size w w3) := (bstep hb1 hb2).trans (hk3.below (bstep hb1 hb2).size (fun k hk => by omega))
  have HF3 : Hid (Fb w3 gc 28 (cnt n) (rowF gr n (cnt n))) := hF2.keep hk3 (by omega)
  have HK3 : Hid (Bk w3 gr (cats b (cnt n))) := hB2.keep hk3 (by omega)
  clear ho1 hb1 hb2 hk3 hF2 hB2
  go_wp2_with fail
  refine (rsplit_any (Hr.out.still HB3.out) hn).mono ?_
  rintro e w4 ⟨r, rfl, hrs, hb4⟩
  obtain ⟨a4, c4, rfl⟩ := hrs.shape
  have hsl : (split b).length = cnt n := by rw [split_len, hl]
  rw [hsl] at hrs ⊢
  have HR4 : Hid (RR w4 a4 (cnt n) (split b)) := (hrs.rr (split_by hby)).1
  have HF4 : Hid (Fb w4 gc 28 (cnt n) (rowF gr n (cnt n))) := HF3.out.keep (Kept.ofBelow hb4 (fun _ => False)) id
  have HK4 : Hid (Bk w4 gr (cats b (cnt n))) := HK3.out.still hb4
  have HB4 : Hid (Below w.heap.size w w4) := bstep HB3.out hb4
  have hc17 := cnt_le n
  have HP : Hid (∀ i, i < cnt n → Rd w4 (some ⟨gr, i * 256, none⟩) (8 + min 248 (n - i * 248)) (8 + min 248 (n - i * 248)) (chunk b i)) := fun i hi => by
    have := piece_rd (w := w4) (gr := gr) (b := b) (i := i) (by omega) hby (by rw [hl]; exact HK4.out) (by rw [hl]; exact hi)
    rw [hl] at this
    exact this
  have Hat : Hid (∀ i, i < cnt n → (split b).getD i [] = chunk b i) := fun i hi => split_at b i (by rw [hl]; exact hi)
  clear hrs hb4 HF3 HK3 HB3 hsl HK4
  generalize cnt n = N at *
  have hNb : (((N : Nat) : Int) != ((N : Nat) : Int)) = false := by simp
  go_wp2_with (first | (go_at_call 22; refine (num_any _).mono ?_; rintro e w' ⟨rfl, rfl⟩) | fail)
  go_loopw [9] (fun i wr => ∃ k : Nat, k ≤ N ∧ i = .int .i64 (k : Int) ∧ Hid (Below w4.heap.size w4 wr)) (fun i _ => N - (intOf i).toNat)
  case atStart => exact ⟨0, Nat.zero_le _, rfl, Below.refl _ _⟩
  case round =>
    obtain ⟨k, hk, rfl, hbel⟩ := hrel
    by_cases hlt : k < N
    · rcases HR4.out.at_ with h0 | ⟨g4, hg4, hc4⟩
      · omega
      · obtain ⟨ai, mi, ci, hci, hri⟩ := hc4 k hlt
        rw [Hat.out k hlt] at hri
        have y0 := below_at hbel.out hci
        have x0 := below_at hbel.out (row_cell HF4.out hlt)
        have HS : Hid (∀ W', Below wr.heap.size wr W' → Calls Tryd.prog 11 #[.slice (some ⟨gr, k * 256, none⟩) (8 + min 248 (n - k * 248)) (8 + min 248 (n - k * 248)), .slice ai mi ci] W' fun e w' => e = .returned (.bool true) ∧ w' = W') := fun W' hb' => (same_any ((HP.out k hlt).still (bstep hbel.out hb')) (hri.still (bstep hbel.out hb'))).mono fun e w' hh => ⟨hh.1, hh.2.symm⟩
        subst hg4
        generalize 8 + min 248 (n - k * 248) = mm at *
        have i1 : (0 : Int) ≤ (k : Int) := Int.natCast_nonneg _
        have i2 : (k : Int) < (N : Int) := by omega
        clear hc4 hci hri
        go_wp2
        go_quiet ((go_at_call 11; exact Calls.quiet_of_same (HS.out _ (by repeat (first | exact Below.refl _ _ | apply below_drewN | apply Below.drew)))))
        go_wp2
        go_roundw
        case rel => exact ⟨k + 1, by omega, by go_num, below_drewN hbel.out _⟩
        case measure => simp [intOf]; omega
    · obtain rfl : k = N := by omega
      go_wp2
      go_ret
      exact ⟨rfl, bstep HB4.out hbel.out⟩
theorem splits_any {ao : Option Addr} {n c : Nat} {b : List Int} (hr : Rd w ao n c b) (hn : n ≤ 140737488351232) (hT : Tab w) : Calls Tryd.prog 6 #[.slice ao n c] w fun e w' => e = .returned (.bool true) ∧ Below w.heap.size w w' := by
  by_cases h : n ≤ 4000
  · exact splits_ok hr h hT
  · exact splits_big hr (by omega) hn
end
end Go.Proofs.YtmphabgpabbbjaaDoor.Fg
