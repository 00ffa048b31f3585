import Derived.Test.YtmphabgpabbbjaaDoorUt
namespace Go.Proofs.YtmphabgpabbbjaaDoor.Fg
open Go.RowKit Mb
set_option linter.unusedVariables false
set_option maxRecDepth 100000
set_option linter.unusedSimpArgs false
section
variable {w w' W : World} {B : Nat}
theorem Lp.x {wr : World} {J : Jn} {gc gr n N i : Nat} {b : List Int} (h : Lp w wr B J gc gr n N b) (hi : i < N) : wr.cell? ⟨gc, i, none⟩ = some (.slice (some ⟨gr, i * 256, none⟩) (8 + min 248 (n - i * 248)) (8 + min 248 (n - i * 248))) := row_cell h.row hi
theorem Lp.rd {wr : World} {J : Jn} {gc gr n N i : Nat} {b : List Int} (h : Lp w wr B J gc gr n N b) (hn : n ≤ 4000) (hl : b.length = n) (hN : cnt n = N) (hb : By b) (hi : i < N) : Rd wr (some ⟨gr, i * 256, none⟩) (8 + min 248 (n - i * 248)) (8 + min 248 (n - i * 248)) (chunk b i) := by
  subst hl hN
  exact piece_rd hn hb h.bk hi
theorem put_ps {J : Jn} {k : Nat} {p : Pt} {g : Option Nat} : (J.put k p g).ps k = p := upd_same _ _ _
theorem tmod_bd (a n : Int) (hn : 0 < n) : -n < a.tmod n ∧ a.tmod n < n := by
  have h1 := Int.tmod_lt_of_pos a hn
  have h2 := Int.lt_tmod_of_pos a hn
  exact ⟨h2, h1⟩
set_option maxHeartbeats 4000000 in
theorem gap_out {x sn gp : Int} {ao : Option Addr} {n0 c : Nat} {b0 : List Int} (hr : Rd w ao n0 c b0) (hn0 : n0 ≤ 140737488351232) (hT : Tab w) (hs : -9223372036854775808 ≤ sn ∧ sn ≤ 9223372036854775807) (hgp : -9223372036854775808 ≤ gp ∧ gp ≤ 9223372036854775807) (ho : ¬ (0 ≤ sn ∧ sn < ((max 1 (min x 16)).toNat : Int))) : Calls Tryd.prog 4 #[.int .i64 x, .int .i64 sn, .slice ao n0 c, .int .i64 gp] w fun e w' => e = .returned (.bool true) ∧ Below w.heap.size w w' := by
  obtain ⟨m, hm⟩ : ∃ m : Nat, (max 1 (min x 16)).toNat = m := ⟨_, rfl⟩
  have hm1 : 1 ≤ m := by omega
  have hm16 : m ≤ 16 := by omega
  have HZ : Hid (Calls Tryd.prog 8 #[.int .i64 x] w fun e w' => e = .returned (.int .i64 (m : Int)) ∧ w = w') := (show Calls _ _ _ _ _ from by rw [← hm]; exact size_any x)
  have Hr0 : Hid (Rd w ao n0 c b0) := hr
  obtain ⟨b, hb⟩ : ∃ b, b0.take 4000 = b := ⟨_, rfl⟩
  obtain ⟨n, hn⟩ : ∃ n, min n0 4000 = n := ⟨_, rfl⟩
  have hr1 := hr.short
  rw [hb, hn] at hr1
  have hn4 : n ≤ 4000 := by omega
  have hl := hr1.len
  have hby := hr1.by_
  have Hr : Hid (Rd w ao n c b) := hr1
  have HT : Hid (Tab w) := hT
  have h0B : 0 < w.heap.size := World.block_lt_of_cell? w _ (hT 0 (by omega))
  rw [hm] at ho
  clear hr hr1 hT hm
  go_enter Tryd.func4, Tryd.ntmps4
  go_wp2_with fail
  refine HZ.out.mono ?_
  rintro e w' ⟨rfl, rfl⟩
  go_wp2_with fail
  refine (new_ok hm1 hm16).mono ?_
  rintro e w1 ⟨jb, bp, rfl, hj1, hb1⟩
  go_wp2_with fail
  refine (short_any (Hr0.out.still hb1) (by omega)).mono ?_
  rw [hn]
  rintro e w' ⟨rfl, rfl⟩
  go_wp2_with fail
  refine (split_ok (Hr.out.still hb1) hn4 (HT.out.still hb1)).mono ?_
  rintro e w2 ⟨gc, gr, rfl, hgc, hgr, hF2, hB2, hb2⟩
  have hN1 := cnt_pos hn4
  have hN17 := cnt_le n
  generalize hN : cnt n = N at *
  have HL : Hid (Lp w w2 w.heap.size (jnew jb bp m) gc gr n N b) := ⟨hj1.still hb2, hF2, hB2, fun hh => by have := hj1.own_lt _ hh; omega, fun hh => by have := hj1.own_lt _ hh; omega, bstep hb1 hb2⟩
  have hB : w.heap.size ≤ w2.heap.size := (bstep hb1 hb2).size
  have HJ : Hid ((jnew jb bp m).b = jb ∧ (jnew jb bp m).n = m ∧ ∀ s, (jnew jb bp m).ps s = p0) := ⟨rfl, rfl, fun _ => rfl⟩
  generalize jnew jb bp m = J0 at *
  have hNz : ((N : Int) == 0) = false := by rw [beq_eq_false_iff_ne]; omega
  clear hj1 hb1 hb2 hF2 hB2 HZ
  have y0 := HL.out.x (i := 0) (by omega)
  have HTk : Hid (∀ A M C, Calls Tryd.prog 10 #[.pointer (some ⟨jb, 0, none⟩), .int .i64 sn, .slice A M C] w2 fun e w' => e = .returned (.tuple #[.slice none 0 0, .bool false, .int .i64 1]) ∧ w2 = w') := fun A M C => by
    have := take_arg HL.out.ok (x := sn) (by rw [HJ.out.2.1]; exact ho) (ao := A) (n := M) (c := C)
    rw [HJ.out.1] at this
    exact this
  rw [Nat.zero_mul] at y0
  generalize 8 + min 248 (n - 0 * 248) = mm at *
  by_cases h1 : sn < 0
  · clear ho
    go_wp2_with (first | (go_at_call 10; refine (HTk.out _ _ _).mono ?_; rintro e w' ⟨rfl, rfl⟩) | fail)
    go_ret
    exact ⟨rfl, HL.out.bel⟩
  · have h2 : (m : Int) ≤ sn := by omega
    clear ho
    go_wp2_with (first | (go_at_call 10; refine (HTk.out _ _ _).mono ?_; rintro e w' ⟨rfl, rfl⟩) | fail)
    go_ret
    exact ⟨rfl, HL.out.bel⟩
set_option maxHeartbeats 4000000 in
theorem gap_one {x sn gp : Int} {ao : Option Addr} {n0 c : Nat} {b0 : List Int} (hr : Rd w ao n0 c b0) (hn0 : n0 ≤ 140737488351232) (hT : Tab w) (hs : -9223372036854775808 ≤ sn ∧ sn ≤ 9223372036854775807) (hgp : -9223372036854775808 ≤ gp ∧ gp ≤ 9223372036854775807) {k : Nat} (hsk : sn = (k : Int)) (hkm0 : (k : Int) < ((max 1 (min x 16)).toNat : Int)) (hN1x : cnt (min n0 4000) = 1) : Calls Tryd.prog 4 #[.int .i64 x, .int .i64 sn, .slice ao n0 c, .int .i64 gp] w fun e w' => e = .returned (.bool true) ∧ Below w.heap.size w w' := by
  obtain ⟨m, hm⟩ : ∃ m : Nat, (max 1 (min x 16)).toNat = m := ⟨_, rfl⟩
  have hm1 : 1 ≤ m := by omega
  have hm16 : m ≤ 16 := by omega
  have HZ : Hid (Calls Tryd.prog 8 #[.int .i64 x] w fun e w' => e = .returned (.int .i64 (m : Int)) ∧ w = w') := (show Calls _ _ _ _ _ from by rw [← hm]; exact size_any x)
  have Hr0 : Hid (Rd w ao n0 c b0) := hr
  obtain ⟨b, hb⟩ : ∃ b, b0.take 4000 = b := ⟨_, rfl⟩
  obtain ⟨n, hn⟩ : ∃ n, min n0 4000 = n := ⟨_, rfl⟩
  have hr1 := hr.short
  rw [hb, hn] at hr1
  have hn4 : n ≤ 4000 := by omega
  have hl := hr1.len
  have hby := hr1.by_
  have Hr : Hid (Rd w ao n c b) := hr1
  have HT : Hid (Tab w) := hT
  have h0B : 0 < w.heap.size := World.block_lt_of_cell? w _ (hT 0 (by omega))
  rw [hm] at hkm0
  rw [hn] at hN1x
  subst hsk
  have hkm : k < m := by omega
  have hmk1 : decide (m ≤ k) = false := decide_eq_false (by omega)
  have hmk2 : decide ((k : Int) < 0) = false := decide_eq_false (by omega)
  clear hr hr1 hT hm
  go_enter Tryd.func4, Tryd.ntmps4
  go_wp2_with fail
  refine HZ.out.mono ?_
  rintro e w' ⟨rfl, rfl⟩
  go_wp2_with fail
  refine (new_ok hm1 hm16).mono ?_
  rintro e w1 ⟨jb, bp, rfl, hj1, hb1⟩
  go_wp2_with fail
  refine (short_any (Hr0.out.still hb1) (by omega)).mono ?_
  rw [hn]
  rintro e w' ⟨rfl, rfl⟩
  go_wp2_with fail
  refine (split_ok (Hr.out.still hb1) hn4 (HT.out.still hb1)).mono ?_
  rintro e w2 ⟨gc, gr, rfl, hgc, hgr, hF2, hB2, hb2⟩
  have hN1 := cnt_pos hn4
  have hN17 := cnt_le n
  generalize hN : cnt n = N at *
  have HL : Hid (Lp w w2 w.heap.size (jnew jb bp m) gc gr n N b) := ⟨hj1.still hb2, hF2, hB2, fun hh => by have := hj1.own_lt _ hh; omega, fun hh => by have := hj1.own_lt _ hh; omega, bstep hb1 hb2⟩
  have hB : w.heap.size ≤ w2.heap.size := (bstep hb1 hb2).size
  have HJ : Hid ((jnew jb bp m).b = jb ∧ (jnew jb bp m).n = m ∧ ∀ s, (jnew jb bp m).ps s = p0) := ⟨rfl, rfl, fun _ => rfl⟩
  generalize jnew jb bp m = J0 at *
  have hNz : ((N : Int) == 0) = false := by rw [beq_eq_false_iff_ne]; omega
  clear hj1 hb1 hb2 hF2 hB2 HZ
  have hN1e : N = 1 := hN1x
  have HN1 : Hid (N = 1) := hN1e
  have hle : ¬ (1 : Int) < (N : Int) := by omega
  have hle2 : decide ((1 : Int) < (N : Int)) = false := decide_eq_false hle
  clear hN1e hN1x
  have g0 : ¬ (k : Int) < 0 := by omega
  have HJ1 : Hid (J0.b = jb ∧ J0.n = m) := ⟨HJ.out.1, HJ.out.2.1⟩
  obtain ⟨J1, hJ1⟩ : ∃ J1, J0 = J1 := ⟨_, rfl⟩
  rw [hJ1] at HJ1 HL
  have HL1 : Hid (Lp w w2 w.heap.size J1 gc gr n N b) := HL
  have hB1 := hB
  clear hJ1 HJ HL hB
  go_wp2_with fail
  go_loopw [22] (fun v wr => ∃ (i : Nat) (J : Jn), i ≤ N ∧ v = .int .i64 (i : Int) ∧ Hid (J.b = jb ∧ J.n = m) ∧ Hid (i = 0 ∨ i = N ∨ J.ps k = pre b i) ∧ Hid (Lp w wr w.heap.size J gc gr n N b) ∧ w.heap.size ≤ wr.heap.size) (fun v _ => N - (intOf v).toNat)
  case atStart => exact ⟨0, J1, Nat.zero_le _, rfl, HJ1, .inl rfl, HL1, hB1⟩
  case round =>
    obtain ⟨i, J, hi, rfl, hJ, hps, hL, hBr⟩ := hrel
    by_cases hlt : i < N
    · have y0 := hL.out.x hlt
      have HTk : Hid (Calls Tryd.prog 10 #[.pointer (some ⟨jb, 0, none⟩), .int .i64 (k : Int), .slice (some ⟨gr, i * 256, none⟩) (8 + min 248 (n - i * 248)) (8 + min 248 (n - i * 248))] wr fun e w' => ∃ (ra : Option Addr) (rn rc : Nat) (g : Option Nat), e = .returned (.tuple #[.slice ra rn rc, .bool (nxt b i).b.isSome, .int .i64 ((nxt b i).e : Int)]) ∧ ((nxt b i).b = none → ra = none ∧ rn = 0 ∧ rc = 0) ∧ (∀ x, (nxt b i).b = some x → Rd w' ra rn rc x) ∧ Lp w w' w.heap.size (J.put k (nxt b i).p g) gc gr n N b ∧ w.heap.size ≤ w'.heap.size) := (show Calls _ _ _ _ _ from by
        have h1 := take_any hL.out.ok (k := k) (by rw [hJ.out.2]; exact hkm) (hL.out.rd hn4 hl hN hby hlt) (by omega) (HT.out.low hL.out.bel h0B) h0B
        rw [hJ.out.1] at h1
        have h2 := take_nxt (p := J.ps k) hby (by rw [hl]; exact hn4) (i := i) (by rw [hl, hN]; exact hlt) (hps.out.elim .inl (fun h => h.elim (fun h => by omega) .inr))
        rw [h2] at h1
        exact h1.mono fun e w' ht => hL.out.took hBr ht)
      have i1 : (0 : Int) ≤ (i : Int) := Int.natCast_nonneg _
      have i2 : (i : Int) < (N : Int) := by omega
      generalize 8 + min 248 (n - i * 248) = mm at *
      by_cases hla : i + 1 = N
      · have hnx : nxt b i = ⟨p0, some b, 0⟩ := by unfold nxt; rw [if_pos (by rw [hl, hN]; exact hla)]
        rw [hnx] at HTk
        have hq : ((i : Int) == (N : Int) - 1) = true := by rw [beq_iff_eq]; omega
        have hHid : Hid (i + 1 = N) := hla
        clear hnx hps hla
        go_wp2_with (first
          | (go_at_call 10; refine HTk.out.mono ?_; rintro e w4 ⟨ra, rn, rc, g, rfl, _, hrd, hL4, hB4⟩)
          | (go_at_call 11; refine (same_any (hrd b rfl) (Hr.out.still hL4.bel)).mono ?_; rintro e w' ⟨rfl, rfl⟩)
          | fail)
        go_roundw
        case rel => exact ⟨i + 1, J.put k p0 g, by omega, by go_num, hJ, .inr (.inl hHid.out), hL4, hB4⟩
        case measure => simp [intOf]; omega
      · have hnx : nxt b i = ⟨pre b (i + 1), none, 0⟩ := by unfold nxt; rw [if_neg (by rw [hl, hN]; exact hla)]
        rw [hnx] at HTk
        have hq : ((i : Int) == (N : Int) - 1) = false := by rw [beq_eq_false_iff_ne]; omega
        clear hnx hps hla
        go_wp2_with (first
          | (go_at_call 10; refine HTk.out.mono ?_; rintro e w4 ⟨ra, rn, rc, g, rfl, _, hrd, hL4, hB4⟩)
          | fail)
        go_roundw
        case rel => exact ⟨i + 1, J.put k (pre b (i + 1)) g, by omega, by go_num, hJ, .inr (.inr put_ps), hL4, hB4⟩
        case measure => simp [intOf]; omega
    · obtain rfl : i = N := by omega
      go_wp2
      go_ret
      exact ⟨rfl, hL.out.bel⟩
set_option maxHeartbeats 4000000 in
theorem gap_many0 {x sn gp : Int} {ao : Option Addr} {n0 c : Nat} {b0 : List Int} (hr : Rd w ao n0 c b0) (hn0 : n0 ≤ 140737488351232) (hT : Tab w) (hs : -9223372036854775808 ≤ sn ∧ sn ≤ 9223372036854775807) (hgp : -9223372036854775808 ≤ gp ∧ gp ≤ 9223372036854775807) {k : Nat} (hsk : sn = (k : Int)) (hkm0 : (k : Int) < ((max 1 (min x 16)).toNat : Int)) (hN1x : 1 < cnt (min n0 4000)) (hsg : 0 ≤ gp.tmod (cnt (min n0 4000) : Int)) : Calls Tryd.prog 4 #[.int .i64 x, .int .i64 sn, .slice ao n0 c, .int .i64 gp] w fun e w' => e = .returned (.bool true) ∧ Below w.heap.size w w' := by
  obtain ⟨m, hm⟩ : ∃ m : Nat, (max 1 (min x 16)).toNat = m := ⟨_, rfl⟩
  have hm1 : 1 ≤ m := by omega
  have hm16 : m ≤ 16 := by omega
  have HZ : Hid (Calls Tryd.prog 8 #[.int .i64 x] w fun e w' => e = .returned (.int .i64 (m : Int)) ∧ w = w') := (show Calls _ _ _ _ _ from by rw [← hm]; exact size_any x)
  have Hr0 : Hid (Rd w ao n0 c b0) := hr
  obtain ⟨b, hb⟩ : ∃ b, b0.take 4000 = b := ⟨_, rfl⟩
  obtain ⟨n, hn⟩ : ∃ n, min n0 4000 = n := ⟨_, rfl⟩
  have hr1 := hr.short
  rw [hb, hn] at hr1
  have hn4 : n ≤ 4000 := by omega
  have hl := hr1.len
  have hby := hr1.by_
  have Hr : Hid (Rd w ao n c b) := hr1
  have HT : Hid (Tab w) := hT
  have h0B : 0 < w.heap.size := World.block_lt_of_cell? w _ (hT 0 (by omega))
  rw [hm] at hkm0
  rw [hn] at hN1x hsg
  subst hsk
  have hkm : k < m := by omega
  have hmk1 : decide (m ≤ k) = false := decide_eq_false (by omega)
  have hmk2 : decide ((k : Int) < 0) = false := decide_eq_false (by omega)
  clear hr hr1 hT hm
  go_enter Tryd.func4, Tryd.ntmps4
  go_wp2_with fail
  refine HZ.out.mono ?_
  rintro e w' ⟨rfl, rfl⟩
  go_wp2_with fail
  refine (new_ok hm1 hm16).mono ?_
  rintro e w1 ⟨jb, bp, rfl, hj1, hb1⟩
  go_wp2_with fail
  refine (short_any (Hr0.out.still hb1) (by omega)).mono ?_
  rw [hn]
  rintro e w' ⟨rfl, rfl⟩
  go_wp2_with fail
  refine (split_ok (Hr.out.still hb1) hn4 (HT.out.still hb1)).mono ?_
  rintro e w2 ⟨gc, gr, rfl, hgc, hgr, hF2, hB2, hb2⟩
  have hN1 := cnt_pos hn4
  have hN17 := cnt_le n
  generalize hN : cnt n = N at *
  have HL : Hid (Lp w w2 w.heap.size (jnew jb bp m) gc gr n N b) := ⟨hj1.still hb2, hF2, hB2, fun hh => by have := hj1.own_lt _ hh; omega, fun hh => by have := hj1.own_lt _ hh; omega, bstep hb1 hb2⟩
  have hB : w.heap.size ≤ w2.heap.size := (bstep hb1 hb2).size
  have HJ : Hid ((jnew jb bp m).b = jb ∧ (jnew jb bp m).n = m ∧ ∀ s, (jnew jb bp m).ps s = p0) := ⟨rfl, rfl, fun _ => rfl⟩
  generalize jnew jb bp m = J0 at *
  have hNz : ((N : Int) == 0) = false := by rw [beq_eq_false_iff_ne]; omega
  clear hj1 hb1 hb2 hF2 hB2 HZ
  have hle : (1 : Int) < (N : Int) := by omega
  have hle2 : decide ((1 : Int) < (N : Int)) = true := decide_eq_true hle
  obtain ⟨r, hr⟩ : ∃ r, gp.tmod (N : Int) = r := ⟨_, rfl⟩
  have hr1 : -(N : Int) < r ∧ r < (N : Int) := by
    have := tmod_bd gp (N : Int) (by omega)
    rw [hr] at this
    exact this
  rw [hr] at hsg
  obtain ⟨q, rfl⟩ := Int.eq_ofNat_of_zero_le hsg
  have hq0 : decide ((q : Int) < 0) = false := decide_eq_false (by omega)
  clear hsg
  have hqN : q < N := by omega
  clear hN1x
  go_wp2_with fail
  go_loopw [18] (fun v wr => ∃ (i : Nat) (J : Jn), i ≤ N ∧ v = .int .i64 (i : Int) ∧ Hid (J.b = jb ∧ J.n = m) ∧ Hid (J.ps k = pre b (min i q)) ∧ Hid (Lp w wr w.heap.size J gc gr n N b) ∧ w.heap.size ≤ wr.heap.size) (fun v _ => N - (intOf v).toNat)
  case atStart => exact ⟨0, J0, Nat.zero_le _, rfl, ⟨HJ.out.1, HJ.out.2.1⟩, by rw [Nat.zero_min]; exact HJ.out.2.2 k, HL, hB⟩
  case round =>
    obtain ⟨i, J, hi, rfl, hJ, hps, hL, hBr⟩ := hrel
    by_cases hlt : i < N
    · have i1 : (0 : Int) ≤ (i : Int) := Int.natCast_nonneg _
      have i2 : (i : Int) < (N : Int) := by omega
      by_cases heq : i = q
      · subst heq
        have hbq : ((i : Int) == (i : Int)) = true := by simp
        have hps2 : Hid (J.ps k = pre b (min (i + 1) i)) := (show _ = _ from by rw [show min (i + 1) i = i by omega]; have := hps.out; rw [Nat.min_self] at this; exact this)
        clear hps
        go_wp2
        go_roundw
        case rel => exact ⟨i + 1, J, by omega, by go_num, hJ, hps2, hL, hBr⟩
        case measure => simp [intOf]; omega
      · have hbq : ((i : Int) == (q : Int)) = false := by rw [beq_eq_false_iff_ne]; omega
        have y0 := hL.out.x hlt
        by_cases hig : i < q
        · have HTk : Hid (Calls Tryd.prog 10 #[.pointer (some ⟨jb, 0, none⟩), .int .i64 (k : Int), .slice (some ⟨gr, i * 256, none⟩) (8 + min 248 (n - i * 248)) (8 + min 248 (n - i * 248))] wr fun e w' => ∃ (ra : Option Addr) (rn rc : Nat) (g : Option Nat), e = .returned (.tuple #[.slice ra rn rc, .bool false, .int .i64 0]) ∧ (ra = none ∧ rn = 0 ∧ rc = 0) ∧ Lp w w' w.heap.size (J.put k (pre b (i + 1)) g) gc gr n N b ∧ w.heap.size ≤ w'.heap.size) := (show Calls _ _ _ _ _ from by
            have h1 := take_any hL.out.ok (k := k) (by rw [hJ.out.2]; exact hkm) (hL.out.rd hn4 hl hN hby hlt) (by omega) (HT.out.low hL.out.bel h0B) h0B
            rw [hJ.out.1] at h1
            have h2 := take_nxt (p := J.ps k) hby (by rw [hl]; exact hn4) (i := i) (by rw [hl, hN]; exact hlt) (.inr (by rw [hps.out, show min i q = i by omega]))
            have h3 : nxt b i = ⟨pre b (i + 1), none, 0⟩ := by unfold nxt; rw [if_neg (by rw [hl, hN]; omega)]
            rw [h2, h3] at h1
            refine h1.mono fun e w' ht => ?_
            obtain ⟨ra, rn, rc, g, h4, h5, _, h6, h7⟩ := hL.out.took hBr ht
            exact ⟨ra, rn, rc, g, h4, h5 rfl, h6, h7⟩)
          have hps2 : Hid (∀ g, (J.put k (pre b (i + 1)) g).ps k = pre b (min (i + 1) q)) := fun g => by rw [show min (i + 1) q = i + 1 by omega]; exact put_ps
          have t1 : (i : Int) < (q : Int) := by omega
          generalize 8 + min 248 (n - i * 248) = mm at *
          clear hps
          go_wp2_with (first
            | (go_at_call 10; refine HTk.out.mono ?_; rintro e w4 ⟨ra, rn, rc, g, rfl, ⟨rfl, rfl, rfl⟩, hL4, hB4⟩)
            | fail)
          go_roundw
          case rel => exact ⟨i + 1, J.put k (pre b (i + 1)) g, by omega, by go_num, hJ, hps2.out g, hL4, hB4⟩
          case measure => simp [intOf]; omega
        · have HTk : Hid (Calls Tryd.prog 10 #[.pointer (some ⟨jb, 0, none⟩), .int .i64 (k : Int), .slice (some ⟨gr, i * 256, none⟩) (8 + min 248 (n - i * 248)) (8 + min 248 (n - i * 248))] wr fun e w' => ∃ (ra : Option Addr) (rn rc : Nat) (g : Option Nat), e = .returned (.tuple #[.slice ra rn rc, .bool false, .int .i64 91]) ∧ (ra = none ∧ rn = 0 ∧ rc = 0) ∧ Lp w w' w.heap.size (J.put k (pre b q) g) gc gr n N b ∧ w.heap.size ≤ w'.heap.size) := (show Calls _ _ _ _ _ from by
            have h1 := take_any hL.out.ok (k := k) (by rw [hJ.out.2]; exact hkm) (hL.out.rd hn4 hl hN hby hlt) (by omega) (HT.out.low hL.out.bel h0B) h0B
            rw [hJ.out.1] at h1
            have h2 := take_miss (b := b) (g := q) (i := i) (by rw [hl]; exact hn4) (by rw [hl, hN]; exact hlt) (by omega)
            have h3 := hps.out
            rw [show min i q = q by omega] at h3
            rw [h3, h2] at h1
            refine h1.mono fun e w' ht => ?_
            obtain ⟨ra, rn, rc, g, h4, h5, _, h6, h7⟩ := hL.out.took hBr ht
            exact ⟨ra, rn, rc, g, h4, h5 rfl, h6, h7⟩)
          have hps2 : Hid (∀ g, (J.put k (pre b q) g).ps k = pre b (min (i + 1) q)) := fun g => by rw [show min (i + 1) q = q by omega]; exact put_ps
          have t1 : ¬ (i : Int) < (q : Int) := by omega
          generalize 8 + min 248 (n - i * 248) = mm at *
          clear hps
          go_wp2_with (first
            | (go_at_call 10; refine HTk.out.mono ?_; rintro e w4 ⟨ra, rn, rc, g, rfl, ⟨rfl, rfl, rfl⟩, hL4, hB4⟩)
            | fail)
          go_roundw
          case rel => exact ⟨i + 1, J.put k (pre b q) g, by omega, by go_num, hJ, hps2.out g, hL4, hB4⟩
          case measure => simp [intOf]; omega
    · obtain rfl : N = i := by omega
      obtain ⟨J1, hJ1⟩ : ∃ J1, J = J1 := ⟨_, rfl⟩
      rw [hJ1] at hJ hL
      have HJ1 : Hid (J1.b = jb ∧ J1.n = m) := hJ
      have HL1 : Hid (Lp w wr w.heap.size J1 gc gr n N b) := hL
      have hB1 := hBr
      clear hJ1 hJ hL hBr hps
      go_wp2_with fail
      go_loopw [22] (fun v wr => ∃ (i : Nat) (J : Jn), i ≤ N ∧ v = .int .i64 (i : Int) ∧ Hid (J.b = jb ∧ J.n = m) ∧ Hid (i = 0 ∨ i = N ∨ J.ps k = pre b i) ∧ Hid (Lp w wr w.heap.size J gc gr n N b) ∧ w.heap.size ≤ wr.heap.size) (fun v _ => N - (intOf v).toNat)
      case atStart => exact ⟨0, J1, Nat.zero_le _, rfl, HJ1, .inl rfl, HL1, hB1⟩
      case round =>
        obtain ⟨i, J, hi, rfl, hJ, hps, hL, hBr⟩ := hrel
        by_cases hlt : i < N
        · have y0 := hL.out.x hlt
          have HTk : Hid (Calls Tryd.prog 10 #[.pointer (some ⟨jb, 0, none⟩), .int .i64 (k : Int), .slice (some ⟨gr, i * 256, none⟩) (8 + min 248 (n - i * 248)) (8 + min 248 (n - i * 248))] wr fun e w' => ∃ (ra : Option Addr) (rn rc : Nat) (g : Option Nat), e = .returned (.tuple #[.slice ra rn rc, .bool (nxt b i).b.isSome, .int .i64 ((nxt b i).e : Int)]) ∧ ((nxt b i).b = none → ra = none ∧ rn = 0 ∧ rc = 0) ∧ (∀ x, (nxt b i).b = some x → Rd w' ra rn rc x) ∧ Lp w w' w.heap.size (J.put k (nxt b i).p g) gc gr n N b ∧ w.heap.size ≤ w'.heap.size) := (show Calls _ _ _ _ _ from by
            have h1 := take_any hL.out.ok (k := k) (by rw [hJ.out.2]; exact hkm) (hL.out.rd hn4 hl hN hby hlt) (by omega) (HT.out.low hL.out.bel h0B) h0B
            rw [hJ.out.1] at h1
            have h2 := take_nxt (p := J.ps k) hby (by rw [hl]; exact hn4) (i := i) (by rw [hl, hN]; exact hlt) (hps.out.elim .inl (fun h => h.elim (fun h => by omega) .inr))
            rw [h2] at h1
            exact h1.mono fun e w' ht => hL.out.took hBr ht)
          have i1 : (0 : Int) ≤ (i : Int) := Int.natCast_nonneg _
          have i2 : (i : Int) < (N : Int) := by omega
          generalize 8 + min 248 (n - i * 248) = mm at *
          by_cases hla : i + 1 = N
          · have hnx : nxt b i = ⟨p0, some b, 0⟩ := by unfold nxt; rw [if_pos (by rw [hl, hN]; exact hla)]
            rw [hnx] at HTk
            have hq : ((i : Int) == (N : Int) - 1) = true := by rw [beq_iff_eq]; omega
            have hHid : Hid (i + 1 = N) := hla
            clear hnx hps hla
            go_wp2_with (first
              | (go_at_call 10; refine HTk.out.mono ?_; rintro e w4 ⟨ra, rn, rc, g, rfl, _, hrd, hL4, hB4⟩)
              | (go_at_call 11; refine (same_any (hrd b rfl) (Hr.out.still hL4.bel)).mono ?_; rintro e w' ⟨rfl, rfl⟩)
              | fail)
            go_roundw
            case rel => exact ⟨i + 1, J.put k p0 g, by omega, by go_num, hJ, .inr (.inl hHid.out), hL4, hB4⟩
            case measure => simp [intOf]; omega
          · have hnx : nxt b i = ⟨pre b (i + 1), none, 0⟩ := by unfold nxt; rw [if_neg (by rw [hl, hN]; exact hla)]
            rw [hnx] at HTk
            have hq : ((i : Int) == (N : Int) - 1) = false := by rw [beq_eq_false_iff_ne]; omega
            clear hnx hps hla
            go_wp2_with (first
              | (go_at_call 10; refine HTk.out.mono ?_; rintro e w4 ⟨ra, rn, rc, g, rfl, _, hrd, hL4, hB4⟩)
              | fail)
            go_roundw
            case rel => exact ⟨i + 1, J.put k (pre b (i + 1)) g, by omega, by go_num, hJ, .inr (.inr put_ps), hL4, hB4⟩
            case measure => simp [intOf]; omega
        · obtain rfl : i = N := by omega
          go_wp2
          go_ret
          exact ⟨rfl, hL.out.bel⟩
set_option maxHeartbeats 4000000 in
theorem gap_many1 {x sn gp : Int} {ao : Option Addr} {n0 c : Nat} {b0 : List Int} (hr : Rd w ao n0 c b0) (hn0 : n0 ≤ 140737488351232) (hT : Tab w) (hs : -9223372036854775808 ≤ sn ∧ sn ≤ 9223372036854775807) (hgp : -9223372036854775808 ≤ gp ∧ gp ≤ 9223372036854775807) {k : Nat} (hsk : sn = (k : Int)) (hkm0 : (k : Int) < ((max 1 (min x 16)).toNat : Int)) (hN1x : 1 < cnt (min n0 4000)) (hsg : gp.tmod (cnt (min n0 4000) : Int) < 0) : Calls Tryd.prog 4 #[.int .i64 x, .int .i64 sn, .slice ao n0 c, .int .i64 gp] w fun e w' => e = .returned (.bool true) ∧ Below w.heap.size w w' := by
  obtain ⟨m, hm⟩ : ∃ m : Nat, (max 1 (min x 16)).toNat = m := ⟨_, rfl⟩
  have hm1 : 1 ≤ m := by omega
  have hm16 : m ≤ 16 := by omega
  have HZ : Hid (Calls Tryd.prog 8 #[.int .i64 x] w fun e w' => e = .returned (.int .i64 (m : Int)) ∧ w = w') := (show Calls _ _ _ _ _ from by rw [← hm]; exact size_any x)
  have Hr0 : Hid (Rd w ao n0 c b0) := hr
  obtain ⟨b, hb⟩ : ∃ b, b0.take 4000 = b := ⟨_, rfl⟩
  obtain ⟨n, hn⟩ : ∃ n, min n0 4000 = n := ⟨_, rfl⟩
  have hr1 := hr.short
  rw [hb, hn] at hr1
  have hn4 : n ≤ 4000 := by omega
  have hl := hr1.len
  have hby := hr1.by_
  have Hr : Hid (Rd w ao n c b) := hr1
  have HT : Hid (Tab w) := hT
  have h0B : 0 < w.heap.size := World.block_lt_of_cell? w _ (hT 0 (by omega))
  rw [hm] at hkm0
  rw [hn] at hN1x hsg
  subst hsk
  have hkm : k < m := by omega
  have hmk1 : decide (m ≤ k) = false := decide_eq_false (by omega)
  have hmk2 : decide ((k : Int) < 0) = false := decide_eq_false (by omega)
  clear hr hr1 hT hm
  go_enter Tryd.func4, Tryd.ntmps4
  go_wp2_with fail
  refine HZ.out.mono ?_
  rintro e w' ⟨rfl, rfl⟩
  go_wp2_with fail
  refine (new_ok hm1 hm16).mono ?_
  rintro e w1 ⟨jb, bp, rfl, hj1, hb1⟩
  go_wp2_with fail
  refine (short_any (Hr0.out.still hb1) (by omega)).mono ?_
  rw [hn]
  rintro e w' ⟨rfl, rfl⟩
  go_wp2_with fail
  refine (split_ok (Hr.out.still hb1) hn4 (HT.out.still hb1)).mono ?_
  rintro e w2 ⟨gc, gr, rfl, hgc, hgr, hF2, hB2, hb2⟩
  have hN1 := cnt_pos hn4
  have hN17 := cnt_le n
  generalize hN : cnt n = N at *
  have HL : Hid (Lp w w2 w.heap.size (jnew jb bp m) gc gr n N b) := ⟨hj1.still hb2, hF2, hB2, fun hh => by have := hj1.own_lt _ hh; omega, fun hh => by have := hj1.own_lt _ hh; omega, bstep hb1 hb2⟩
  have hB : w.heap.size ≤ w2.heap.size := (bstep hb1 hb2).size
  have HJ : Hid ((jnew jb bp m).b = jb ∧ (jnew jb bp m).n = m ∧ ∀ s, (jnew jb bp m).ps s = p0) := ⟨rfl, rfl, fun _ => rfl⟩
  generalize jnew jb bp m = J0 at *
  have hNz : ((N : Int) == 0) = false := by rw [beq_eq_false_iff_ne]; omega
  clear hj1 hb1 hb2 hF2 hB2 HZ
  have hle : (1 : Int) < (N : Int) := by omega
  have hle2 : decide ((1 : Int) < (N : Int)) = true := decide_eq_true hle
  obtain ⟨r, hr⟩ : ∃ r, gp.tmod (N : Int) = r := ⟨_, rfl⟩
  have hr1 : -(N : Int) < r ∧ r < (N : Int) := by
    have := tmod_bd gp (N : Int) (by omega)
    rw [hr] at this
    exact this
  rw [hr] at hsg
  obtain ⟨q, hq⟩ := Int.eq_ofNat_of_zero_le (show 0 ≤ r + (N : Int) by omega)
  have hq0 : decide (r < 0) = true := decide_eq_true hsg
  have hqN : q < N := by omega
  clear hN1x
  go_wp2_with fail
  go_loopw [18] (fun v wr => ∃ (i : Nat) (J : Jn), i ≤ N ∧ v = .int .i64 (i : Int) ∧ Hid (J.b = jb ∧ J.n = m) ∧ Hid (J.ps k = pre b (min i q)) ∧ Hid (Lp w wr w.heap.size J gc gr n N b) ∧ w.heap.size ≤ wr.heap.size) (fun v _ => N - (intOf v).toNat)
  case atStart => exact ⟨0, J0, Nat.zero_le _, rfl, ⟨HJ.out.1, HJ.out.2.1⟩, by rw [Nat.zero_min]; exact HJ.out.2.2 k, HL, hB⟩
  case round =>
    obtain ⟨i, J, hi, rfl, hJ, hps, hL, hBr⟩ := hrel
    by_cases hlt : i < N
    · have i1 : (0 : Int) ≤ (i : Int) := Int.natCast_nonneg _
      have i2 : (i : Int) < (N : Int) := by omega
      by_cases heq : i = q
      · subst heq
        have hbq : ((i : Int) == (i : Int)) = true := by simp
        have hps2 : Hid (J.ps k = pre b (min (i + 1) i)) := (show _ = _ from by rw [show min (i + 1) i = i by omega]; have := hps.out; rw [Nat.min_self] at this; exact this)
        clear hps
        go_wp2
        go_roundw
        case rel => exact ⟨i + 1, J, by omega, by go_num, hJ, hps2, hL, hBr⟩
        case measure => simp [intOf]; omega
      · have hbq : ((i : Int) == (q : Int)) = false := by rw [beq_eq_false_iff_ne]; omega
        have y0 := hL.out.x hlt
        by_cases hig : i < q
        · have HTk : Hid (Calls Tryd.prog 10 #[.pointer (some ⟨jb, 0, none⟩), .int .i64 (k : Int), .slice (some ⟨gr, i * 256, none⟩) (8 + min 248 (n - i * 248)) (8 + min 248 (n - i * 248))] wr fun e w' => ∃ (ra : Option Addr) (rn rc : Nat) (g : Option Nat), e = .returned (.tuple #[.slice ra rn rc, .bool false, .int .i64 0]) ∧ (ra = none ∧ rn = 0 ∧ rc = 0) ∧ Lp w w' w.heap.size (J.put k (pre b (i + 1)) g) gc gr n N b ∧ w.heap.size ≤ w'.heap.size) := (show Calls _ _ _ _ _ from by
            have h1 := take_any hL.out.ok (k := k) (by rw [hJ.out.2]; exact hkm) (hL.out.rd hn4 hl hN hby hlt) (by omega) (HT.out.low hL.out.bel h0B) h0B
            rw [hJ.out.1] at h1
            have h2 := take_nxt (p := J.ps k) hby (by rw [hl]; exact hn4) (i := i) (by rw [hl, hN]; exact hlt) (.inr (by rw [hps.out, show min i q = i by omega]))
            have h3 : nxt b i = ⟨pre b (i + 1), none, 0⟩ := by unfold nxt; rw [if_neg (by rw [hl, hN]; omega)]
            rw [h2, h3] at h1
            refine h1.mono fun e w' ht => ?_
            obtain ⟨ra, rn, rc, g, h4, h5, _, h6, h7⟩ := hL.out.took hBr ht
            exact ⟨ra, rn, rc, g, h4, h5 rfl, h6, h7⟩)
          have hps2 : Hid (∀ g, (J.put k (pre b (i + 1)) g).ps k = pre b (min (i + 1) q)) := fun g => by rw [show min (i + 1) q = i + 1 by omega]; exact put_ps
          have t1 : (i : Int) < (q : Int) := by omega
          generalize 8 + min 248 (n - i * 248) = mm at *
          clear hps
          go_wp2_with (first
            | (go_at_call 10; refine HTk.out.mono ?_; rintro e w4 ⟨ra, rn, rc, g, rfl, ⟨rfl, rfl, rfl⟩, hL4, hB4⟩)
            | fail)
          go_roundw
          case rel => exact ⟨i + 1, J.put k (pre b (i + 1)) g, by omega, by go_num, hJ, hps2.out g, hL4, hB4⟩
          case measure => simp [intOf]; omega
        · have HTk : Hid (Calls Tryd.prog 10 #[.pointer (some ⟨jb, 0, none⟩), .int .i64 (k : Int), .slice (some ⟨gr, i * 256, none⟩) (8 + min 248 (n - i * 248)) (8 + min 248 (n - i * 248))] wr fun e w' => ∃ (ra : Option Addr) (rn rc : Nat) (g : Option Nat), e = .returned (.tuple #[.slice ra rn rc, .bool false, .int .i64 91]) ∧ (ra = none ∧ rn = 0 ∧ rc = 0) ∧ Lp w w' w.heap.size (J.put k (pre b q) g) gc gr n N b ∧ w.heap.size ≤ w'.heap.size) := (show Calls _ _ _ _ _ from by
            have h1 := take_any hL.out.ok (k := k) (by rw [hJ.out.2]; exact hkm) (hL.out.rd hn4 hl hN hby hlt) (by omega) (HT.out.low hL.out.bel h0B) h0B
            rw [hJ.out.1] at h1
            have h2 := take_miss (b := b) (g := q) (i := i) (by rw [hl]; exact hn4) (by rw [hl, hN]; exact hlt) (by omega)
            have h3 := hps.out
            rw [show min i q = q by omega] at h3
            rw [h3, h2] at h1
            refine h1.mono fun e w' ht => ?_
            obtain ⟨ra, rn, rc, g, h4, h5, _, h6, h7⟩ := hL.out.took hBr ht
            exact ⟨ra, rn, rc, g, h4, h5 rfl, h6, h7⟩)
          have hps2 : Hid (∀ g, (J.put k (pre b q) g).ps k = pre b (min (i + 1) q)) := fun g => by rw [show min (i + 1) q = q by omega]; exact put_ps
          have t1 : ¬ (i : Int) < (q : Int) := by omega
          generalize 8 + min 248 (n - i * 248) = mm at *
          clear hps
          go_wp2_with (first
            | (go_at_call 10; refine HTk.out.mono ?_; rintro e w4 ⟨ra, rn, rc, g, rfl, ⟨rfl, rfl, rfl⟩, hL4, hB4⟩)
            | fail)
          go_roundw
          case rel => exact ⟨i + 1, J.put k (pre b q) g, by omega, by go_num, hJ, hps2.out g, hL4, hB4⟩
          case measure => simp [intOf]; omega
    · obtain rfl : N = i := by omega
      obtain ⟨J1, hJ1⟩ : ∃ J1, J = J1 := ⟨_, rfl⟩
      rw [hJ1] at hJ hL
      have HJ1 : Hid (J1.b = jb ∧ J1.n = m) := hJ
      have HL1 : Hid (Lp w wr w.heap.size J1 gc gr n N b) := hL
      have hB1 := hBr
      clear hJ1 hJ hL hBr hps
      go_wp2_with fail
      go_loopw [22] (fun v wr => ∃ (i : Nat) (J : Jn), i ≤ N ∧ v = .int .i64 (i : Int) ∧ Hid (J.b = jb ∧ J.n = m) ∧ Hid (i = 0 ∨ i = N ∨ J.ps k = pre b i) ∧ Hid (Lp w wr w.heap.size J gc gr n N b) ∧ w.heap.size ≤ wr.heap.size) (fun v _ => N - (intOf v).toNat)
      case atStart => exact ⟨0, J1, Nat.zero_le _, rfl, HJ1, .inl rfl, HL1, hB1⟩
      case round =>
        obtain ⟨i, J, hi, rfl, hJ, hps, hL, hBr⟩ := hrel
        by_cases hlt : i < N
        · have y0 := hL.out.x hlt
          have HTk : Hid (Calls Tryd.prog 10 #[.pointer (some ⟨jb, 0, none⟩), .int .i64 (k : Int), .slice (some ⟨gr, i * 256, none⟩) (8 + min 248 (n - i * 248)) (8 + min 248 (n - i * 248))] wr fun e w' => ∃ (ra : Option Addr) (rn rc : Nat) (g : Option Nat), e = .returned (.tuple #[.slice ra rn rc, .bool (nxt b i).b.isSome, .int .i64 ((nxt b i).e : Int)]) ∧ ((nxt b i).b = none → ra = none ∧ rn = 0 ∧ rc = 0) ∧ (∀ x, (nxt b i).b = some x → Rd w' ra rn rc x) ∧ Lp w w' w.heap.size (J.put k (nxt b i).p g) gc gr n N b ∧ w.heap.size ≤ w'.heap.size) := (show Calls _ _ _ _ _ from by
            have h1 := take_any hL.out.ok (k := k) (by rw [hJ.out.2]; exact hkm) (hL.out.rd hn4 hl hN hby hlt) (by omega) (HT.out.low hL.out.bel h0B) h0B
            rw [hJ.out.1] at h1
            have h2 := take_nxt (p := J.ps k) hby (by rw [hl]; exact hn4) (i := i) (by rw [hl, hN]; exact hlt) (hps.out.elim .inl (fun h => h.elim (fun h => by omega) .inr))
            rw [h2] at h1
            exact h1.mono fun e w' ht => hL.out.took hBr ht)
          have i1 : (0 : Int) ≤ (i : Int) := Int.natCast_nonneg _
          have i2 : (i : Int) < (N : Int) := by omega
          generalize 8 + min 248 (n - i * 248) = mm at *
          by_cases hla : i + 1 = N
          · have hnx : nxt b i = ⟨p0, some b, 0⟩ := by unfold nxt; rw [if_pos (by rw [hl, hN]; exact hla)]
            rw [hnx] at HTk
            have hq : ((i : Int) == (N : Int) - 1) = true := by rw [beq_iff_eq]; omega
            have hHid : Hid (i + 1 = N) := hla
            clear hnx hps hla
            go_wp2_with (first
              | (go_at_call 10; refine HTk.out.mono ?_; rintro e w4 ⟨ra, rn, rc, g, rfl, _, hrd, hL4, hB4⟩)
              | (go_at_call 11; refine (same_any (hrd b rfl) (Hr.out.still hL4.bel)).mono ?_; rintro e w' ⟨rfl, rfl⟩)
              | fail)
            go_roundw
            case rel => exact ⟨i + 1, J.put k p0 g, by omega, by go_num, hJ, .inr (.inl hHid.out), hL4, hB4⟩
            case measure => simp [intOf]; omega
          · have hnx : nxt b i = ⟨pre b (i + 1), none, 0⟩ := by unfold nxt; rw [if_neg (by rw [hl, hN]; exact hla)]
            rw [hnx] at HTk
            have hq : ((i : Int) == (N : Int) - 1) = false := by rw [beq_eq_false_iff_ne]; omega
            clear hnx hps hla
            go_wp2_with (first
              | (go_at_call 10; refine HTk.out.mono ?_; rintro e w4 ⟨ra, rn, rc, g, rfl, _, hrd, hL4, hB4⟩)
              | fail)
            go_roundw
            case rel => exact ⟨i + 1, J.put k (pre b (i + 1)) g, by omega, by go_num, hJ, .inr (.inr put_ps), hL4, hB4⟩
            case measure => simp [intOf]; omega
        · obtain rfl : i = N := by omega
          go_wp2
          go_ret
          exact ⟨rfl, hL.out.bel⟩
theorem gap_any {x sn gp : Int} {ao : Option Addr} {n0 c : Nat} {b0 : List Int} (hx : -9223372036854775808 ≤ x ∧ x ≤ 9223372036854775807) (hs : -9223372036854775808 ≤ sn ∧ sn ≤ 9223372036854775807) (hr : Rd w ao n0 c b0) (hn0 : n0 ≤ 140737488351232) (hgp : -9223372036854775808 ≤ gp ∧ gp ≤ 9223372036854775807) (hT : Tab w) : Calls Tryd.prog 4 #[.int .i64 x, .int .i64 sn, .slice ao n0 c, .int .i64 gp] w fun e w' => e = .returned (.bool true) ∧ Below w.heap.size w w' := by
  by_cases ho : 0 ≤ sn ∧ sn < ((max 1 (min x 16)).toNat : Int)
  · obtain ⟨k, rfl⟩ := Int.eq_ofNat_of_zero_le ho.1
    have hc := cnt_pos (n := min n0 4000) (by omega)
    by_cases h1 : cnt (min n0 4000) = 1
    · exact gap_one hr hn0 hT hs hgp rfl ho.2 h1
    · by_cases h2 : 0 ≤ gp.tmod (cnt (min n0 4000) : Int)
      · exact gap_many0 hr hn0 hT hs hgp rfl ho.2 (by omega) h2
      · exact gap_many1 hr hn0 hT hs hgp rfl ho.2 (by omega) (by omega)
  · exact gap_out hr hn0 hT hs hgp ho
end
end Go.Proofs.YtmphabgpabbbjaaDoor.Fg
