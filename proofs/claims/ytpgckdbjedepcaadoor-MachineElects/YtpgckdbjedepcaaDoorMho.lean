import Derived.Test.YtpgckdbjedepcaaDoorMhn
namespace Go.Proofs.YtpgckdbjedepcaaDoor.Mh
open Go.RowKit Mb Go.Maps
set_option linter.unusedVariables false
set_option maxRecDepth 100000
set_option linter.unusedSimpArgs false
section
variable {w w' W : World} {B : Nat}
structure RdS (w : World) (so : Option Addr) (n : Nat) (S : Nat → ByteArray) : Prop where
  at_ : n = 0 ∨ ∃ b off, so = some ⟨b, off, none⟩ ∧ ∀ i, i < n → w.cell? ⟨b, off + i, none⟩ = some (.string (S i))
theorem RdS.at {so : Option Addr} {n : Nat} {S : Nat → ByteArray} (h : RdS w so n S) (hb : Below w.heap.size w w') {i : Nat} (hi : i < n) : ∃ b off, so = some ⟨b, off, none⟩ ∧ w'.cell? ⟨b, off + i, none⟩ = some (.string (S i)) := by
  rcases h.at_ with h1 | ⟨b, off, h1, h2⟩
  · omega
  · exact ⟨b, off, h1, below_at hb (h2 i hi)⟩
structure RdZ (w : World) (so : Option Addr) (n : Nat) (S : Nat → Int) : Prop where
  at_ : n = 0 ∨ ∃ b off, so = some ⟨b, off, none⟩ ∧ ∀ i, i < n → w.cell? ⟨b, off + i, none⟩ = some (.int .i64 (S i)) ∧ -9223372036854775808 ≤ S i ∧ S i ≤ 9223372036854775807
theorem RdZ.at {so : Option Addr} {n : Nat} {S : Nat → Int} (h : RdZ w so n S) (hb : Below w.heap.size w w') {i : Nat} (hi : i < n) : ∃ b off, so = some ⟨b, off, none⟩ ∧ w'.cell? ⟨b, off + i, none⟩ = some (.int .i64 (S i)) ∧ -9223372036854775808 ≤ S i ∧ S i ≤ 9223372036854775807 := by
  rcases h.at_ with h1 | ⟨b, off, h1, h2⟩
  · omega
  · exact ⟨b, off, h1, below_at hb (h2 i hi).1, (h2 i hi).2⟩
structure El (w : World) (mb pb lb : Nat) (fr : ByteArray) (k : Nat) (cur : ByteArray) (d : Bool) (wr : World) : Prop where
  ms : ∃ n f, n ≤ k + 1 ∧ Ms wr mb pb lb n f (mp cur) ∧ ∀ p, p < 16 → ∃ a r : Int, f (3 + p * 5) = .int .i64 a ∧ f (3 + p * 5 + 1) = .int .i64 r ∧ (a < 2 ∨ (a = 2 ∧ r ≤ (k : Int)))
  bel : Below w.heap.size w wr
  lo : w.heap.size ≤ mb ∧ w.heap.size ≤ pb
  sz : cur.size ≤ 8
  fls : d = false → cur = fr
  tru : d = true → cur ≠ fr
theorem below_two {a b : World} {mb pb : Nat} (h : Below w.heap.size w a) (k : Kept a b (fun j => j = mb ∨ j = pb)) (h1 : w.heap.size ≤ mb) (h2 : w.heap.size ≤ pb) : Below w.heap.size w b := h.trans (k.below h.size (fun j hj e => by omega))
theorem El.first {mb pb lb n : Nat} {f : Nat → Value} {fr : ByteArray} {a b : World} (hm : Ms b mb pb lb n (upS (nwF pb lb) 0 [.int .i64 1, .int .i64 1, .int .i64 1, .string ⟨#[]⟩, .int .i64 0]) (mp fr)) (hn : n ≤ 1) (ha : Below w.heap.size w a) (k : Kept a b (fun j => j = mb ∨ j = pb)) (h1 : w.heap.size ≤ mb) (h2 : w.heap.size ≤ pb) (hs : fr.size ≤ 8) : El w mb pb lb fr 0 fr false b :=
  ⟨⟨n, _, by omega, hm, fun p hp => by
    by_cases e : p = 0
    · subst e
      exact ⟨1, 1, upS_at (j := 0) (by simp), upS_at (j := 1) (by simp), .inl (by omega)⟩
    · obtain ⟨g0, g1, _⟩ := nw_sess pb lb p hp
      exact ⟨0, 0, (upS_ne (j := 0) rfl e (by decide)).trans g0, (upS_ne (j := 1) rfl e (by decide)).trans g1, .inl (by omega)⟩⟩, below_two ha k h1 h2, ⟨h1, h2⟩, hs, fun _ => rfl, fun h => by cases h⟩
theorem El.next {mb pb lb : Nat} {fr cur : ByteArray} {k : Nat} {d : Bool} {wr : World} (h : El w mb pb lb fr k cur d wr) : El w mb pb lb fr (k + 1) cur d wr := by
  obtain ⟨n, f, h1, h2, h3⟩ := h.ms
  refine ⟨⟨n, f, by omega, h2, fun p hp => ?_⟩, h.bel, h.lo, h.sz, h.fls, h.tru⟩
  obtain ⟨a, r, e0, e1, e2⟩ := h3 p hp
  exact ⟨a, r, e0, e1, by omega⟩
theorem El.step {mb pb lb n : Nat} {fr cur cur' : ByteArray} {k q : Nat} {d : Bool} {f : Nat → Value} {c0 n0 : Int} {s0 : ByteArray} {wr wx : World} (h : El w mb pb lb fr k cur d wr) (hn : n ≤ k + 2) (hm : Ms wx mb pb lb n (upS f q [.int .i64 2, .int .i64 ((k : Int) + 1), .int .i64 c0, .string s0, .int .i64 n0]) (mp cur')) (hf : ∀ p, p < 16 → ∃ a r : Int, f (3 + p * 5) = .int .i64 a ∧ f (3 + p * 5 + 1) = .int .i64 r ∧ (a < 2 ∨ (a = 2 ∧ r ≤ (k : Int)))) (hk : Kept wr wx (fun j => j = mb ∨ j = pb)) (hs : cur'.size ≤ 8) (hne : cur' ≠ fr) : El w mb pb lb fr (k + 1) cur' true wx := by
  refine ⟨⟨n, _, by omega, hm, fun p hp => ?_⟩, below_two h.bel hk h.lo.1 h.lo.2, h.lo, hs, (fun e => by cases e), fun _ => hne⟩
  by_cases e : p = q
  · subst e
    exact ⟨2, (k : Int) + 1, upS_at (j := 0) (by simp), upS_at (j := 1) (by simp), .inr ⟨rfl, by omega⟩⟩
  · obtain ⟨a, r, e0, e1, e2⟩ := hf p hp
    exact ⟨a, r, (upS_ne (j := 0) rfl e (by decide)).trans e0, (upS_ne (j := 1) rfl e (by decide)).trans e1, by omega⟩
theorem El.keep {mb pb lb : Nat} {fr cur : ByteArray} {k : Nat} {d : Bool} {wr wx : World} (h : El w mb pb lb fr k cur d wr) (hb : Below wr.heap.size wr wx) : El w mb pb lb fr k cur d wx := by
  obtain ⟨n, f, h1, h2, h3⟩ := h.ms
  exact ⟨⟨n, f, h1, h2.still hb, h3⟩, bstep h.bel hb, h.lo, h.sz, h.fls, h.tru⟩
theorem El.get {mb pb lb : Nat} {fr cur : ByteArray} {k : Nat} {d : Bool} {wr : World} (h : El w mb pb lb fr k cur d wr) : Calls Tryd.prog 6 #[.pointer (some ⟨mb, 0, none⟩), .string lead] wr fun e w' => e = .returned (.tuple #[.string cur, .bool true]) ∧ Below w.heap.size w w' := by
  obtain ⟨n, f, h1, h2, h3⟩ := h.ms
  have h8 := h2.blk.cell 0 (by omega)
  rw [h2.f0] at h8
  exact (get_any h8 h2.pm).mono fun e w' ⟨e1, e2⟩ => ⟨e1, bstep h.bel e2⟩
theorem El.yes {mb pb lb : Nat} {fr cur v : ByteArray} {k q : Nat} {wr : World} (h : El w mb pb lb fr k cur false wr) (hk : k < 40) (hq : q < 16) (hv : v.size ≤ 8) (hfr : fr.size ≤ 8) (hne : v ≠ fr) : Calls Tryd.prog 5 #[.pointer (some ⟨mb, 0, none⟩), .agg #[.int .i64 (q : Int), .int .i64 2, .int .i64 ((k : Int) + 1), .int .i64 3, .string lead, .string v, .string fr]] wr fun e w' => e = .returned (.agg #[.int .i64 1, .string fr, .int .i64 1]) ∧ El w mb pb lb fr (k + 1) v true w' := by
  obtain ⟨n, f, h1, h2, h3⟩ := h.ms
  obtain ⟨a, r, e0, e1, e2⟩ := h3 q hq
  have hc := h.fls rfl
  subst hc
  exact (apply_yes h2 (by omega) hq e0 e1 (by omega) (by omega) (by omega) (by omega) (by omega) hv hfr rfl).mono fun e w' ⟨g1, g2, g3⟩ => ⟨g1, h.step (by omega) g2 h3 g3 hv hne⟩
theorem El.no {mb pb lb : Nat} {fr cur v : ByteArray} {k q : Nat} {wr : World} (h : El w mb pb lb fr k cur true wr) (hk : k < 40) (hq : q < 16) (hv : v.size ≤ 8) (hfr : fr.size ≤ 8) : Calls Tryd.prog 5 #[.pointer (some ⟨mb, 0, none⟩), .agg #[.int .i64 (q : Int), .int .i64 2, .int .i64 ((k : Int) + 1), .int .i64 3, .string lead, .string v, .string fr]] wr fun e w' => e = .returned (.agg #[.int .i64 3, .string cur, .int .i64 1]) ∧ El w mb pb lb fr (k + 1) cur true w' := by
  obtain ⟨n, f, h1, h2, h3⟩ := h.ms
  obtain ⟨a, r, e0, e1, e2⟩ := h3 q hq
  exact (apply_no h2 (by omega) hq e0 e1 (by omega) (by omega) (by omega) (by omega) (by omega) hv hfr (h.tru rfl)).mono fun e w' ⟨g1, g2, g3⟩ => ⟨g1, h.step (by omega) g2 h3 g3 h.sz (h.tru rfl)⟩
set_option maxHeartbeats 8000000 in
theorem elects_any {ao : Option Addr} {n c : Nat} {X : Nat → Int} {frm : ByteArray} {so : Option Addr} {m d : Nat} {S : Nat → ByteArray} (hx : RdZ w ao n X) (hs : RdS w so m S) : Calls Tryd.prog 3 #[.slice ao n c, .string frm, .slice so m d] w fun e w' => e = .returned (.bool true) ∧ Below w.heap.size w w' := by
  have HX : Hid (RdZ w ao n X) := hx
  have HS : Hid (RdS w so m S) := hs
  clear hx hs
  go_enter Tryd.func3, Tryd.ntmps3
  go_upto_if 19 with (fail)
  go_cut [1] (fun s wx => ∃ b : ByteArray, s = .string b ∧ Hid (b.size ≤ 8) ∧ w = wx)
  case first =>
    by_cases h8 : 8 < frm.size
    · have k1 : (8 : Int) < (frm.size : Int) := by omega
      have k2 : (8 : Int) ≤ (frm.size : Int) := by omega
      go_wp2_with (fail)
      go_meet
      exact ⟨_, rfl, by show _ ≤ _; simp; omega, rfl⟩
    · have k1 : ¬ (8 : Int) < (frm.size : Int) := by omega
      go_wp2_with (fail)
      go_meet
      exact ⟨_, rfl, by show _ ≤ _; omega, rfl⟩
  case rest =>
  obtain ⟨fr, rfl, Hfr, rfl⟩ := hcut
  go_wp2_with (first
    | (go_at_call 4; refine (new_any).mono ?_; rintro e w1 ⟨mb, pb, lb, rfl, hm1, hb1, hl1, hl2⟩; have HM1 : Hid (Ms w1 mb pb lb 0 (nwF pb lb) (.map [])) := hm1; have HB1 : Hid (Below w.heap.size w w1) := hb1; clear hm1 hb1)
    | (go_at_call 5; refine (apply_set (q := 0) (inc := 1) (req := 1) HM1.out (by omega) (by omega) (nw_sess pb lb 0 (by omega)).1 (nw_sess pb lb 0 (by omega)).2.1 (.inl (by omega)) (by omega) (by omega) (by omega) (by omega) Hfr.out).mono ?_; rintro e w2 ⟨rfl, hm2, hk2⟩; have HE0 : Hid (El w mb pb lb fr 0 fr false w2) := El.first (f := nwF pb lb) hm2 (by omega) HB1.out hk2 hl1 hl2 Hfr.out; clear hm2 hk2)
    | fail)
  clear HM1 HB1
  go_loopw [8, 9, 10, 11, 12, 13, 14] (fun ch dn i _ _ _ _ wr => ∃ (k : Nat) (cur : ByteArray) (dd : Bool), k ≤ 40 ∧ i = .int .i64 (k : Int) ∧ ch = .string cur ∧ dn = .bool dd ∧ Hid (El w mb pb lb fr k cur dd wr)) (fun _ _ i _ _ _ _ _ => 40 - (intOf i).toNat)
  case atStart => exact ⟨0, fr, false, by omega, rfl, rfl, rfl, HE0.out⟩
  case round =>
  obtain ⟨k, cur, dd, hk, rfl, rfl, rfl, HI⟩ := hrel
  clear HE0
  have HG : Hid (Calls Tryd.prog 6 #[.pointer (some ⟨mb, 0, none⟩), .string lead] wr fun e w' => e = .returned (.tuple #[.string cur, .bool true]) ∧ Below w.heap.size w w') := HI.out.get
  by_cases h1 : k < n
  · have j1 : (k : Int) < (n : Int) := by omega
    by_cases h2 : k < m
    · have j2 : (k : Int) < (m : Int) := by omega
      by_cases h3 : k < 40
      · have j3 : (k : Int) < 40 := by omega
        have j0 : (0 : Int) ≤ (k : Int) := Int.natCast_nonneg _
        obtain ⟨b1, o1, g1, e1, lo, hi⟩ := HX.out.at HI.out.bel h1
        obtain ⟨b2, o2, g2, e2⟩ := HS.out.at HI.out.bel h2
        have Hg1 : Hid (ao = some ⟨b1, o1, none⟩) := g1
        have Hg2 : Hid (so = some ⟨b2, o2, none⟩) := g2
        rw [g1, g2]
        clear g1 g2 HG
        generalize X k = x at *
        generalize S k = s at *
        go_upto_if 57 with (fail)
        go_cut [11] (fun z wx => ∃ p : Nat, z = .int .i64 (p : Int) ∧ wr = wx)
        case first =>
          by_cases hx : x < 0
          · have w1 : IntKind.i64.wrap (x + 1) = x + 1 := wrap_id (by omega) (by omega)
            have w2 : IntKind.i64.wrap (-(x + 1)) = -(x + 1) := wrap_id (by omega) (by omega)
            go_wp2_with (fail)
            go_meet
            exact ⟨(-(x + 1)).toNat, by first | (congr 1; omega) | (simp [wrap64]; omega), rfl⟩
          · go_wp2_with (fail)
            go_meet
            exact ⟨x.toNat, by congr 1; omega, rfl⟩
        case rest =>
        obtain ⟨p, rfl, rfl⟩ := hcut
        go_upto_if 63 with (fail)
        go_cut [12] (fun z wx => ∃ v : ByteArray, z = .string v ∧ Hid (v.size ≤ 8) ∧ wr = wx)
        case first =>
          by_cases h8 : 8 < s.size
          · have k1 : (8 : Int) < (s.size : Int) := by omega
            have k2 : (8 : Int) ≤ (s.size : Int) := by omega
            go_wp2_with (fail)
            go_meet
            exact ⟨_, rfl, by show _ ≤ _; simp; omega, rfl⟩
          · have k1 : ¬ (8 : Int) < (s.size : Int) := by omega
            go_wp2_with (fail)
            go_meet
            exact ⟨_, rfl, by show _ ≤ _; omega, rfl⟩
        case rest =>
        obtain ⟨v, rfl, Hv, rfl⟩ := hcut
        clear e1 e2 lo hi
        by_cases hvf : v = fr
        · subst hvf
          have HN : Hid (El w mb pb lb v (k + 1) cur dd wr) := HI.out.next
          go_wp2_with (fail)
          exact ⟨⟨k + 1, cur, dd, by omega, by go_num, rfl, rfl, HN.out⟩, by simp [intOf]; omega⟩
        · have hne := ne_list hvf
          have Hne : Hid (v ≠ fr) := hvf
          clear hvf
          have hp : p % 16 < 16 := Nat.mod_lt _ (by decide)
          have hmod : (p : Int).tmod 16 = ((p % 16 : Nat) : Int) := by rw [Int.tmod_eq_emod_of_nonneg (Int.natCast_nonneg _)]; omega
          obtain ⟨q, hq⟩ : ∃ q, p % 16 = q := ⟨_, rfl⟩
          rw [hq] at hp hmod
          clear hq
          cases dd with
          | false =>
            have HY := HI.out.yes h3 hp Hv.out Hfr.out Hne.out
            go_wp2_with (fail)
            refine HY.mono ?_
            rintro e w3 ⟨rfl, hE⟩
            have HE : Hid (El w mb pb lb fr (k + 1) v true w3) := hE
            clear hE
            go_wp2_with (fail)
            exact ⟨⟨k + 1, v, true, by omega, by go_num, rfl, rfl, HE.out.keep (by repeat (first | exact Below.refl _ _ | apply balloc | apply bset))⟩, by simp [intOf]; omega⟩
          | true =>
            have HY := HI.out.no h3 hp Hv.out Hfr.out
            go_wp2_with (fail)
            refine HY.mono ?_
            rintro e w3 ⟨rfl, hE⟩
            have HE : Hid (El w mb pb lb fr (k + 1) cur true w3) := hE
            clear hE
            go_wp2_with (fail)
            exact ⟨⟨k + 1, cur, true, by omega, by go_num, rfl, rfl, HE.out.keep (by repeat (first | exact Below.refl _ _ | apply balloc | apply bset))⟩, by simp [intOf]; omega⟩
      · have j3 : ¬ (k : Int) < 40 := by omega
        go_wp2_with (first | (go_at_call 6; refine HG.out.mono ?_; rintro e wx ⟨rfl, hbx⟩) | fail)
        go_ret
        exact ⟨by simp, hbx⟩
    · have j2 : ¬ (k : Int) < (m : Int) := by omega
      go_wp2_with (first | (go_at_call 6; refine HG.out.mono ?_; rintro e wx ⟨rfl, hbx⟩) | fail)
      go_ret
      exact ⟨by simp, hbx⟩
  · have j1 : ¬ (k : Int) < (n : Int) := by omega
    go_wp2_with (first | (go_at_call 6; refine HG.out.mono ?_; rintro e wx ⟨rfl, hbx⟩) | fail)
    go_ret
    exact ⟨by simp, hbx⟩
end
end Go.Proofs.YtpgckdbjedepcaaDoor.Mh
