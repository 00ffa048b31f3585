import Derived.Test.YtpkcgjnaegaecaaYr4
import Derived.Test.YtpkcgjnaegaecaaY7
namespace Go.Proofs.Ytpkcgjnaegaecaa.Fm
open Go.RowKit Go.Maps Mb
set_option linter.unusedVariables false
set_option maxRecDepth 100000
set_option linter.unusedSimpArgs false
section
variable {w w' W : World} {B : Nat}
theorem slCells_cat (a b : List (Int × Int)) : slCells (a ++ b) = slCells a ++ slCells b := by simp [slCells]
theorem ints_cat (a b : List Int) : ints (a ++ b) = ints a ++ ints b := by simp [ints]
theorem bInt (c : Int) : Try.prog.builtSlice 3 1 [(0, .int .i64 c)] = some #[.int .i64 c] := by kernel_rfl
theorem owe_facts {cs : List Co} {p q : Nat} {ss : List (Int × Int)} {s : Int × Int} (ht : togE cs = 0) (hp : p < cs.length) (hq : q < cs.length) (h : s ∈ owe cs q ss p) : s ∈ lacks cs q ss ∧ ∃ k : Nat, s = ((k : Int), s.2) ∧ k < (cs.getD p c0).hv.length ∧ k < (cs.getD q c0).hv.length ∧ decide (s.2 ≤ (cs.getD p c0).hv.getD k 0) = true ∧ decide (s.2 ≤ (cs.getD q c0).hv.getD k 0) = false := by
  refine ⟨owe_lacks hp h, ?_⟩
  obtain ⟨h1, h2, h3, h4⟩ := (owe_mem hp).1 h
  have T := tog_of ht
  have e1 := T.len p hp
  have e2 := T.len q hq
  simp only [has, Bool.and_eq_true, decide_eq_true_eq] at h2
  obtain ⟨⟨a1, a2⟩, a3⟩ := h2
  refine ⟨s.1.toNat, Prod.ext (by simp only; omega) rfl, by omega, by omega, decide_eq_true a3, decide_eq_false (fun h5 => ?_)⟩
  have : has (cs.getD q c0) s = true := by
    simp only [has, Bool.and_eq_true, decide_eq_true_eq]
    exact ⟨⟨a1, by omega⟩, h5⟩
  rw [this] at h3
  cases h3
theorem sh_lacks {a : Option Addr} {c q n : Nat} {xs fs : List Fl} {x : Fl} {ss : List (Int × Int)} (hr : RdFs w a xs) (hc : cos xs = cos fs) (hx : x.Rd w) (hxc : x.c = (cos fs).getD q c0) (hcp : fs.length ≤ c) (hcm : c ≤ 9223372036854775807) (ht : togE (cos fs) = 0) (hn : fs.length ≤ 16) (hq : q < fs.length) (he : Ends (cos fs) n) (h : SlOf (cos fs) n ss) : Calls Try.prog 10 #[.int .i64 (baseOf (cos fs)), .agg x.cs.toArray, .slice a fs.length c] w fun e w' => ∃ la lc, e = .returned (.tuple #[.slice la (lacks (cos fs) q ss).length lc, .int .i64 0]) ∧ w'.ownsRow w.heap.size 40 2 (.slice la (lacks (cos fs) q ss).length lc) (lacks (cos fs) q ss).length (slCells (lacks (cos fs) q ss)) ∧ Below w.heap.size w w' := by
  have hl : xs.length = fs.length := by rw [← cos_len xs, hc, cos_len]
  have := lacks_any (cp := c) hr hx (by rw [hl]; exact hcp) hcm (by rw [hl]; omega) (baseOf (cos fs))
  rw [hl, hc, hxc] at this
  refine this.mono ?_
  rintro e w' ⟨la, lc, l, E, rfl, hS, ho, hb⟩
  obtain ⟨rfl, rfl⟩ := lk_of ht (by rw [cos_len]; exact hn) (by rw [cos_len]; exact hq) he h hS
  exact ⟨la, lc, rfl, ho, hb⟩
theorem sh_duty {a wa : Option Addr} {c wc p q n : Nat} {xs fs : List Fl} {ss : List (Int × Int)} (hw : RdI w wa (rng fs.length)) (hr : RdFs w a xs) (hc : cos xs = cos fs) (ht : togE (cos fs) = 0) (hn : fs.length ≤ 16) (hp : p < fs.length) (hq : q < fs.length) (hne : p ≠ q) (he : Ends (cos fs) n) (h : SlOf (cos fs) n ss) : Calls Try.prog 12 #[.int .i64 (p : Int), .int .i64 (q : Int), .slice wa fs.length wc, .slice a fs.length c] w fun e w' => ∃ la lc, e = .returned (.tuple #[.slice la (owe (cos fs) q ss p).length lc, .int .i64 0]) ∧ w'.ownsRow w.heap.size 40 2 (.slice la (owe (cos fs) q ss p).length lc) (owe (cos fs) q ss p).length (slCells (owe (cos fs) q ss p)) ∧ Below w.heap.size w w' := by
  have hl : xs.length = fs.length := by rw [← cos_len xs, hc, cos_len]
  have := duty_any (wcp := wc) (cp := c) hw (by rw [rng_len]; omega) hr (by rw [hl]; omega) (p : Int) (q : Int)
  rw [hl, hc, rng_len] at this
  refine this.mono ?_
  rintro e w' ⟨la, lc, l, E, rfl, hS, ho, hb⟩
  have hS' : DuS (cos fs) (rng (cos fs).length) (p : Int) (q : Int) E l := by rw [cos_len]; exact hS
  obtain ⟨rfl, rfl⟩ := du_of ht (by rw [cos_len]; exact hn) (by rw [cos_len]; exact hp) (by rw [cos_len]; exact hq) hne he h hS'
  exact ⟨la, lc, rfl, ho, hb⟩
theorem own_nil {B t k n c : Nat} {a : Option Addr} {l : List Value} (h : w.ownsRow B t k (.slice a n c) n l) : a = none → n = 0 ∧ c = 0 := fun e => by
  subst e
  rcases h.2 with ⟨h1, h2⟩ | ⟨g, cap, cur, hv, _⟩
  · simp at h1
    exact ⟨h2, h1.2⟩
  · simp at hv
set_option maxHeartbeats 16000000 in
theorem flushShares_any {ao : Option Addr} {cp : Nat} {fs : List Fl} (hr : RdFs w ao fs) (hi : ∀ i, i < fs.length → (fs.getD i fl0).In w) (hn : fs.length ≤ 1048576) : Calls Try.prog 3 #[.slice ao fs.length cp] w fun e w' => e = .returned (.bool true) ∧ Below w.heap.size w w' := by
  have HR : Hid (RdFs w ao fs) := hr
  have HMy : Hid (∀ X, Below w.heap.size w X → Calls Try.prog 7 #[.slice ao fs.length cp] X fun e w' => ∃ a c xs, e = .returned (.slice a fs.length c) ∧ cos xs = cos fs ∧ RdFs w' a xs ∧ fs.length ≤ c ∧ c ≤ 9223372036854775807 ∧ Below X.heap.size X w') := fun X hX => by
    refine (many_any (cp := cp) (hr.still hX) (fun k hk => (hi k hk).still hX) hn).mono ?_
    rintro e w' ⟨a, c, xs, rfl, h1, h2, h3, h4, h5⟩
    have hl : xs.length = fs.length := by rw [← cos_len xs, h1, cos_len]
    exact ⟨a, c, xs, by rw [hl], h1, h2, by rw [← hl]; exact h3, h4, h5⟩
  have HOn : Hid (∀ X, Below w.heap.size w X → ∀ q, q < fs.length → Calls Try.prog 11 #[.agg (fs.getD q fl0).cs.toArray] X fun e w' => ∃ x : Fl, e = .returned (.agg x.cs.toArray) ∧ x.c = (cos fs).getD q c0 ∧ x.Rd w' ∧ Below X.heap.size X w') := fun X hX q hq => by
    refine (one_any ((hi q hq).still hX)).mono ?_
    rintro e w' ⟨x, rfl, h1, h2⟩
    exact ⟨x, rfl, by rw [h1.ce, cos_at], h1.rd ((hi q hq).still hX).rd, h2⟩
  have HTg : Hid (∀ X, Below w.heap.size w X → Calls Try.prog 8 #[.slice ao fs.length cp] X fun e w' => e = .returned (.int .i64 (togE (cos fs))) ∧ Below X.heap.size X w') := fun X hX => qTog_any (hr.still hX) (by omega)
  have HBa : Hid (∀ X, Below w.heap.size w X → Calls Try.prog 9 #[.slice ao fs.length cp] X fun e w' => e = .returned (.int .i64 (baseOf (cos fs))) ∧ X = w') := fun X hX => (qBase_any (cp := cp) (hr.still hX) (by omega)).mono fun _ _ h => ⟨h.1, h.2.symm⟩
  have HCu : Hid (∀ X a c xs, cos xs = cos fs → RdFs X a xs → Calls Try.prog 6 #[.slice a fs.length c] X (CutO (cos fs) X)) := fun X a c xs h1 h2 => by
    have hl : xs.length = fs.length := by rw [← cos_len xs, h1, cos_len]
    have := cut_any (cp := c) h2 (by omega)
    rw [hl, h1] at this
    exact this
  have Hcl : Hid ((cos fs).length = fs.length) := cos_len fs
  have Hsl : Hid (∀ (X : World) (a : Option Addr) (c q n : Nat) (xs : List Fl) (x : Fl) (ss : List (Int × Int)), RdFs X a xs → cos xs = cos fs → x.Rd X → x.c = (cos fs).getD q c0 → fs.length ≤ c → c ≤ 9223372036854775807 → togE (cos fs) = 0 → fs.length ≤ 16 → q < fs.length → Ends (cos fs) n → SlOf (cos fs) n ss → Calls Try.prog 10 #[.int .i64 (baseOf (cos fs)), .agg x.cs.toArray, .slice a fs.length c] X fun e w' => ∃ la lc, e = .returned (.tuple #[.slice la (lacks (cos fs) q ss).length lc, .int .i64 0]) ∧ w'.ownsRow X.heap.size 40 2 (.slice la (lacks (cos fs) q ss).length lc) (lacks (cos fs) q ss).length (slCells (lacks (cos fs) q ss)) ∧ Below X.heap.size X w') := fun X a c q n xs x ss h1 h2 h3 h4 h5 h6 h7 h8 h9 h10 h11 => sh_lacks h1 h2 h3 h4 h5 h6 h7 h8 h9 h10 h11
  have Hsd : Hid (∀ (X : World) (a wa : Option Addr) (c wc p q n : Nat) (xs : List Fl) (ss : List (Int × Int)), RdI X wa (rng fs.length) → RdFs X a xs → cos xs = cos fs → togE (cos fs) = 0 → fs.length ≤ 16 → p < fs.length → q < fs.length → p ≠ q → Ends (cos fs) n → SlOf (cos fs) n ss → Calls Try.prog 12 #[.int .i64 (p : Int), .int .i64 (q : Int), .slice wa fs.length wc, .slice a fs.length c] X fun e w' => ∃ la lc, e = .returned (.tuple #[.slice la (owe (cos fs) q ss p).length lc, .int .i64 0]) ∧ w'.ownsRow X.heap.size 40 2 (.slice la (owe (cos fs) q ss p).length lc) (owe (cos fs) q ss p).length (slCells (owe (cos fs) q ss p)) ∧ Below X.heap.size X w') := fun X a wa c wc p q n xs ss h1 h2 h3 h4 h5 h6 h7 h8 h9 h10 => sh_duty h1 h2 h3 h4 h5 h6 h7 h8 h9 h10
  generalize hL : fs.length = L at *
  have HLe : Hid (fs.length = L) := hL
  clear hr hi hL
  go_enter Try.func3, Try.ntmps3
  go_upto_region 2 with (first
    | (go_at_call 7; refine (HMy.out w (Below.refl _ _)).mono ?_; rintro e V1 ⟨ma, mc, xs, rfl, hc1, hr1, -, -, hb1⟩; have HC1 : Hid _ := hc1; have HR1 : Hid (RdFs V1 ma xs) := hr1; have BV1 : Hid (Below w.heap.size w V1) := hb1; clear hc1 hr1 hb1)
    | (go_at_call 6; refine (HCu.out V1 ma mc xs HC1.out HR1.out).mono ?_; rintro e V2 ⟨v, E, rfl, hS, hb2⟩; have HS : Hid (CutS (cos fs) v E) := hS; have BV2 : Hid (Below w.heap.size w V2) := bstep BV1.out hb2; clear hS hb2)
    | fail)
  have hl0 : (0 : Int) ≤ (L : Int) := Int.natCast_nonneg _
  by_cases hb : L < 1 ∨ 16 < L
  · have hin : inR 1 16 ((cos fs).length : Int) = false := by
      rw [Hcl.out]
      simp [inR]
      omega
    obtain ⟨rfl, rfl⟩ : E = 1 ∧ v = 0 := by
      rcases HS.out with ⟨_, h2, h3⟩ | ⟨h1, _⟩ | ⟨h1, _⟩
      · exact ⟨h2, h3⟩
      · rw [hin] at h1; cases h1
      · rw [hin] at h1; cases h1
    rcases hb with hb | hb
    · have hb1 : (L : Int) < 1 := by omega
      clear hb hin
      go_wp2
      go_ret
      exact ⟨rfl, BV2.out⟩
    · have hb1 : ¬ (L : Int) < 1 := by omega
      have hb2 : (16 : Int) < (L : Int) := by omega
      clear hb hin
      go_wp2
      go_ret
      exact ⟨rfl, BV2.out⟩
  have H16 : Hid (L ≤ 16) := (show L ≤ 16 from by omega)
  have hb1 : ¬ (L : Int) < 1 := by omega
  have hb2 : ¬ (16 : Int) < (L : Int) := by omega
  clear hb
  by_cases h0 : togE (cos fs) = 0
  rotate_left
  · have hin : inR 1 16 ((cos fs).length : Int) = true := by
      rw [Hcl.out]
      exact inR_t (by omega) (by omega)
    obtain ⟨rfl, rfl⟩ : E = togE (cos fs) ∧ v = 0 := by
      rcases HS.out with ⟨h1, _⟩ | ⟨_, _, h2, h3⟩ | ⟨_, h1, _⟩
      · rw [hin] at h1; cases h1
      · exact ⟨h2, h3⟩
      · exact absurd h1 h0
    generalize togE (cos fs) = E at *
    have hE : (E == 0) = false := by simpa using h0
    clear hin h0
    go_wp2_with (first | (go_at_call 8; refine (HTg.out V2 BV2.out).mono ?_; rintro e V3 ⟨rfl, hb3⟩; have BV3 : Hid (Below w.heap.size w V3) := bstep BV2.out hb3; clear hb3) | fail)
    go_ret
    exact ⟨rfl, BV3.out⟩
  have HT : Hid (togE (cos fs) = 0) := h0
  obtain ⟨n, hEn⟩ : ∃ n, Ends (cos fs) n := by
    rcases HS.out with ⟨h1, _⟩ | ⟨_, h1, _⟩ | ⟨_, _, _, n, h1, _⟩
    · have : inR 1 16 ((cos fs).length : Int) = true := by
        rw [Hcl.out]
        exact inR_t (by omega) (by omega)
      rw [this] at h1; cases h1
    · exact absurd h0 h1
    · exact ⟨n, h1⟩
  obtain ⟨ss, hss⟩ := slOf_ex hEn
  have HEn : Hid (Ends (cos fs) n) := hEn
  have HSl : Hid (SlOf (cos fs) n ss) := hss
  rw [h0] at HTg
  clear hEn hss h0 HS
  obtain ⟨ii, ihi, ihz0, ihz1, ihz2⟩ := int_info
  obtain ⟨si, shi, shz0, shz1, shz2⟩ := slot_info
  go_upto_region 4 with (first | (go_at_call 8; refine (HTg.out V2 BV2.out).mono ?_; rintro e V3 ⟨rfl, hb3⟩; have BV3 : Hid (Below w.heap.size w V3) := bstep BV2.out hb3; clear hb3) | fail)
  go_wp2
  go_loopw [5, 6] (fun wv i wr => ∃ c : Nat, c ≤ L ∧ i = .int .i64 c ∧ wr.ownsRow w.heap.size 3 1 wv c (ints (rng c)) ∧ Below w.heap.size w wr) (fun _ i _ => L - (intOf i).toNat)
  case atStart => exact ⟨0, Nat.zero_le _, rfl, ⟨rfl, .inl ⟨rfl, rfl⟩⟩, BV3.out⟩
  case round =>
    obtain ⟨c, hc, rfl, ho, hb⟩ := hrel
    have HO : Hid (wr.ownsRow w.heap.size 3 1 u5 c (ints (rng c))) := ho
    have HB : Hid (Below w.heap.size w wr) := hb
    clear ho hb
    have i1 : (0 : Int) ≤ (c : Int) := Int.natCast_nonneg _
    by_cases hlt : c < L
    · have i2 : (c : Int) < (L : Int) := by omega
      have h16 : c ≤ 16 := by have := H16.out; omega
      go_wp2_with (first
        | (refine wl_bsl rfl 28 3 1 _ rfl Try.underlying28 #[.int .i64 (c : Int)] (bsl_eq (by kernel_rfl) (bInt (c : Int))) ?_; intro Z1 kz1 bz1 sz1; have KZ1 : Hid _ := kz1; have BZ1 : Hid (Below wr.heap.size wr Z1) := bz1; clear kz1 bz1 sz1)
        | (refine app_g rfl _ _ 28 rfl w.heap.size 3 ii (.int .i64 0) 1 8 Try.underlying28 ihi ihz0 ihz1 ihz2 rfl (by omega) u5 c (ints (rng c)) rfl (own_still HO.out BZ1.out) (some ⟨wr.heap.size, 0, none⟩) 1 1 [.int .i64 (c : Int)] rfl (fun h => by cases h) rfl (fun ad had j u hu => by cases had; rw [Addr.add_lit, Nat.zero_add, blk_cell KZ1.out]; simpa using hu) (by intro u hu; simp only [List.mem_cons, List.not_mem_nil, or_false] at hu; subst hu; rfl) (by unfold maxLen; omega) (by omega) (bstep HB.out BZ1.out).size ?_; intro v2 Z2 ho2 hk2 hob2)
        | fail)
      have HO2 : Hid (Z2.ownsRow w.heap.size 3 1 v2 (c + 1) (ints (rng (c + 1)))) := (show Z2.ownsRow w.heap.size 3 1 v2 (c + 1) (ints (rng (c + 1))) from by
        rw [rng_succ, ints_cat]
        exact ho2.out)
      refine ⟨⟨c + 1, by omega, by go_num, HO2.out, ?_⟩, by simp [intOf]; omega⟩
      have hz := bstep HB.out BZ1.out
      refine hz.trans (hk2.out.below hz.size (fun k hk e => ?_))
      have := (row_cells (own_still HO.out BZ1.out) e).1
      omega
    · obtain rfl : c = L := by omega
      clear hlt hc BV3 BV2 BV1 HC1 HR1
      obtain ⟨wa, wc, hwv⟩ : ∃ wa wc, u5 = .slice wa c wc := by
        rcases own_two HO.out with ⟨e, h0⟩ | ⟨g, cc, e, _⟩
        · exact ⟨none, 0, by rw [h0]; exact e⟩
        · exact ⟨_, _, e⟩
      subst hwv
      have HW : Hid (RdI wr wa (rng c)) := own_rdI HO.out (rng_len c)
      have HB0 : Hid (Below w.heap.size w wr) := HB.out
      clear HO HB
      generalize hW5 : wr = W5 at *
      clear hW5
      go_upto_region 10 with (first | (go_at_call 9; refine (HBa.out _ HB0.out).mono ?_; rintro e Vz ⟨rfl, rfl⟩) | fail)
      go_wp2
      go_loopw [8] (fun i wr => ∃ q : Nat, q ≤ c ∧ i = .int .i64 q ∧ Below W5.heap.size W5 wr) (fun i _ => c - (intOf i).toNat)
      case atStart => exact ⟨0, Nat.zero_le _, rfl, Below.refl _ _⟩
      case round =>
        as_aux_lemma =>
        obtain ⟨q, hq, rfl, hb⟩ := hrel
        have HBq : Hid (Below W5.heap.size W5 wr) := hb
        have HBw : Hid (Below w.heap.size w wr) := bstep HB0.out hb
        clear hb
        have q1 : (0 : Int) ≤ (q : Int) := Int.natCast_nonneg _
        by_cases hlt : q < c
        · have q2 : (q : Int) < (c : Int) := by omega
          obtain ⟨b, off, rfl, -⟩ := HR.out.at (i := q) (by rw [HLe.out]; exact hlt)
          have HRy : Hid (∀ X, Below w.heap.size w X → ∀ i, i < c → X.rangeAt b (off + i * 7) (fs.getD i fl0).cs ∧ X.cell? ⟨b, off + i * 7 + 6, none⟩ = some (.slice (fs.getD i fl0).ha (fs.getD i fl0).c.hv.length (fs.getD i fl0).hc) ∧ RdI X (fs.getD i fl0).ha (fs.getD i fl0).c.hv) := fun X hX i hi => by
            obtain ⟨b', off', e', h'⟩ := (HR.out.still hX).at (i := i) (by rw [HLe.out]; exact hi)
            simp only [Option.some.injEq, Addr.mk.injEq, and_true] at e'
            rw [e'.1, e'.2]
            exact ⟨h', h' 6 _ rfl, ((HR.out.still hX).el i (by rw [HLe.out]; exact hi)).h⟩
          have HRq : Hid (∀ X, Below w.heap.size w X → X.rangeAt b (off + q * 7) (fs.getD q fl0).cs) := fun X hX => (HRy.out X hX q hlt).1
          have HOq : Hid (∀ X, Below w.heap.size w X → Calls Try.prog 11 #[.agg (fs.getD q fl0).cs.toArray] X fun e w' => ∃ x : Fl, e = .returned (.agg x.cs.toArray) ∧ x.c = (cos fs).getD q c0 ∧ x.Rd w' ∧ Below X.heap.size X w') := fun X hX => HOn.out X hX q hlt
          have Hl7 : Hid ((fs.getD q fl0).cs.length = 7) := rfl
          have Hql : Hid (q < (cos fs).length) := (show q < (cos fs).length from by rw [Hcl.out]; exact hlt)
          have HND : Hid ((lacks (cos fs) q ss).Nodup ∧ (owed (cos fs) q ss c).Nodup ∧ (owed (cos fs) q ss c).length = (lacks (cos fs) q ss).length ∧ (lacks (cos fs) q ss).length ≤ 128) := by
            have h1 := sl_nodup HT.out HSl.out
            refine ⟨pick_nodup h1, owed_nodup h1 _ (by rw [Hcl.out]; exact Nat.le_refl _), ?_, ?_⟩
            · have := owed_len HT.out HEn.out HSl.out Hql.out
              rwa [Hcl.out] at this
            · have h2 := pick_len (fun s => !has ((cos fs).getD q c0) s) ss
              have h3 := Ends.le (tog_of HT.out) HEn.out.1
              have h4 := HSl.out.1
              unfold lacks
              omega
          have HLq : Hid (∀ (X : World) (a : Option Addr) (cc : Nat) (xs : List Fl) (x : Fl), RdFs X a xs → cos xs = cos fs → x.Rd X → x.c = (cos fs).getD q c0 → c ≤ cc → cc ≤ 9223372036854775807 → Calls Try.prog 10 #[.int .i64 (baseOf (cos fs)), .agg x.cs.toArray, .slice a c cc] X fun e w' => ∃ la lc, e = .returned (.tuple #[.slice la (lacks (cos fs) q ss).length lc, .int .i64 0]) ∧ w'.ownsRow X.heap.size 40 2 (.slice la (lacks (cos fs) q ss).length lc) (lacks (cos fs) q ss).length (slCells (lacks (cos fs) q ss)) ∧ Below X.heap.size X w') := fun X a cc xs x h1 h2 h3 h4 h5 h6 => Hsl.out X a cc q n xs x ss h1 h2 h3 h4 h5 h6 HT.out H16.out hlt HEn.out HSl.out
          generalize fs.getD q fl0 = fq at HRq HOq Hl7
          as_aux_lemma =>
          go_upto_region 17 with (first
            | (refine load_mid 35 (.tmp 63) (HRq.out wr HBw.out) _ Try.underlying35 rfl (by rw [Hl7.out]; exact info_flush) rfl rfl rfl ?_)
            | (go_at_call 11; refine (HOq.out wr HBw.out).mono ?_; rintro e Y1 ⟨x, rfl, hx1, hx2, hy1⟩; have HX1 : Hid _ := hx1; have HX2 : Hid (x.Rd Y1) := hx2; have BY1 : Hid (Below wr.heap.size wr Y1) := hy1; clear hx1 hx2 hy1)
            | (go_at_call 7; refine (HMy.out Y1 (bstep HBw.out BY1.out)).mono ?_; rintro e Y2 ⟨ma, mc, xs2, rfl, hm1, hm2, hm3, hm4, hy2⟩; have HM1 : Hid _ := hm1; have HM2 : Hid (RdFs Y2 ma xs2) := hm2; have HM3 : Hid (c ≤ mc) := hm3; have HM4 : Hid (mc ≤ 9223372036854775807) := hm4; have BY2 : Hid (Below Y1.heap.size Y1 Y2) := hy2; clear hm1 hm2 hm3 hm4 hy2)
            | (go_at_call 10; refine (HLq.out Y2 ma mc xs2 x HM2.out HM1.out (HX2.out.still BY2.out) HX1.out HM3.out HM4.out).mono ?_; rintro e Y3 ⟨la, lc, rfl, ho3, hy3⟩; have HO3 : Hid _ := ho3; have BY3 : Hid (Below Y2.heap.size Y2 Y3) := hy3; clear ho3 hy3)
            | fail)
          have BW3 : Hid (Below wr.heap.size wr Y3) := bstep (bstep BY1.out BY2.out) BY3.out
          have HOl : Hid (Y3.ownsRow 0 40 2 (.slice la (lacks (cos fs) q ss).length lc) (lacks (cos fs) q ss).length (slCells (lacks (cos fs) q ss))) := own_lower HO3.out (Nat.zero_le _)
          have HWq : Hid (RdI Y3 wa (rng c)) := HW.out.still (bstep HBq.out BW3.out)
          have HB3 : Hid (Below w.heap.size w Y3) := bstep HBw.out BW3.out
          have HB5 : Hid (Below W5.heap.size W5 Y3) := bstep HBq.out BW3.out
          clear HRq HOq BY1 BY2 BY3 HX1 HX2 HM1 HM2 HM3 HM4 HO3 BW3 HLq Hl7
          go_wp2
          go_loopw [11, 12] (fun ov i wr => ∃ p : Nat, p ≤ c ∧ i = .int .i64 p ∧ wr.ownsRow Y3.heap.size 40 2 ov (owed (cos fs) q ss p).length (slCells (owed (cos fs) q ss p)) ∧ Below Y3.heap.size Y3 wr) (fun _ i _ => c - (intOf i).toNat)
          case atStart => exact ⟨0, Nat.zero_le _, rfl, ⟨rfl, .inl ⟨rfl, rfl⟩⟩, Below.refl _ _⟩
          case round =>
            obtain ⟨p, hp, rfl, ho, hb⟩ := hrel
            have HO : Hid (wr.ownsRow Y3.heap.size 40 2 u11 (owed (cos fs) q ss p).length (slCells (owed (cos fs) q ss p))) := ho
            have HBp : Hid (Below Y3.heap.size Y3 wr) := hb
            have HBv : Hid (Below w.heap.size w wr) := bstep HB3.out hb
            clear ho hb
            have p1 : (0 : Int) ≤ (p : Int) := Int.natCast_nonneg _
            by_cases hpt : p < c
            · have p2 : (p : Int) < (c : Int) := by omega
              by_cases hpq : p = q
              · have Hsu : Hid (owed (cos fs) q ss (p + 1) = owed (cos fs) q ss p) := (show owed (cos fs) q ss (p + 1) = owed (cos fs) q ss p from by rw [owed_succ, if_pos hpq]; simp)
                have hpq2 : ((p : Int) == (q : Int)) = true := by rw [hpq]; simp
                clear hpq
                go_wp2
                refine ⟨⟨p + 1, by omega, by go_num, ?_, HBp.out⟩, by simp [intOf]; omega⟩
                rw [Hsu.out]
                exact HO.out
              · have Hsu : Hid (owed (cos fs) q ss (p + 1) = owed (cos fs) q ss p ++ owe (cos fs) q ss p) := (show owed (cos fs) q ss (p + 1) = owed (cos fs) q ss p ++ owe (cos fs) q ss p from by rw [owed_succ, if_neg hpq])
                have hpq2 : ((p : Int) == (q : Int)) = false := by simp; omega
                have HDq : Hid (∀ (X : World) (a : Option Addr) (cc : Nat) (xs : List Fl), RdI X wa (rng c) → RdFs X a xs → cos xs = cos fs → Calls Try.prog 12 #[.int .i64 (p : Int), .int .i64 (q : Int), .slice wa c wc, .slice a c cc] X fun e w' => ∃ la lc, e = .returned (.tuple #[.slice la (owe (cos fs) q ss p).length lc, .int .i64 0]) ∧ w'.ownsRow X.heap.size 40 2 (.slice la (owe (cos fs) q ss p).length lc) (owe (cos fs) q ss p).length (slCells (owe (cos fs) q ss p)) ∧ Below X.heap.size X w') := fun X a cc xs h1 h2 h3 => Hsd.out X a wa cc wc p q n xs ss h1 h2 h3 HT.out H16.out hpt hlt hpq HEn.out HSl.out
                have Hpl : Hid (p < (cos fs).length) := (show p < (cos fs).length from by rw [Hcl.out]; exact hpt)
                have HDf : Hid (∀ i, i < (owe (cos fs) q ss p).length → (owe (cos fs) q ss p).getD i z2 ∈ lacks (cos fs) q ss ∧ ∃ k : Nat, (owe (cos fs) q ss p).getD i z2 = ((k : Int), ((owe (cos fs) q ss p).getD i z2).2) ∧ k < (fs.getD p fl0).c.hv.length ∧ k < (fs.getD q fl0).c.hv.length ∧ decide (((owe (cos fs) q ss p).getD i z2).2 ≤ (fs.getD p fl0).c.hv.getD k 0) = true ∧ decide (((owe (cos fs) q ss p).getD i z2).2 ≤ (fs.getD q fl0).c.hv.getD k 0) = false) := fun i hi => by
                  have hm : (owe (cos fs) q ss p).getD i z2 ∈ owe (cos fs) q ss p := by
                    simp only [List.getD, List.getElem?_eq_getElem hi, Option.getD_some]
                    exact List.getElem_mem hi
                  have := owe_facts HT.out Hpl.out Hql.out hm
                  rw [cos_at, cos_at] at this
                  exact this
                have Hlen : Hid ((owed (cos fs) q ss p).length ≤ 4096 ∧ (owe (cos fs) q ss p).length ≤ 128) := by
                  have h3 := Ends.le (tog_of HT.out) HEn.out.1
                  have h4 := HSl.out.1
                  have h5 : ∀ k, (owed (cos fs) q ss k).length ≤ k * 128 := fun k => by
                    induction k with
                    | zero => simp [owed]
                    | succ k ih =>
                      rw [owed_succ, List.length_append]
                      have : (if k = q then [] else owe (cos fs) q ss k).length ≤ 128 := by
                        split
                        · simp
                        · have := pick_len (duP (cos fs) (rng (cos fs).length) k k q) ss
                          unfold owe
                          omega
                      omega
                  have h6 := h5 p
                  have h7 := H16.out
                  refine ⟨by omega, ?_⟩
                  have := pick_len (duP (cos fs) (rng (cos fs).length) p p q) ss
                  unfold owe
                  omega
                generalize owe (cos fs) q ss p = dl at *
                generalize hon : (owed (cos fs) q ss p).length = on at *
                clear hpq
                as_aux_lemma =>
                go_upto_region 25 with (first
                  | (go_at_call 7; refine (HMy.out wr HBv.out).mono ?_; rintro e Y4 ⟨na, nc, xs3, rfl, hm1, hm2, -, -, hy4⟩; have HM1 : Hid _ := hm1; have HM2 : Hid (RdFs Y4 na xs3) := hm2; have BY4 : Hid (Below wr.heap.size wr Y4) := hy4; clear hm1 hm2 hy4)
                  | (go_at_call 12; refine (HDq.out Y4 na nc xs3 (HWq.out.still (bstep HBp.out BY4.out)) HM2.out HM1.out).mono ?_; rintro e Y5 ⟨da, dc, rfl, ho5, hy5⟩; have HO5 : Hid _ := ho5; have BY5 : Hid (Below wr.heap.size wr Y5) := bstep BY4.out hy5; clear ho5 hy5)
                  | (refine app_g rfl _ _ 29 rfl Y3.heap.size 40 si (.agg #[.int .i64 0, .int .i64 0]) 2 16 Try.underlying29 shi shz0 shz1 shz2 rfl (by omega) u11 on (slCells (owed (cos fs) q ss p)) rfl (own_still HO.out BY5.out) da dl.length dc (slCells dl) rfl (own_nil HO5.out) (slCells_len dl) (rdS_news (own_rdS HO5.out rfl)) (slCells_one dl) (by have := Hlen.out; unfold maxLen; omega) (by have := Hlen.out; omega) (bstep HBp.out BY5.out).size ?_; intro ov2 Y6 ho6 hk6 hob6)
                  | fail)
                have HO6 : Hid (Y6.ownsRow Y3.heap.size 40 2 ov2 (owed (cos fs) q ss (p + 1)).length (slCells (owed (cos fs) q ss (p + 1)))) := (show Y6.ownsRow Y3.heap.size 40 2 ov2 (owed (cos fs) q ss (p + 1)).length (slCells (owed (cos fs) q ss (p + 1))) from by
                  rw [Hsu.out, List.length_append, hon, slCells_cat]
                  exact ho6.out)
                have BY6 : Hid (Below Y3.heap.size Y3 Y6) := (show Below Y3.heap.size Y3 Y6 from by
                  have hz := bstep HBp.out BY5.out
                  refine hz.trans (hk6.out.below hz.size (fun k hk e => ?_))
                  have := (row_cells (own_still HO.out BY5.out) e).1
                  omega)
                have HOd : Hid (Y6.ownsRow 0 40 2 (.slice da dl.length dc) dl.length (slCells dl)) := (show Y6.ownsRow 0 40 2 (.slice da dl.length dc) dl.length (slCells dl) from by
                  refine hk6.out.owns (own_lower HO5.out (Nat.zero_le _)) (fun g hg e => ?_)
                  have h1 := (row_cells HO5.out hg).1
                  have h2 := (row_cells HO.out e)
                  obtain ⟨_, cur, h3⟩ := h2
                  have h4 := (Array.getElem?_eq_some_iff.1 h3).1
                  have h5 := BY4.out.size
                  omega)
                have HRd : Hid (RdS Y6 da dl) := own_rdS HOd.out rfl
                have HLl : Hid (RdS Y6 la (lacks (cos fs) q ss)) := own_rdS (own_still HOl.out BY6.out) rfl
                have HBy : Hid (Below w.heap.size w Y6) := bstep HB3.out BY6.out
                have Hln : Hid ((lacks (cos fs) q ss).length ≤ 128) := HND.out.2.2.2
                clear HO HO5 BY4 BY5 HM1 HM2 HDq HOd hon
                generalize hdn : dl.length = dn at *
                have Hdn : Hid (dl.length = dn) := hdn
                have hdn128 : dn ≤ 128 := Hlen.out.2
                clear hdn
                go_wp2
                go_loopw [15] (fun i wr => ∃ j : Nat, j ≤ dn ∧ i = .int .i64 j ∧ Below Y6.heap.size Y6 wr) (fun i _ => dn - (intOf i).toNat)
                case atStart => exact ⟨0, Nat.zero_le _, rfl, Below.refl _ _⟩
                case round =>
                  as_aux_lemma =>
                  obtain ⟨j, hj, rfl, hb⟩ := hrel
                  have HBj : Hid (Below Y6.heap.size Y6 wr) := hb
                  have HBz : Hid (Below w.heap.size w wr.drew) := bstep (bstep HBy.out hb) (drew_bel wr)
                  clear hb
                  have j1 : (0 : Int) ≤ (j : Int) := Int.natCast_nonneg _
                  by_cases hjt : j < dn
                  · have j2 : (j : Int) < (dn : Int) := by omega
                    obtain ⟨hm, k, e, k1, k2, k3, k4⟩ := HDf.out j hjt
                    obtain ⟨db, doff, rfl, hcd, -, -⟩ := ((HRd.out.still HBj.out).still (drew_bel wr)).at (i := j) (by rw [Hdn.out]; exact hjt)
                    have HD : Hid (∀ X, Below wr.drew.heap.size wr.drew X → X.rangeAt db (doff + j * 2) (slotV (dl.getD j z2))) := fun X hX => range_on hcd hX
                    have HAm : Hid (Calls Try.prog 13 #[.slice la (lacks (cos fs) q ss).length lc, .agg (slotV (dl.getD j z2)).toArray] wr.drew fun e w' => e = .returned (.bool true) ∧ Below wr.drew.heap.size wr.drew w') := by
                      have := among_any (w := wr.drew) (cp := lc) ((HLl.out.still HBj.out).still (drew_bel wr)) (by have := Hln.out; omega) (dl.getD j z2)
                      rw [decide_eq_true hm] at this
                      exact this
                    have HP1 : Hid (∀ X, Below wr.drew.heap.size wr.drew X → X.cell? ⟨b, off + p * 7 + 6, none⟩ = some (.slice (fs.getD p fl0).ha (fs.getD p fl0).c.hv.length (fs.getD p fl0).hc)) := fun X hX => (HRy.out X (bstep HBz.out hX) p hpt).2.1
                    have HQ1 : Hid (∀ X, Below wr.drew.heap.size wr.drew X → X.cell? ⟨b, off + q * 7 + 6, none⟩ = some (.slice (fs.getD q fl0).ha (fs.getD q fl0).c.hv.length (fs.getD q fl0).hc)) := fun X hX => (HRy.out X (bstep HBz.out hX) q hlt).2.1
                    have HWp : Hid (∀ X, Below wr.drew.heap.size wr.drew X → Calls Try.prog 14 #[.slice (fs.getD p fl0).ha (fs.getD p fl0).c.hv.length (fs.getD p fl0).hc, .agg (slotV (dl.getD j z2)).toArray] X fun e w' => e = .returned (.bool true) ∧ Below X.heap.size X w') := fun X hX => by
                      have := lwithin_any (hc := (fs.getD p fl0).hc) (HRy.out X (bstep HBz.out hX) p hpt).2.2 k (dl.getD j z2).2 k1
                      rw [← e, k3] at this
                      exact this
                    have HWr : Hid (∀ X, Below wr.drew.heap.size wr.drew X → Calls Try.prog 14 #[.slice (fs.getD q fl0).ha (fs.getD q fl0).c.hv.length (fs.getD q fl0).hc, .agg (slotV (dl.getD j z2)).toArray] X fun e w' => e = .returned (.bool false) ∧ Below X.heap.size X w') := fun X hX => by
                      have := lwithin_any (hc := (fs.getD q fl0).hc) (HRy.out X (bstep HBz.out hX) q hlt).2.2 k (dl.getD j z2).2 k2
                      rw [← e, k4] at this
                      exact this
                    clear hm e k1 k2 k3 k4 hcd
                    generalize dl.getD j z2 = s at *
                    generalize hpn : (fs.getD p fl0).c.hv.length = pn at *
                    generalize (fs.getD p fl0).ha = pha at *
                    generalize (fs.getD p fl0).hc = phc at *
                    generalize hqn : (fs.getD q fl0).c.hv.length = qn at *
                    generalize (fs.getD q fl0).ha = qha at *
                    generalize (fs.getD q fl0).hc = qhc at *
                    generalize (lacks (cos fs) q ss).length = ln at *
                    clear hpn hqn
                    go_wp2_with (fail)
                    as_aux_lemma =>
                    refine wp_region_held_drew (S := (fun w' => Below wr.drew.heap.size wr.drew w')) (by kernel_rfl) (Below.refl _ _) (fun hHeld => ?_)
                    simp only [Act.put, List.size_toArray, List.length_cons, List.length_nil, Nat.zero_add]
                    refine wpAnyH_take (i := 0) (v := .slice la ln lc) rfl (by kernel_rfl) (by kernel_rfl) (by kernel_rfl) (fun _ _ _ h => h) (Or.inl ⟨by rfl, fun w' hS => by go_simp⟩) hHeld ?_
                    simp only [Act.put, List.getElem_toArray, List.getElem_cons_zero, List.getElem_cons_succ, List.setIfInBounds_toArray, List.set_cons_zero, List.set_cons_succ]
                    refine wpAnyH_take (i := 1) (v := .slice (some ⟨db, doff, none⟩) dn dc) rfl (by kernel_rfl) (by kernel_rfl) (by kernel_rfl) (fun _ _ _ h => h) (Or.inl ⟨by rfl, fun w' hS => by go_simp⟩) hHeld ?_
                    simp only [Act.put, List.getElem_toArray, List.getElem_cons_zero, List.getElem_cons_succ, List.setIfInBounds_toArray, List.set_cons_zero, List.set_cons_succ]
                    refine wpAnyH_take (i := 2) (v := .int .i64 (j : Int)) rfl (by kernel_rfl) (by kernel_rfl) (by kernel_rfl) (fun _ _ _ h => h) (Or.inl ⟨by rfl, fun w' hS => by go_simp⟩) hHeld ?_
                    simp only [Act.put, List.getElem_toArray, List.getElem_cons_zero, List.getElem_cons_succ, List.setIfInBounds_toArray, List.set_cons_zero, List.set_cons_succ]
                    refine wpAnyH_take (i := 3) (v := .pointer (some ⟨db, doff + j * 2, none⟩)) rfl (by kernel_rfl) (by kernel_rfl) (by kernel_rfl) (fun _ _ _ h => h) (Or.inl ⟨by rfl, fun w' hS => by go_simp⟩) hHeld ?_
                    simp only [Act.put, List.getElem_toArray, List.getElem_cons_zero, List.getElem_cons_succ, List.setIfInBounds_toArray, List.set_cons_zero, List.set_cons_succ]
                    refine wpAnyH_take (i := 4) (v := .agg (slotV s).toArray) rfl (by kernel_rfl) (by kernel_rfl) (by kernel_rfl) (fun _ _ _ h => h) (yieldsIf_load_mid (by rfl) 40 (.tmp 105) rfl db (doff + j * 2) (by rfl) (slotV s) _ (fun w' hS => HD.out w' hS) Try.underlying40 rfl info_slot) hHeld ?_
                    simp only [Act.put, List.getElem_toArray, List.getElem_cons_zero, List.getElem_cons_succ, List.setIfInBounds_toArray, List.set_cons_zero, List.set_cons_succ]
                    refine wpAnyH_ready (rs := [5]) (by kernel_rfl) (by simp) ?_
                    refine AllReadyH.cons rfl (fun K hK => ?_) AllReadyH.nil
                    go_simp
                    refine (HAm.out).mono ?_
                    rintro e X1 ⟨rfl, hx⟩
                    have BX1 : Hid (Below wr.drew.heap.size wr.drew X1) := hx
                    clear hx
                    refine hK.out _ _ BX1.out (fun hHeld => ?_)
                    clear hK K
                    refine wpAnyH_take (i := 6) (v := .bool false) rfl (by kernel_rfl) (by kernel_rfl) (by kernel_rfl) (fun _ _ _ h => h) (Or.inl ⟨by rfl, fun w' hS => by go_simp⟩) hHeld ?_
                    simp only [Act.put, List.getElem_toArray, List.getElem_cons_zero, List.getElem_cons_succ, List.setIfInBounds_toArray, List.set_cons_zero, List.set_cons_succ]
                    refine wpAnyH_take (i := 7) (v := .bool false) rfl (by kernel_rfl) (by kernel_rfl) (by kernel_rfl) (fun _ _ _ h => h) (Or.inl ⟨by rfl, fun w' hS => by go_simp⟩) hHeld ?_
                    simp only [Act.put, List.getElem_toArray, List.getElem_cons_zero, List.getElem_cons_succ, List.setIfInBounds_toArray, List.set_cons_zero, List.set_cons_succ]
                    as_aux_lemma =>
                    refine wpAnyH_take (i := 8) (v := .slice (some ⟨b, off, none⟩) c cp) rfl (by kernel_rfl) (by kernel_rfl) (by kernel_rfl) (fun _ _ _ h => h) (Or.inl ⟨by rfl, fun w' hS => by go_simp⟩) hHeld ?_
                    simp only [Act.put, List.getElem_toArray, List.getElem_cons_zero, List.getElem_cons_succ, List.setIfInBounds_toArray, List.set_cons_zero, List.set_cons_succ]
                    refine wpAnyH_take (i := 9) (v := .int .i64 (p : Int)) rfl (by kernel_rfl) (by kernel_rfl) (by kernel_rfl) (fun _ _ _ h => h) (Or.inl ⟨by rfl, fun w' hS => by go_simp⟩) hHeld ?_
                    simp only [Act.put, List.getElem_toArray, List.getElem_cons_zero, List.getElem_cons_succ, List.setIfInBounds_toArray, List.set_cons_zero, List.set_cons_succ]
                    refine wpAnyH_take (i := 10) (v := .pointer (some ⟨b, off + p * 7, none⟩)) rfl (by kernel_rfl) (by kernel_rfl) (by kernel_rfl) (fun _ _ _ h => h) (Or.inl ⟨by rfl, fun w' hS => by go_simp⟩) hHeld ?_
                    simp only [Act.put, List.getElem_toArray, List.getElem_cons_zero, List.getElem_cons_succ, List.setIfInBounds_toArray, List.set_cons_zero, List.set_cons_succ]
                    refine wpAnyH_take (i := 11) (v := .pointer (some ⟨b, off + p * 7 + 6, none⟩)) rfl (by kernel_rfl) (by kernel_rfl) (by kernel_rfl) (fun _ _ _ h => h) (Or.inl ⟨by rfl, fun w' hS => by go_simp⟩) hHeld ?_
                    simp only [Act.put, List.getElem_toArray, List.getElem_cons_zero, List.getElem_cons_succ, List.setIfInBounds_toArray, List.set_cons_zero, List.set_cons_succ]
                    refine wpAnyH_take (i := 12) (v := .slice pha pn phc) rfl (by kernel_rfl) (by kernel_rfl) (by kernel_rfl) (fun _ _ _ h => h) (Or.inl ⟨by rfl, fun w' hS => by (have q := HP1.out w' hS; go_simp)⟩) hHeld ?_
                    simp only [Act.put, List.getElem_toArray, List.getElem_cons_zero, List.getElem_cons_succ, List.setIfInBounds_toArray, List.set_cons_zero, List.set_cons_succ]
                    refine wpAnyH_take (i := 13) (v := .slice (some ⟨db, doff, none⟩) dn dc) rfl (by kernel_rfl) (by kernel_rfl) (by kernel_rfl) (fun _ _ _ h => h) (Or.inl ⟨by rfl, fun w' hS => by go_simp⟩) hHeld ?_
                    simp only [Act.put, List.getElem_toArray, List.getElem_cons_zero, List.getElem_cons_succ, List.setIfInBounds_toArray, List.set_cons_zero, List.set_cons_succ]
                    refine wpAnyH_take (i := 14) (v := .int .i64 (j : Int)) rfl (by kernel_rfl) (by kernel_rfl) (by kernel_rfl) (fun _ _ _ h => h) (Or.inl ⟨by rfl, fun w' hS => by go_simp⟩) hHeld ?_
                    simp only [Act.put, List.getElem_toArray, List.getElem_cons_zero, List.getElem_cons_succ, List.setIfInBounds_toArray, List.set_cons_zero, List.set_cons_succ]
                    refine wpAnyH_take (i := 15) (v := .pointer (some ⟨db, doff + j * 2, none⟩)) rfl (by kernel_rfl) (by kernel_rfl) (by kernel_rfl) (fun _ _ _ h => h) (Or.inl ⟨by rfl, fun w' hS => by go_simp⟩) hHeld ?_
                    simp only [Act.put, List.getElem_toArray, List.getElem_cons_zero, List.getElem_cons_succ, List.setIfInBounds_toArray, List.set_cons_zero, List.set_cons_succ]
                    refine wpAnyH_take (i := 16) (v := .agg (slotV s).toArray) rfl (by kernel_rfl) (by kernel_rfl) (by kernel_rfl) (fun _ _ _ h => h) (yieldsIf_load_mid (by rfl) 40 (.tmp 117) rfl db (doff + j * 2) (by rfl) (slotV s) _ (fun w' hS => HD.out w' hS) Try.underlying40 rfl info_slot) hHeld ?_
                    simp only [Act.put, List.getElem_toArray, List.getElem_cons_zero, List.getElem_cons_succ, List.setIfInBounds_toArray, List.set_cons_zero, List.set_cons_succ]
                    refine wpAnyH_ready (rs := [17]) (by kernel_rfl) (by simp) ?_
                    refine AllReadyH.cons rfl (fun K hK => ?_) AllReadyH.nil
                    go_simp
                    refine (HWp.out _ BX1.out).mono ?_
                    rintro e X2 ⟨rfl, hx⟩
                    have BX2 : Hid (Below wr.drew.heap.size wr.drew X2) := bstep BX1.out hx
                    clear hx
                    refine hK.out _ _ BX2.out (fun hHeld => ?_)
                    clear hK K
                    refine wpAnyH_take (i := 18) (v := .bool false) rfl (by kernel_rfl) (by kernel_rfl) (by kernel_rfl) (fun _ _ _ h => h) (Or.inl ⟨by rfl, fun w' hS => by go_simp⟩) hHeld ?_
                    simp only [Act.put, List.getElem_toArray, List.getElem_cons_zero, List.getElem_cons_succ, List.setIfInBounds_toArray, List.set_cons_zero, List.set_cons_succ]
                    refine wpAnyH_take (i := 19) (v := .bool false) rfl (by kernel_rfl) (by kernel_rfl) (by kernel_rfl) (fun _ _ _ h => h) (Or.inl ⟨by rfl, fun w' hS => by go_simp⟩) hHeld ?_
                    simp only [Act.put, List.getElem_toArray, List.getElem_cons_zero, List.getElem_cons_succ, List.setIfInBounds_toArray, List.set_cons_zero, List.set_cons_succ]
                    refine wpAnyH_take (i := 20) (v := .bool false) rfl (by kernel_rfl) (by kernel_rfl) (by kernel_rfl) (fun _ _ _ h => h) (Or.inl ⟨by rfl, fun w' hS => by go_simp⟩) hHeld ?_
                    simp only [Act.put, List.getElem_toArray, List.getElem_cons_zero, List.getElem_cons_succ, List.setIfInBounds_toArray, List.set_cons_zero, List.set_cons_succ]
                    as_aux_lemma =>
                    refine wpAnyH_take (i := 21) (v := .slice (some ⟨b, off, none⟩) c cp) rfl (by kernel_rfl) (by kernel_rfl) (by kernel_rfl) (fun _ _ _ h => h) (Or.inl ⟨by rfl, fun w' hS => by go_simp⟩) hHeld ?_
                    simp only [Act.put, List.getElem_toArray, List.getElem_cons_zero, List.getElem_cons_succ, List.setIfInBounds_toArray, List.set_cons_zero, List.set_cons_succ]
                    refine wpAnyH_take (i := 22) (v := .int .i64 (q : Int)) rfl (by kernel_rfl) (by kernel_rfl) (by kernel_rfl) (fun _ _ _ h => h) (Or.inl ⟨by rfl, fun w' hS => by go_simp⟩) hHeld ?_
                    simp only [Act.put, List.getElem_toArray, List.getElem_cons_zero, List.getElem_cons_succ, List.setIfInBounds_toArray, List.set_cons_zero, List.set_cons_succ]
                    refine wpAnyH_take (i := 23) (v := .pointer (some ⟨b, off + q * 7, none⟩)) rfl (by kernel_rfl) (by kernel_rfl) (by kernel_rfl) (fun _ _ _ h => h) (Or.inl ⟨by rfl, fun w' hS => by go_simp⟩) hHeld ?_
                    simp only [Act.put, List.getElem_toArray, List.getElem_cons_zero, List.getElem_cons_succ, List.setIfInBounds_toArray, List.set_cons_zero, List.set_cons_succ]
                    refine wpAnyH_take (i := 24) (v := .pointer (some ⟨b, off + q * 7 + 6, none⟩)) rfl (by kernel_rfl) (by kernel_rfl) (by kernel_rfl) (fun _ _ _ h => h) (Or.inl ⟨by rfl, fun w' hS => by go_simp⟩) hHeld ?_
                    simp only [Act.put, List.getElem_toArray, List.getElem_cons_zero, List.getElem_cons_succ, List.setIfInBounds_toArray, List.set_cons_zero, List.set_cons_succ]
                    refine wpAnyH_take (i := 25) (v := .slice qha qn qhc) rfl (by kernel_rfl) (by kernel_rfl) (by kernel_rfl) (fun _ _ _ h => h) (Or.inl ⟨by rfl, fun w' hS => by (have q := HQ1.out w' hS; go_simp)⟩) hHeld ?_
                    simp only [Act.put, List.getElem_toArray, List.getElem_cons_zero, List.getElem_cons_succ, List.setIfInBounds_toArray, List.set_cons_zero, List.set_cons_succ]
                    refine wpAnyH_take (i := 26) (v := .slice (some ⟨db, doff, none⟩) dn dc) rfl (by kernel_rfl) (by kernel_rfl) (by kernel_rfl) (fun _ _ _ h => h) (Or.inl ⟨by rfl, fun w' hS => by go_simp⟩) hHeld ?_
                    simp only [Act.put, List.getElem_toArray, List.getElem_cons_zero, List.getElem_cons_succ, List.setIfInBounds_toArray, List.set_cons_zero, List.set_cons_succ]
                    refine wpAnyH_take (i := 27) (v := .int .i64 (j : Int)) rfl (by kernel_rfl) (by kernel_rfl) (by kernel_rfl) (fun _ _ _ h => h) (Or.inl ⟨by rfl, fun w' hS => by go_simp⟩) hHeld ?_
                    simp only [Act.put, List.getElem_toArray, List.getElem_cons_zero, List.getElem_cons_succ, List.setIfInBounds_toArray, List.set_cons_zero, List.set_cons_succ]
                    refine wpAnyH_take (i := 28) (v := .pointer (some ⟨db, doff + j * 2, none⟩)) rfl (by kernel_rfl) (by kernel_rfl) (by kernel_rfl) (fun _ _ _ h => h) (Or.inl ⟨by rfl, fun w' hS => by go_simp⟩) hHeld ?_
                    simp only [Act.put, List.getElem_toArray, List.getElem_cons_zero, List.getElem_cons_succ, List.setIfInBounds_toArray, List.set_cons_zero, List.set_cons_succ]
                    refine wpAnyH_take (i := 29) (v := .agg (slotV s).toArray) rfl (by kernel_rfl) (by kernel_rfl) (by kernel_rfl) (fun _ _ _ h => h) (yieldsIf_load_mid (by rfl) 40 (.tmp 130) rfl db (doff + j * 2) (by rfl) (slotV s) _ (fun w' hS => HD.out w' hS) Try.underlying40 rfl info_slot) hHeld ?_
                    simp only [Act.put, List.getElem_toArray, List.getElem_cons_zero, List.getElem_cons_succ, List.setIfInBounds_toArray, List.set_cons_zero, List.set_cons_succ]
                    refine wpAnyH_ready (rs := [30]) (by kernel_rfl) (by simp) ?_
                    refine AllReadyH.cons rfl (fun K hK => ?_) AllReadyH.nil
                    go_simp
                    refine (HWr.out _ BX2.out).mono ?_
                    rintro e X3 ⟨rfl, hx⟩
                    have BX3 : Hid (Below wr.drew.heap.size wr.drew X3) := bstep BX2.out hx
                    clear hx
                    refine hK.out _ _ BX3.out (fun hHeld => ?_)
                    clear hK K
                    refine wpAnyH_take (i := 31) (v := .bool false) rfl (by kernel_rfl) (by kernel_rfl) (by kernel_rfl) (fun _ _ _ h => h) (Or.inl ⟨by rfl, fun w' hS => by go_simp⟩) hHeld ?_
                    simp only [Act.put, List.getElem_toArray, List.getElem_cons_zero, List.getElem_cons_succ, List.setIfInBounds_toArray, List.set_cons_zero, List.set_cons_succ]
                    refine wpAnyH_done (by kernel_rfl) ?_ _
                    clear hHeld
                    go_wp2
                    exact ⟨⟨j + 1, by omega, by go_num, bstep HBj.out (bstep (drew_bel wr) BX3.out)⟩, by simp [intOf]; omega⟩
                  · obtain rfl : j = dn := by omega
                    go_wp2
                    exact ⟨⟨p + 1, by omega, by go_num, own_still HO6.out HBj.out, bstep BY6.out HBj.out⟩, by simp [intOf]; omega⟩
            · obtain rfl : p = c := by omega
              clear hpt hp
              as_aux_lemma =>
              obtain ⟨h1, h2, h3, h4⟩ := HND.out
              have HN1 : Hid ((lacks (cos fs) q ss).Nodup) := h1
              have HN2 : Hid ((owed (cos fs) q ss p).Nodup) := h2
              obtain ⟨oa, oc, hov⟩ : ∃ oa oc, u11 = .slice oa (lacks (cos fs) q ss).length oc := by
                rcases own_two HO.out with ⟨e, h0⟩ | ⟨g, cc, e, _⟩
                · exact ⟨none, 0, by rw [← h3, h0]; exact e⟩
                · exact ⟨_, _, by rw [← h3]; exact e⟩
              subst hov
              have HOo : Hid (wr.ownsRow Y3.heap.size 40 2 (.slice oa (lacks (cos fs) q ss).length oc) (lacks (cos fs) q ss).length (slCells (owed (cos fs) q ss p))) := by
                have := HO.out
                rw [h3] at this
                exact this
              have Hol : Hid ((owed (cos fs) q ss p).length = (lacks (cos fs) q ss).length) := h3
              have HOl2 : Hid (wr.ownsRow 0 40 2 (.slice la (lacks (cos fs) q ss).length lc) (lacks (cos fs) q ss).length (slCells (lacks (cos fs) q ss))) := own_still HOl.out HBp.out
              have HT1 : Hid (Calls Try.prog 15 #[.slice oa (lacks (cos fs) q ss).length oc] wr fun e w' => e = .returned (.bool false) ∧ Below wr.heap.size wr w') := twice_any HOo.out Hol.out HN2.out (by omega)
              have HT2 : Hid (∀ X, Below wr.heap.size wr X → Calls Try.prog 15 #[.slice la (lacks (cos fs) q ss).length lc] X fun e w' => e = .returned (.bool false) ∧ Below X.heap.size X w') := fun X hX => twice_any (own_still HOl2.out hX) rfl HN1.out (by omega)
              generalize (lacks (cos fs) q ss).length = ln at *
              clear h1 h2 h3
              go_wp2_with (first
                | (go_at_call 15; have hz := BQ1; refine (HT2.out _ BQ1.out).mono ?_; rintro e Q2 ⟨rfl, hq2⟩; have BQ2 : Hid (Below wr.heap.size wr Q2) := bstep BQ1.out hq2; clear hq2 hz)
                | (go_at_call 15; refine HT1.out.mono ?_; rintro e Q1 ⟨rfl, hq1⟩; have BQ1 : Hid (Below wr.heap.size wr Q1) := hq1; clear hq1)
                | fail)
              exact ⟨⟨q + 1, by omega, by go_num, bstep (bstep HB5.out HBp.out) BQ2.out⟩, by simp [intOf]; omega⟩
        · obtain rfl : q = c := by omega
          go_wp2
          go_ret
          exact ⟨rfl, HBw.out⟩
end
end Go.Proofs.Ytpkcgjnaegaecaa.Fm
