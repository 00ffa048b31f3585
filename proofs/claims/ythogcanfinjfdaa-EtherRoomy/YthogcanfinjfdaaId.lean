import Derived.Test.YthogcanfinjfdaaIc
namespace Go.Proofs.Ythogcanfinjfdaa.Et
open Go.RowKit Go.Maps
set_option linter.unusedVariables false
set_option linter.unusedSimpArgs false
set_option maxRecDepth 100000
section
variable {E E1 E' : En} {w w' w1 w2 w3 : World} {B K m : Nat}
theorem u8_range (x : Int) : 0 ≤ IntKind.u8.wrap x ∧ IntKind.u8.wrap x ≤ 255 := by
  simp only [IntKind.wrap, IntKind.bits, IntKind.signed]
  simp
  omega
theorem rd_one (W : World) (x : Int) (h : 0 ≤ x ∧ x ≤ 255) : Rd (W.alloc (.cells #[.int .u8 x] 5)) (some ⟨W.heap.size, 0, none⟩) 1 1 [x] := by
  refine ⟨rfl, (fun e => by cases e), Or.inr ⟨W.heap.size, 0, rfl, fun i hi => ?_⟩, fun i => ?_⟩
  · obtain rfl : i = 0 := by omega
    exact blk_cell (heap_alloc_new W _) 0
  · cases i with
    | zero => exact h
    | succ i => simp
theorem incr {l : List Int} (h : l.Pairwise (fun a b => a < b)) {k : Nat} {x y : Int} (hx : l[k]? = some x) (hy : l[k + 1]? = some y) : x < y := by
  obtain ⟨h1, rfl⟩ := List.getElem?_eq_some_iff.1 hx
  obtain ⟨h2, rfl⟩ := List.getElem?_eq_some_iff.1 hy
  exact List.pairwise_iff_getElem.1 h k (k + 1) h1 h2 (by omega)

theorem at_inv {j : Nat} {f : Fx} (h : Inv E K) (hd : (E.fs.map Fx.d)[j]? = some f.d) : E.clock < f.due ∧ (E.fs.map Fx.id)[j]? = some f.id := by
  rw [List.getElem?_map] at hd
  obtain ⟨f', h1, h2⟩ := Option.map_eq_some_iff.1 hd
  have h3 : f'.due = f.due := congrArg Fd.due h2
  have h4 : f'.id = f.id := congrArg Fd.id h2
  refine ⟨?_, by rw [List.getElem?_map, h1]; exact congrArg some h4⟩
  have := (h.due f' (List.mem_of_getElem? h1)).1
  omega

set_option maxHeartbeats 400000 in
theorem roomy_bad (nd rm room : Int) (oa : Option Addr) (n oc : Nat) (hb : room < 1 ∨ 20000 < room) : Calls Try.prog 4 #[.agg (kc nd rm oa n oc), .int .i64 room] w fun e w' => e = .returned (.bool true) ∧ Below w.heap.size w w' := by
  have HA : Hid (∀ wx, Calls Try.prog 9 #[.int .i64 2, .int .i64 room] wx fun e w' => e = .returned (.tuple #[.pointer none, .int .i64 1]) ∧ wx = w') := fun wx => new_no 2 room (by unfold badNew; omega)
  have Hb : Hid (Below w.heap.size w (w.alloc (.cells #[.int .i64 nd, .int .i64 rm, .slice oa n oc] 24))) := balloc (Below.refl _ w)
  unfold kc
  go_enter Try.func4, Try.ntmps4
  go_wp2_with (first | (go_at_call 9; refine (HA.out _).mono ?_; rintro e w1 ⟨rfl, rfl⟩) | fail)
  all_goals first | (exfalso; omega) | (go_ret; exact ⟨by simp, Hb.out⟩)

set_option maxHeartbeats 2000000 in
theorem roomy_ok (nd rm : Int) (rn : Nat) (oa : Option Addr) (n oc : Nat) (os : Nat → Opx) (h1 : 1 ≤ rn) (h2 : rn ≤ 20000) (ho : RdOps w oa n os) (hn : n ≤ 1759218604390) : Calls Try.prog 4 #[.agg (kc nd rm oa n oc), .int .i64 (rn : Int)] w fun e w' => e = .returned (.bool true) ∧ Below w.heap.size w w' := by
  generalize hW : w.alloc (.cells #[.int .i64 nd, .int .i64 rm, .slice oa n oc] 24) = W
  have hbW : Below w.heap.size w W := by rw [← hW]; exact balloc (Below.refl _ w)
  have hblk : W.heap[w.heap.size]? = some (.cells #[.int .i64 nd, .int .i64 rm, .slice oa n oc] 24 (0, 0)) := by rw [← hW]; exact heap_alloc_new w _
  have Hc : Hid (∀ w', Below W.heap.size W w' → w'.cell? ⟨w.heap.size, 2, none⟩ = some (.slice oa n oc)) := fun w' hb => below_at hb (blk_cell hblk 2)
  have HO : Hid (RdOps W oa n os) := ho.stay hbW
  have HA : Hid (Calls Try.prog 9 #[.int .i64 2, .int .i64 (rn : Int)] W fun e w' => ∃ b bn bc bd, e = .returned (.tuple #[.pointer (some ⟨b, 0, none⟩), .int .i64 0]) ∧ En.Ok (newE b bn bc bd 2 rn 2) w' W.heap.size 0 ∧ Below W.heap.size W w') := new_ok 2 (rn : Int) (by omega) (by omega) (by omega) (by omega)
  have Hb : Hid (Below w.heap.size w W) := hbW
  unfold kc
  clear hbW hblk ho
  go_enter Try.func4, Try.ntmps4
  go_wp2_with (fail)
  refine HA.out.mono ?_
  rintro e w1 ⟨b, bn, bc, bd, rfl, hE, hb1⟩
  have HE : Hid (En.Ok (newE b bn bc bd 2 rn 2) w1 W.heap.size 0) := hE
  have HB1 : Hid (Below W.heap.size W w1) := hb1
  have HF : Hid (Fr (newE b bn bc bd 2 rn 2) b rn 0 0 0) := fr_new b bn bc bd rn (by omega) (by omega)
  have r1 : (1 : Int) ≤ (rn : Int) := by omega
  have r2 : (rn : Int) ≤ 20000 := by omega
  clear hE hb1
  go_wp2
  go_loopw [7] (fun i wr => ∃ (k : Nat) (E : En), k ≤ rn ∧ i = .int .i64 ((k : Int) + 1) ∧ E.Ok wr W.heap.size 0 ∧ Fr E b rn k k k ∧ Below W.heap.size W wr) (fun i _ => rn + 1 - (intOf i).toNat)
  case atStart => exact ⟨0, _, Nat.zero_le _, rfl, HE.out, HF.out, HB1.out⟩
  case round =>
    obtain ⟨k, E, hk, rfl, he, hf, hl⟩ := hrel
    have hwz := hl.size
    obtain rfl := hf.eb
    by_cases hlt : k < rn
    · have HP : Hid (∀ x, 0 ≤ x ∧ x ≤ 255 → Calls Try.prog 14 #[.pointer (some ⟨E.b, 0, none⟩), .int .i64 1, .int .i64 0, .slice (some ⟨wr.heap.size, 0, none⟩) 1 1] (wr.alloc (.cells #[.int .u8 x] 5)) fun e w1 => e = .returned (.tuple #[.int .i64 ((k : Int) + 1), .int .i64 0]) ∧ ∃ E1, Step wr w1 E E1 W.heap.size 0 ∧ Fr E1 E.b rn (k + 1) (k + 1) (k + 1)) := by
        intro x hx
        have hb := (Below.refl wr.heap.size wr).alloc (Nat.le_refl _) (.cells #[.int .u8 x] 5)
        exact (post_yes (he.still hb) (Nat.le_trans hwz hb.size) hf (by omega) (by omega) 1 0 (by omega) (by omega) (by omega) 1 (by omega) [x] _ _ (rd_one wr x hx)).mono fun e w1 ⟨x1, E1, st, x2⟩ => ⟨x1, E1, st.pre hb, x2⟩
      have HEk : Hid (E.Ok wr W.heap.size 0) := he
      have HL : Hid (Below W.heap.size W wr) := hl
      have i1 : (0 : Int) ≤ (k : Int) := Int.natCast_nonneg _
      have i2 : (k : Int) < (rn : Int) := by omega
      have hu := u8_range ((k : Int) + 1)
      have HU : Hid (0 ≤ IntKind.u8.wrap ((k : Int) + 1) ∧ IntKind.u8.wrap ((k : Int) + 1) ≤ 255) := hu
      clear he hf hl hu
      go_wp2_with (fail)
      refine (HP.out _ HU.out).mono ?_
      rintro e w2 ⟨rfl, E1, st, hf1⟩
      have hl2 : Below W.heap.size W w2 := HL.out.trans (st.kept.below hwz (fun j hj e => by have := HEk.out.geOwn e; omega))
      have HS : Hid (E1.Ok w2 W.heap.size 0) := st.ok
      have HF1 : Hid (Fr E1 E.b rn (k + 1) (k + 1) (k + 1)) := hf1
      clear st hf1
      go_wp2
      exact ⟨⟨k + 1, E1, by omega, by go_num, HS.out, HF1.out, hl2⟩, by simp [intOf]; omega⟩
    · obtain rfl : k = rn := by omega
      have HN : Hid (Calls Try.prog 14 #[.pointer (some ⟨E.b, 0, none⟩), .int .i64 1, .int .i64 0, .slice none 0 0] wr fun e w1 => e = .returned (.tuple #[.int .i64 0, .int .i64 31]) ∧ Below wr.heap.size wr w1) := post_no he hf (Int.le_refl _) 1 0 (by omega) (by omega) (by omega) 0 (by omega) none 0
      have HEk : Hid (E.Ok wr W.heap.size 0) := he
      have HFk : Hid (Fr E E.b k k k k) := hf
      have HL : Hid (Below W.heap.size W wr) := hl
      clear he hf hl
      go_wp2_with (fail)
      refine HN.out.mono ?_
      rintro e w2 ⟨rfl, hb2⟩
      have HB2 : Hid (Below wr.heap.size wr w2) := hb2
      have HD : Hid (∀ w', Below w2.heap.size w2 w' → Calls Try.prog 13 #[.pointer (some ⟨E.b, 0, none⟩), .agg #[.int .i64 13, .int .i64 ((k : Int) - 1), .int .i64 0, .int .i64 0, .slice none 0 0, .int .i64 0, .int .i64 0, .int .i64 0, .int .i64 0, .string ByteArray.empty, .string ByteArray.empty, .string ByteArray.empty, .slice none 0 0]] w' fun e w1 => e = .returned (.int .i64 31) ∧ Below w'.heap.size w' w1) := fun w' hb => dup_no ((HEk.out.still hb2).still hb) HFk.out (Int.le_refl _) rfl h1
      clear hb2
      go_wp2_with (fail)
      refine (HD.out _ (Below.refl _ _)).mono ?_
      rintro e w3 ⟨rfl, hb3⟩
      have HB3 : Hid (Below wr.heap.size wr w3) := bstep HB2.out hb3
      have HDr : Hid (Calls Try.prog 13 #[.pointer (some ⟨E.b, 0, none⟩), .agg #[.int .i64 12, .int .i64 ((k : Int) - 1), .int .i64 0, .int .i64 0, .slice none 0 0, .int .i64 0, .int .i64 0, .int .i64 0, .int .i64 0, .string ByteArray.empty, .string ByteArray.empty, .string ByteArray.empty, .slice none 0 0]] w3 fun e w1 => e = .returned (.int .i64 0) ∧ ∃ E1, Step w3 w1 E E1 W.heap.size 0 ∧ Fr E1 E.b k k (k - 1) (k + 1)) := drop_yes (HEk.out.still HB3.out) HFk.out rfl h1
      clear hb3
      go_wp2_with (fail)
      refine HDr.out.mono ?_
      rintro e w4 ⟨rfl, E1, st1, hf1⟩
      have hz3 : W.heap.size ≤ w3.heap.size := Nat.le_trans hwz HB3.out.size
      have HL4 : Hid (Below W.heap.size W w4) := (HL.out.trans (HB3.out.mono hwz)).trans (st1.kept.below hz3 (fun j hj e => by have := HEk.out.geOwn e; omega))
      have HE4 : Hid (E1.Ok w4 W.heap.size 0) := st1.ok
      have HF4 : Hid (Fr E1 E.b k k (k - 1) (k + 1)) := hf1
      have HPo : Hid (Calls Try.prog 14 #[.pointer (some ⟨E.b, 0, none⟩), .int .i64 0, .int .i64 1, .slice none 0 0] w4 fun e w1 => e = .returned (.tuple #[.int .i64 ((k : Int) + 1), .int .i64 0]) ∧ ∃ E2, Step w4 w1 E1 E2 W.heap.size 0 ∧ Fr E2 E.b k (k + 1) (k - 1 + 1) (k + 1 + 1)) := by
        have := post_yes st1.ok (Nat.le_trans hz3 st1.kept.size) hf1 (by omega) (by omega) 0 1 (by omega) (by omega) (by omega) 0 (by omega) [] none 0 (rd_none _)
        rw [hf1.eb] at this
        exact this
      clear st1 hf1
      go_wp2_with (fail)
      refine HPo.out.mono ?_
      rintro e w5 ⟨rfl, E2, st2, hf2⟩
      have hz4 : W.heap.size ≤ w4.heap.size := HL4.out.size
      have HL5 : Hid (Below W.heap.size W w5) := HL4.out.trans (st2.kept.below hz4 (fun j hj e => by have := HE4.out.geOwn e; omega))
      have HE5 : Hid (E2.Ok w5 W.heap.size (256 * (k + 2))) := st2.ok.mono (by omega)
      have HI5 : Hid (Inv E2 (k + 2) ∧ E2.b = E.b ∧ E2.room = k) := ⟨hf2.inv, hf2.eb, hf2.rm⟩
      have c5 := Hc.out _ HL5.out
      clear st2 hf2
      go_wp2
      generalize hEb : E.b = eb at *
      clear hEb HEk HFk HN HD HDr HPo HE4 HF4
      go_loopw [11] (fun i wr => ∃ (q : Nat) (E : En), q ≤ n ∧ i = .int .i64 q ∧ E.Ok wr W.heap.size (256 * (k + 2 + q)) ∧ Inv E (k + 2 + q) ∧ E.b = eb ∧ E.room = k ∧ Below W.heap.size W wr) (fun i _ => n - (intOf i).toNat)
      case atStart => exact ⟨0, E2, Nat.zero_le _, rfl, HE5.out, HI5.out.1, HI5.out.2.1, HI5.out.2.2, HL5.out⟩
      case round =>
        obtain ⟨q, E, hq, rfl, he, hi, rfl, hrm, hl⟩ := hrel
        have c6 := Hc.out _ hl
        by_cases hlt2 : q < n
        · obtain ⟨ob, off, hoa, x0, x1, x2, x3, x4, x5⟩ := HO.out.at hl hlt2
          have hin := HO.out.2 q hlt2
          obtain ⟨⟨bs, hbs⟩, ⟨xs, hxs⟩⟩ := hin.low hl
          have HP : Hid (Calls Try.prog 10 #[.pointer (some ⟨E.b, 0, none⟩), .agg #[.int .i64 (os q).k, .int .i64 (os q).p, .int .i64 (os q).q, .int .i64 (os q).n, .slice (os q).ba (os q).bn (os q).bc, .slice (os q).sa (os q).sn (os q).sc]] wr fun e w' => e = .returned (.tuple #[]) ∧ Goes wr w' E W.heap.size (k + 2 + q)) := play_any he hl.size hi (by omega) (os q) bs xs hbs hxs hin.2.2.1 hin.2.2.2.1 hin.2.2.2.2
          have HL6 : Hid (Below W.heap.size W wr) := hl
          have HE6 : Hid (E.Ok wr W.heap.size (256 * (k + 2 + q))) := he
          have i1 : (0 : Int) ≤ (q : Int) := Int.natCast_nonneg _
          have i2 : (q : Int) < (n : Int) := by omega
          generalize os q = o at x0 x1 x2 x3 x4 x5 HP
          rw [hoa] at c6
          clear he hi hl hin hbs hxs hoa c5
          go_wp2_with (fail)
          refine HP.out.mono ?_
          rintro e w6 ⟨rfl, E3, m3, st3, hm3, hx3⟩
          have HE7 : Hid (E3.Ok w6 W.heap.size (256 * (k + 2 + (q + 1)))) := st3.ok.mono (by omega)
          have HI7 : Hid (Inv E3 (k + 2 + (q + 1)) ∧ E3.b = E.b ∧ E3.room = k) := ⟨hx3.inv, hx3.b, hx3.room.trans hrm⟩
          have HL7 : Hid (Below W.heap.size W w6) := HL6.out.trans (st3.kept.below HL6.out.size (fun j hj e => by have := HE6.out.geOwn e; omega))
          have hle : E3.fs.length ≤ k := by have := HI7.out.1.few; have := HI7.out.2.2; omega
          have HFl : Hid (Calls Try.prog 17 #[.pointer (some ⟨E.b, 0, none⟩)] w6 fun e w' => ∃ a, e = .returned (.slice a E3.fs.length E3.fs.length) ∧ RdF w' a E3.fs.length (E3.fs.map Fx.d) ∧ Below w6.heap.size w6 w') := by
            have := flights_any st3.ok (by omega) hx3.inv.szE
            rw [hx3.b] at this
            exact this
          clear st3 hx3 x0 x1 x2 x3 x4 x5 c6
          go_wp2_with (fail)
          refine HFl.out.mono ?_
          rintro e w7 ⟨a, rfl, hrd, hb7⟩
          have HRd : Hid (RdF w7 a E3.fs.length (E3.fs.map Fx.d)) := hrd
          have HL8 : Hid (Below W.heap.size W w7) := HL7.out.trans (hb7.mono HL7.out.size)
          have HCk1 : Hid (∀ w', Below w7.heap.size w7 w' → Calls Try.prog 18 #[.pointer (some ⟨E.b, 0, none⟩)] w' fun e w'' => e = .returned (.int .i64 E3.clock) ∧ w' = w'') := by
            intro w' hb'
            have := clock_any ((HE7.out.still hb7).still hb')
            rw [HI7.out.2.1] at this
            exact this
          have HE8 : Hid (E3.Ok w7 W.heap.size (256 * (k + 2 + (q + 1)))) := HE7.out.still hb7
          have HAt : Hid (∀ j f, (E3.fs.map Fx.d)[j]? = some (Fx.d f) → E3.clock < f.due ∧ (E3.fs.map Fx.id)[j]? = some f.id) := fun j f hd => at_inv HI7.out.1 hd
          have HId : Hid ((E3.fs.map Fx.id).Pairwise (fun a b => a < b)) := HI7.out.1.ids
          have r5 : (E3.fs.length : Int) ≤ (k : Int) := by omega
          generalize E3.fs.length = L at HRd hle r5
          clear hrd hb7
          have r7 : decide (k < L) = false := by simp; omega
          have r8 : decide ((k : Int) < (L : Int)) = false := by simp; omega
          have r9 : ¬ ((k : Int) < (L : Int)) := by omega
          go_wp2
          go_loopw [13] (fun i wx => ∃ j : Nat, j ≤ L ∧ i = .int .i64 j ∧ Below w7.heap.size w7 wx) (fun i _ => L - (intOf i).toNat)
          case atStart => exact ⟨0, Nat.zero_le _, rfl, Below.refl _ _⟩
          case round =>
            obtain ⟨j, hj, rfl, hbw⟩ := hrel
            have HBw : Hid (Below w7.heap.size w7 wr) := hbw
            have hwr := (HRd.out.still hbw)
            have HRw : Hid (RdF wr a L (E3.fs.map Fx.d)) := hwr
            clear hbw hwr
            have j1 : (0 : Int) ≤ (j : Int) := Int.natCast_nonneg _
            by_cases hjl : j < L
            · obtain ⟨g, f, hg, hd, _, y0, _, _, y3, _⟩ := HRw.out.at hjl
              obtain ⟨hdue, hid⟩ := HAt.out j f hd
              have j2 : (j : Int) < (L : Int) := by omega
              have Hg : Hid (a = some ⟨g, 0, none⟩) := hg
              by_cases h0 : j = 0
              · subst h0
                have f' := f
                have y0 : wr.cell? ⟨g, 0, none⟩ = some (.int .i64 f.id) := by simpa using y0
                have y3 : wr.cell? ⟨g, 3, none⟩ = some (.int .i64 f.due) := by simpa using y3
                clear hd hid hg
                go_wp2
                refine wp_region_held_drew (S := (fun w' => w'.cell? ⟨g, 3, none⟩ = some (.int .i64 f.due) ∧ w'.cell? ⟨g, 0, none⟩ = some (.int .i64 f.id) ∧ w'.cell? ⟨g, 0, none⟩ = some (.int .i64 f.id))) (by kernel_rfl) ⟨y3, y0, y0⟩ (fun hHeld => ?_)
                simp only [Act.put, List.size_toArray, List.length_cons, List.length_nil, Nat.zero_add]
                refine wpAnyH_take (i := 0) (v := .slice a L L) rfl (by kernel_rfl) (by kernel_rfl) (by kernel_rfl) (fun _ _ _ h => h) (Or.inl ⟨by rfl, fun w' hS => by go_simp⟩) hHeld ?_
                simp only [Act.put, List.getElem_toArray, List.getElem_cons_zero, List.getElem_cons_succ, List.setIfInBounds_toArray, List.set_cons_zero, List.set_cons_succ]
                refine wpAnyH_take (i := 1) (v := .int .i64 0) rfl (by kernel_rfl) (by kernel_rfl) (by kernel_rfl) (fun _ _ _ h => h) (Or.inl ⟨by rfl, fun w' hS => by go_simp⟩) hHeld ?_
                simp only [Act.put, List.getElem_toArray, List.getElem_cons_zero, List.getElem_cons_succ, List.setIfInBounds_toArray, List.set_cons_zero, List.set_cons_succ]
                refine wpAnyH_take (i := 2) (v := .pointer (some ⟨g, 0, none⟩)) rfl (by kernel_rfl) (by kernel_rfl) (by kernel_rfl) (fun _ _ _ h => h) (Or.inl ⟨by rfl, fun w' hS => by (rw [Hg.out]; go_simp)⟩) hHeld ?_
                simp only [Act.put, List.getElem_toArray, List.getElem_cons_zero, List.getElem_cons_succ, List.setIfInBounds_toArray, List.set_cons_zero, List.set_cons_succ]
                refine wpAnyH_take (i := 3) (v := .pointer (some ⟨g, 3, none⟩)) rfl (by kernel_rfl) (by kernel_rfl) (by kernel_rfl) (fun _ _ _ h => h) (Or.inl ⟨by rfl, fun w' hS => by go_simp⟩) hHeld ?_
                simp only [Act.put, List.getElem_toArray, List.getElem_cons_zero, List.getElem_cons_succ, List.setIfInBounds_toArray, List.set_cons_zero, List.set_cons_succ]
                refine wpAnyH_take (i := 4) (v := .int .i64 f.due) rfl (by kernel_rfl) (by kernel_rfl) (by kernel_rfl) (fun _ _ _ h => h) (Or.inl ⟨by rfl, fun w' hS => by (obtain ⟨s0, s1, s2⟩ := hS; go_simp)⟩) hHeld ?_
                simp only [Act.put, List.getElem_toArray, List.getElem_cons_zero, List.getElem_cons_succ, List.setIfInBounds_toArray, List.set_cons_zero, List.set_cons_succ]
                refine wpAnyH_take (i := 5) (v := .pointer (some ⟨E.b, 0, none⟩)) rfl (by kernel_rfl) (by kernel_rfl) (by kernel_rfl) (fun _ _ _ h => h) (Or.inl ⟨by rfl, fun w' hS => by go_simp⟩) hHeld ?_
                simp only [Act.put, List.getElem_toArray, List.getElem_cons_zero, List.getElem_cons_succ, List.setIfInBounds_toArray, List.set_cons_zero, List.set_cons_succ]
                refine wpAnyH_ready (rs := [6]) (by kernel_rfl) (by simp) ?_
                refine AllReadyH.cons rfl (fun K hK => ?_) AllReadyH.nil
                go_simp
                refine (HCk1.out _ (by repeat (first | exact HBw.out | apply Below.drew))).mono ?_
                rintro e w8 ⟨rfl, rfl⟩
                refine hK.out _ _ ⟨y3, y0, y0⟩ (fun hHeld => ?_)
                clear hK K
                refine wpAnyH_take (i := 7) (v := .bool false) rfl (by kernel_rfl) (by kernel_rfl) (by kernel_rfl) (fun _ _ _ h => h) (Or.inl ⟨by rfl, fun w' hS => by go_simp⟩) hHeld ?_
                simp only [Act.put, List.getElem_toArray, List.getElem_cons_zero, List.getElem_cons_succ, List.setIfInBounds_toArray, List.set_cons_zero, List.set_cons_succ]
                refine wpAnyH_take (i := 8) (v := .bool false) rfl (by kernel_rfl) (by kernel_rfl) (by kernel_rfl) (fun _ _ _ h => h) (Or.inl ⟨by rfl, fun w' hS => by go_simp⟩) hHeld ?_
                simp only [Act.put, List.getElem_toArray, List.getElem_cons_zero, List.getElem_cons_succ, List.setIfInBounds_toArray, List.set_cons_zero, List.set_cons_succ]
                refine wpAnyH_take (i := 9) (v := .int .i64 0) rfl (by kernel_rfl) (by kernel_rfl) (by kernel_rfl) (fun _ _ _ h => h) (Or.inl ⟨by rfl, fun w' hS => by go_simp⟩) hHeld ?_
                simp only [Act.put, List.getElem_toArray, List.getElem_cons_zero, List.getElem_cons_succ, List.setIfInBounds_toArray, List.set_cons_zero, List.set_cons_succ]
                refine wpAnyH_take (i := 10) (v := .bool false) rfl (by kernel_rfl) (by kernel_rfl) (by kernel_rfl) (fun _ _ _ h => h) (Or.inl ⟨by rfl, fun w' hS => by go_simp⟩) hHeld ?_
                simp only [Act.put, List.getElem_toArray, List.getElem_cons_zero, List.getElem_cons_succ, List.setIfInBounds_toArray, List.set_cons_zero, List.set_cons_succ]
                refine wpAnyH_take (i := 11) (v := .bool false) rfl (by kernel_rfl) (by kernel_rfl) (by kernel_rfl) (fun _ _ _ h => h) (Or.inl ⟨by rfl, fun w' hS => by go_simp⟩) hHeld ?_
                simp only [Act.put, List.getElem_toArray, List.getElem_cons_zero, List.getElem_cons_succ, List.setIfInBounds_toArray, List.set_cons_zero, List.set_cons_succ]
                refine wpAnyH_take (i := 12) (v := undef) rfl (by kernel_rfl) (by kernel_rfl) (by kernel_rfl) (fun _ _ _ h => h) (Or.inr ⟨by rfl, rfl⟩) hHeld ?_
                simp only [Act.put, List.getElem_toArray, List.getElem_cons_zero, List.getElem_cons_succ, List.setIfInBounds_toArray, List.set_cons_zero, List.set_cons_succ]
                refine wpAnyH_take (i := 13) (v := undef) rfl (by kernel_rfl) (by kernel_rfl) (by kernel_rfl) (fun _ _ _ h => h) (Or.inr ⟨by rfl, rfl⟩) hHeld ?_
                simp only [Act.put, List.getElem_toArray, List.getElem_cons_zero, List.getElem_cons_succ, List.setIfInBounds_toArray, List.set_cons_zero, List.set_cons_succ]
                refine wpAnyH_take (i := 14) (v := undef) rfl (by kernel_rfl) (by kernel_rfl) (by kernel_rfl) (fun _ _ _ h => h) (Or.inr ⟨by rfl, rfl⟩) hHeld ?_
                simp only [Act.put, List.getElem_toArray, List.getElem_cons_zero, List.getElem_cons_succ, List.setIfInBounds_toArray, List.set_cons_zero, List.set_cons_succ]
                refine wpAnyH_take (i := 15) (v := undef) rfl (by kernel_rfl) (by kernel_rfl) (by kernel_rfl) (fun _ _ _ h => h) (Or.inr ⟨by rfl, rfl⟩) hHeld ?_
                simp only [Act.put, List.getElem_toArray, List.getElem_cons_zero, List.getElem_cons_succ, List.setIfInBounds_toArray, List.set_cons_zero, List.set_cons_succ]
                refine wpAnyH_take (i := 16) (v := undef) rfl (by kernel_rfl) (by kernel_rfl) (by kernel_rfl) (fun _ _ _ h => h) (Or.inr ⟨by rfl, rfl⟩) hHeld ?_
                simp only [Act.put, List.getElem_toArray, List.getElem_cons_zero, List.getElem_cons_succ, List.setIfInBounds_toArray, List.set_cons_zero, List.set_cons_succ]
                refine wpAnyH_take (i := 17) (v := undef) rfl (by kernel_rfl) (by kernel_rfl) (by kernel_rfl) (fun _ _ _ h => h) (Or.inr ⟨by rfl, rfl⟩) hHeld ?_
                simp only [Act.put, List.getElem_toArray, List.getElem_cons_zero, List.getElem_cons_succ, List.setIfInBounds_toArray, List.set_cons_zero, List.set_cons_succ]
                refine wpAnyH_take (i := 18) (v := undef) rfl (by kernel_rfl) (by kernel_rfl) (by kernel_rfl) (fun _ _ _ h => h) (Or.inr ⟨by rfl, rfl⟩) hHeld ?_
                simp only [Act.put, List.getElem_toArray, List.getElem_cons_zero, List.getElem_cons_succ, List.setIfInBounds_toArray, List.set_cons_zero, List.set_cons_succ]
                refine wpAnyH_take (i := 19) (v := undef) rfl (by kernel_rfl) (by kernel_rfl) (by kernel_rfl) (fun _ _ _ h => h) (Or.inr ⟨by rfl, rfl⟩) hHeld ?_
                simp only [Act.put, List.getElem_toArray, List.getElem_cons_zero, List.getElem_cons_succ, List.setIfInBounds_toArray, List.set_cons_zero, List.set_cons_succ]
                refine wpAnyH_take (i := 20) (v := undef) rfl (by kernel_rfl) (by kernel_rfl) (by kernel_rfl) (fun _ _ _ h => h) (Or.inr ⟨by rfl, rfl⟩) hHeld ?_
                simp only [Act.put, List.getElem_toArray, List.getElem_cons_zero, List.getElem_cons_succ, List.setIfInBounds_toArray, List.set_cons_zero, List.set_cons_succ]
                refine wpAnyH_take (i := 21) (v := undef) rfl (by kernel_rfl) (by kernel_rfl) (by kernel_rfl) (fun _ _ _ h => h) (Or.inr ⟨by rfl, rfl⟩) hHeld ?_
                simp only [Act.put, List.getElem_toArray, List.getElem_cons_zero, List.getElem_cons_succ, List.setIfInBounds_toArray, List.set_cons_zero, List.set_cons_succ]
                refine wpAnyH_take (i := 22) (v := undef) rfl (by kernel_rfl) (by kernel_rfl) (by kernel_rfl) (fun _ _ _ h => h) (Or.inr ⟨by rfl, rfl⟩) hHeld ?_
                simp only [Act.put, List.getElem_toArray, List.getElem_cons_zero, List.getElem_cons_succ, List.setIfInBounds_toArray, List.set_cons_zero, List.set_cons_succ]
                refine wpAnyH_take (i := 23) (v := undef) rfl (by kernel_rfl) (by kernel_rfl) (by kernel_rfl) (fun _ _ _ h => h) (Or.inr ⟨by rfl, rfl⟩) hHeld ?_
                simp only [Act.put, List.getElem_toArray, List.getElem_cons_zero, List.getElem_cons_succ, List.setIfInBounds_toArray, List.set_cons_zero, List.set_cons_succ]
                refine wpAnyH_take (i := 24) (v := .bool false) rfl (by kernel_rfl) (by kernel_rfl) (by kernel_rfl) (fun _ _ _ h => h) (Or.inl ⟨by rfl, fun w' hS => by go_simp⟩) hHeld ?_
                simp only [Act.put, List.getElem_toArray, List.getElem_cons_zero, List.getElem_cons_succ, List.setIfInBounds_toArray, List.set_cons_zero, List.set_cons_succ]
                refine wpAnyH_take (i := 25) (v := .bool false) rfl (by kernel_rfl) (by kernel_rfl) (by kernel_rfl) (fun _ _ _ h => h) (Or.inl ⟨by rfl, fun w' hS => by go_simp⟩) hHeld ?_
                simp only [Act.put, List.getElem_toArray, List.getElem_cons_zero, List.getElem_cons_succ, List.setIfInBounds_toArray, List.set_cons_zero, List.set_cons_succ]
                refine wpAnyH_done (by kernel_rfl) ?_ _
                clear hHeld
                go_wp2
                go_roundw
                case rel => exact ⟨1, by omega, by go_num, by repeat (first | exact HBw.out | apply Below.drew)⟩
                case measure => simp [intOf]; omega
              · obtain ⟨g', f', hg', hd', _, z0, _, _, _, _⟩ := HRw.out.at (show j - 1 < L by omega)
                obtain rfl : g = g' := by rw [hg] at hg'; simpa using hg'
                obtain ⟨_, hid'⟩ := HAt.out (j - 1) f' hd'
                have hlt3 := incr HId.out hid' (by rw [show j - 1 + 1 = j by omega]; exact hid)
                have j3 : (0 : Int) < (j : Int) := by omega
                have j8 : 0 < j := by omega
                have j9 : (1 : Int) ≤ (j : Int) := by omega
                have j4 : (0 : Int) ≤ (j : Int) - 1 := by omega
                have j5 : (j : Int) - 1 < (L : Int) := by omega
                have j6 : ((j : Int) - 1).toNat = j - 1 := by omega
                have j7 : IntKind.i64.wrap ((j : Int) - 1) = (j : Int) - 1 := wrap_id (by omega) (by omega)
                clear hd hid hd' hid' hg hg'
                go_wp2
                refine wp_region_held_drew (S := (fun w' => w'.cell? ⟨g, j * 5 + 3, none⟩ = some (.int .i64 f.due) ∧ w'.cell? ⟨g, j * 5, none⟩ = some (.int .i64 f.id) ∧ w'.cell? ⟨g, (j - 1) * 5, none⟩ = some (.int .i64 f'.id))) (by kernel_rfl) ⟨y3, y0, z0⟩ (fun hHeld => ?_)
                simp only [Act.put, List.size_toArray, List.length_cons, List.length_nil, Nat.zero_add]
                refine wpAnyH_take (i := 0) (v := .slice a L L) rfl (by kernel_rfl) (by kernel_rfl) (by kernel_rfl) (fun _ _ _ h => h) (Or.inl ⟨by rfl, fun w' hS => by go_simp⟩) hHeld ?_
                simp only [Act.put, List.getElem_toArray, List.getElem_cons_zero, List.getElem_cons_succ, List.setIfInBounds_toArray, List.set_cons_zero, List.set_cons_succ]
                refine wpAnyH_take (i := 1) (v := .int .i64 (j : Int)) rfl (by kernel_rfl) (by kernel_rfl) (by kernel_rfl) (fun _ _ _ h => h) (Or.inl ⟨by rfl, fun w' hS => by go_simp⟩) hHeld ?_
                simp only [Act.put, List.getElem_toArray, List.getElem_cons_zero, List.getElem_cons_succ, List.setIfInBounds_toArray, List.set_cons_zero, List.set_cons_succ]
                refine wpAnyH_take (i := 2) (v := .pointer (some ⟨g, j * 5, none⟩)) rfl (by kernel_rfl) (by kernel_rfl) (by kernel_rfl) (fun _ _ _ h => h) (Or.inl ⟨by rfl, fun w' hS => by (rw [Hg.out]; go_simp)⟩) hHeld ?_
                simp only [Act.put, List.getElem_toArray, List.getElem_cons_zero, List.getElem_cons_succ, List.setIfInBounds_toArray, List.set_cons_zero, List.set_cons_succ]
                refine wpAnyH_take (i := 3) (v := .pointer (some ⟨g, j * 5 + 3, none⟩)) rfl (by kernel_rfl) (by kernel_rfl) (by kernel_rfl) (fun _ _ _ h => h) (Or.inl ⟨by rfl, fun w' hS => by go_simp⟩) hHeld ?_
                simp only [Act.put, List.getElem_toArray, List.getElem_cons_zero, List.getElem_cons_succ, List.setIfInBounds_toArray, List.set_cons_zero, List.set_cons_succ]
                refine wpAnyH_take (i := 4) (v := .int .i64 f.due) rfl (by kernel_rfl) (by kernel_rfl) (by kernel_rfl) (fun _ _ _ h => h) (Or.inl ⟨by rfl, fun w' hS => by (obtain ⟨s0, s1, s2⟩ := hS; go_simp)⟩) hHeld ?_
                simp only [Act.put, List.getElem_toArray, List.getElem_cons_zero, List.getElem_cons_succ, List.setIfInBounds_toArray, List.set_cons_zero, List.set_cons_succ]
                refine wpAnyH_take (i := 5) (v := .pointer (some ⟨E.b, 0, none⟩)) rfl (by kernel_rfl) (by kernel_rfl) (by kernel_rfl) (fun _ _ _ h => h) (Or.inl ⟨by rfl, fun w' hS => by go_simp⟩) hHeld ?_
                simp only [Act.put, List.getElem_toArray, List.getElem_cons_zero, List.getElem_cons_succ, List.setIfInBounds_toArray, List.set_cons_zero, List.set_cons_succ]
                refine wpAnyH_ready (rs := [6]) (by kernel_rfl) (by simp) ?_
                refine AllReadyH.cons rfl (fun K hK => ?_) AllReadyH.nil
                go_simp
                refine (HCk1.out _ (by repeat (first | exact HBw.out | apply Below.drew))).mono ?_
                rintro e w8 ⟨rfl, rfl⟩
                refine hK.out _ _ ⟨y3, y0, z0⟩ (fun hHeld => ?_)
                clear hK K
                refine wpAnyH_take (i := 7) (v := .bool false) rfl (by kernel_rfl) (by kernel_rfl) (by kernel_rfl) (fun _ _ _ h => h) (Or.inl ⟨by rfl, fun w' hS => by go_simp⟩) hHeld ?_
                simp only [Act.put, List.getElem_toArray, List.getElem_cons_zero, List.getElem_cons_succ, List.setIfInBounds_toArray, List.set_cons_zero, List.set_cons_succ]
                refine wpAnyH_take (i := 8) (v := .bool false) rfl (by kernel_rfl) (by kernel_rfl) (by kernel_rfl) (fun _ _ _ h => h) (Or.inl ⟨by rfl, fun w' hS => by go_simp⟩) hHeld ?_
                simp only [Act.put, List.getElem_toArray, List.getElem_cons_zero, List.getElem_cons_succ, List.setIfInBounds_toArray, List.set_cons_zero, List.set_cons_succ]
                refine wpAnyH_take (i := 9) (v := .int .i64 (j : Int)) rfl (by kernel_rfl) (by kernel_rfl) (by kernel_rfl) (fun _ _ _ h => h) (Or.inl ⟨by rfl, fun w' hS => by go_simp⟩) hHeld ?_
                simp only [Act.put, List.getElem_toArray, List.getElem_cons_zero, List.getElem_cons_succ, List.setIfInBounds_toArray, List.set_cons_zero, List.set_cons_succ]
                refine wpAnyH_take (i := 10) (v := .bool true) rfl (by kernel_rfl) (by kernel_rfl) (by kernel_rfl) (fun _ _ _ h => h) (Or.inl ⟨by rfl, fun w' hS => by go_simp⟩) hHeld ?_
                simp only [Act.put, List.getElem_toArray, List.getElem_cons_zero, List.getElem_cons_succ, List.setIfInBounds_toArray, List.set_cons_zero, List.set_cons_succ]
                refine wpAnyH_take (i := 11) (v := .bool true) rfl (by kernel_rfl) (by kernel_rfl) (by kernel_rfl) (fun _ _ _ h => h) (Or.inl ⟨by rfl, fun w' hS => by go_simp⟩) hHeld ?_
                simp only [Act.put, List.getElem_toArray, List.getElem_cons_zero, List.getElem_cons_succ, List.setIfInBounds_toArray, List.set_cons_zero, List.set_cons_succ]
                refine wpAnyH_take (i := 12) (v := .slice a L L) rfl (by kernel_rfl) (by kernel_rfl) (by kernel_rfl) (fun _ _ _ h => h) (Or.inl ⟨by rfl, fun w' hS => by go_simp⟩) hHeld ?_
                simp only [Act.put, List.getElem_toArray, List.getElem_cons_zero, List.getElem_cons_succ, List.setIfInBounds_toArray, List.set_cons_zero, List.set_cons_succ]
                refine wpAnyH_take (i := 13) (v := .int .i64 (j : Int)) rfl (by kernel_rfl) (by kernel_rfl) (by kernel_rfl) (fun _ _ _ h => h) (Or.inl ⟨by rfl, fun w' hS => by go_simp⟩) hHeld ?_
                simp only [Act.put, List.getElem_toArray, List.getElem_cons_zero, List.getElem_cons_succ, List.setIfInBounds_toArray, List.set_cons_zero, List.set_cons_succ]
                refine wpAnyH_take (i := 14) (v := .pointer (some ⟨g, j * 5, none⟩)) rfl (by kernel_rfl) (by kernel_rfl) (by kernel_rfl) (fun _ _ _ h => h) (Or.inl ⟨by rfl, fun w' hS => by (rw [Hg.out]; go_simp)⟩) hHeld ?_
                simp only [Act.put, List.getElem_toArray, List.getElem_cons_zero, List.getElem_cons_succ, List.setIfInBounds_toArray, List.set_cons_zero, List.set_cons_succ]
                refine wpAnyH_take (i := 15) (v := .pointer (some ⟨g, j * 5, none⟩)) rfl (by kernel_rfl) (by kernel_rfl) (by kernel_rfl) (fun _ _ _ h => h) (Or.inl ⟨by rfl, fun w' hS => by go_simp⟩) hHeld ?_
                simp only [Act.put, List.getElem_toArray, List.getElem_cons_zero, List.getElem_cons_succ, List.setIfInBounds_toArray, List.set_cons_zero, List.set_cons_succ]
                refine wpAnyH_take (i := 16) (v := .int .i64 f.id) rfl (by kernel_rfl) (by kernel_rfl) (by kernel_rfl) (fun _ _ _ h => h) (Or.inl ⟨by rfl, fun w' hS => by (obtain ⟨s0, s1, s2⟩ := hS; go_simp)⟩) hHeld ?_
                simp only [Act.put, List.getElem_toArray, List.getElem_cons_zero, List.getElem_cons_succ, List.setIfInBounds_toArray, List.set_cons_zero, List.set_cons_succ]
                refine wpAnyH_take (i := 17) (v := .slice a L L) rfl (by kernel_rfl) (by kernel_rfl) (by kernel_rfl) (fun _ _ _ h => h) (Or.inl ⟨by rfl, fun w' hS => by go_simp⟩) hHeld ?_
                simp only [Act.put, List.getElem_toArray, List.getElem_cons_zero, List.getElem_cons_succ, List.setIfInBounds_toArray, List.set_cons_zero, List.set_cons_succ]
                refine wpAnyH_take (i := 18) (v := .int .i64 (j : Int)) rfl (by kernel_rfl) (by kernel_rfl) (by kernel_rfl) (fun _ _ _ h => h) (Or.inl ⟨by rfl, fun w' hS => by go_simp⟩) hHeld ?_
                simp only [Act.put, List.getElem_toArray, List.getElem_cons_zero, List.getElem_cons_succ, List.setIfInBounds_toArray, List.set_cons_zero, List.set_cons_succ]
                refine wpAnyH_take (i := 19) (v := .int .i64 ((j : Int) - 1)) rfl (by kernel_rfl) (by kernel_rfl) (by kernel_rfl) (fun _ _ _ h => h) (Or.inl ⟨by rfl, fun w' hS => by go_simp⟩) hHeld ?_
                simp only [Act.put, List.getElem_toArray, List.getElem_cons_zero, List.getElem_cons_succ, List.setIfInBounds_toArray, List.set_cons_zero, List.set_cons_succ]
                refine wpAnyH_take (i := 20) (v := .pointer (some ⟨g, (j - 1) * 5, none⟩)) rfl (by kernel_rfl) (by kernel_rfl) (by kernel_rfl) (fun _ _ _ h => h) (Or.inl ⟨by rfl, fun w' hS => by (rw [Hg.out]; go_simp)⟩) hHeld ?_
                simp only [Act.put, List.getElem_toArray, List.getElem_cons_zero, List.getElem_cons_succ, List.setIfInBounds_toArray, List.set_cons_zero, List.set_cons_succ]
                refine wpAnyH_take (i := 21) (v := .pointer (some ⟨g, (j - 1) * 5, none⟩)) rfl (by kernel_rfl) (by kernel_rfl) (by kernel_rfl) (fun _ _ _ h => h) (Or.inl ⟨by rfl, fun w' hS => by go_simp⟩) hHeld ?_
                simp only [Act.put, List.getElem_toArray, List.getElem_cons_zero, List.getElem_cons_succ, List.setIfInBounds_toArray, List.set_cons_zero, List.set_cons_succ]
                refine wpAnyH_take (i := 22) (v := .int .i64 f'.id) rfl (by kernel_rfl) (by kernel_rfl) (by kernel_rfl) (fun _ _ _ h => h) (Or.inl ⟨by rfl, fun w' hS => by (obtain ⟨s0, s1, s2⟩ := hS; go_simp)⟩) hHeld ?_
                simp only [Act.put, List.getElem_toArray, List.getElem_cons_zero, List.getElem_cons_succ, List.setIfInBounds_toArray, List.set_cons_zero, List.set_cons_succ]
                refine wpAnyH_take (i := 23) (v := .bool false) rfl (by kernel_rfl) (by kernel_rfl) (by kernel_rfl) (fun _ _ _ h => h) (Or.inl ⟨by rfl, fun w' hS => by go_simp⟩) hHeld ?_
                simp only [Act.put, List.getElem_toArray, List.getElem_cons_zero, List.getElem_cons_succ, List.setIfInBounds_toArray, List.set_cons_zero, List.set_cons_succ]
                refine wpAnyH_take (i := 24) (v := .bool false) rfl (by kernel_rfl) (by kernel_rfl) (by kernel_rfl) (fun _ _ _ h => h) (Or.inl ⟨by rfl, fun w' hS => by go_simp⟩) hHeld ?_
                simp only [Act.put, List.getElem_toArray, List.getElem_cons_zero, List.getElem_cons_succ, List.setIfInBounds_toArray, List.set_cons_zero, List.set_cons_succ]
                refine wpAnyH_take (i := 25) (v := .bool false) rfl (by kernel_rfl) (by kernel_rfl) (by kernel_rfl) (fun _ _ _ h => h) (Or.inl ⟨by rfl, fun w' hS => by go_simp⟩) hHeld ?_
                simp only [Act.put, List.getElem_toArray, List.getElem_cons_zero, List.getElem_cons_succ, List.setIfInBounds_toArray, List.set_cons_zero, List.set_cons_succ]
                refine wpAnyH_done (by kernel_rfl) ?_ _
                clear hHeld
                go_wp2
                go_roundw
                case rel => exact ⟨j + 1, by omega, by go_num, by repeat (first | exact HBw.out | apply Below.drew)⟩
                case measure => simp [intOf]; omega
            · obtain rfl : j = L := by omega
              go_wp2
              exact ⟨⟨q + 1, E3, by omega, by go_num, HE8.out.still HBw.out, HI7.out.1, HI7.out.2.1, HI7.out.2.2, HL8.out.trans (HBw.out.mono HL8.out.size)⟩, by simp [intOf]; omega⟩
        · obtain rfl : q = n := by omega
          go_wp2
          go_ret
          exact ⟨rfl, bstep Hb.out hl⟩
theorem roomy_any (nd rm room : Int) (oa : Option Addr) (n oc : Nat) (os : Nat → Opx) (ho : RdOps w oa n os) (hn : n ≤ 1759218604390) : Calls Try.prog 4 #[.agg (kc nd rm oa n oc), .int .i64 room] w fun e w' => e = .returned (.bool true) ∧ Below w.heap.size w w' := by
  by_cases hb : room < 1 ∨ 20000 < room
  · exact roomy_bad nd rm room oa n oc hb
  · obtain ⟨rn, rfl⟩ : ∃ rn : Nat, room = rn := ⟨room.toNat, by omega⟩
    exact roomy_ok nd rm rn oa n oc os (by omega) (by omega) ho hn
end
end Go.Proofs.Ythogcanfinjfdaa.Et
