import Derived.Test.YtmphabgpabbbjaaDoorUy0
namespace Go.Proofs.YtmphabgpabbbjaaDoor.Fg
open Go.RowKit Mb Ov
set_option linter.unusedVariables false
set_option maxRecDepth 100000
set_option linter.unusedSimpArgs false
section
variable {w w' W : World} {B : Nat}
set_option maxHeartbeats 8000000 in
theorem back_many {x : Int} {oa a1 a2 ta : Option Addr} {on oc n01 c1 n02 c2 tn tc : Nat} {os : Nat → Opx} {b01 b02 : List Int} {tf : Nat → Bool} (hm1' : (max 1 (min x 16)).toNat ≠ 1) (ho : RdOps w oa on os) (hon : on ≤ 4398046511104) (hr1 : Rd w a1 n01 c1 b01) (hn1 : n01 ≤ 140737488351232) (hr2 : Rd w a2 n02 c2 b02) (hn2 : n02 ≤ 140737488351232) (htu : RdBl w ta tn tf) (htn : tn ≤ 140737488351232) (hT : Tab w) : Calls Tryd.prog 5 #[.int .i64 x, .slice oa on oc, .slice a1 n01 c1, .slice a2 n02 c2, .slice ta tn tc] w fun e w' => e = .returned (.bool true) ∧ Below w.heap.size w w' := by
  obtain ⟨m, hm⟩ : ∃ m : Nat, (max 1 (min x 16)).toNat = m := ⟨_, rfl⟩
  have hm1 : 1 ≤ m := by omega
  have hm16 : m ≤ 16 := by omega
  rw [hm] at hm1'
  have HZ : Hid (Calls Tryd.prog 8 #[.int .i64 x] w fun e w' => e = .returned (.int .i64 (m : Int)) ∧ w = w') := (show Calls _ _ _ _ _ from by rw [← hm]; exact size_any x)
  have HO : Hid (RdOps w oa on os) := ho
  have H1 : Hid (Rd w a1 n01 c1 b01) := hr1
  have H2 : Hid (Rd w a2 n02 c2 b02) := hr2
  have HTu : Hid (RdBl w ta tn tf) := htu
  have HT : Hid (Tab w) := hT
  have h0B : 0 < w.heap.size := World.block_lt_of_cell? w _ (hT 0 (by omega))
  have HM : Hid (m ≠ 1) := hm1'
  clear hr1 hr2 htu hT hm ho
  go_enter Tryd.func5, Tryd.ntmps5
  go_wp2_with fail
  refine HZ.out.mono ?_
  rintro e w' ⟨rfl, rfl⟩
  go_wp2_with fail
  refine (new_ok hm1 hm16).mono ?_
  rintro e w1 ⟨jb, bp, rfl, hj1, hb1⟩
  have HG : Hid (Jg w w1 w.heap.size jb m (jnew jb bp m)) := ⟨hj1, rfl, rfl, hb1, hb1.size⟩
  generalize jnew jb bp m = J0 at *
  clear hj1 hb1 HZ
  go_wp2_with fail
  go_loopw [14] (fun v wr => ∃ (i : Nat) (J : Jn), i ≤ on ∧ v = .int .i64 (i : Int) ∧ Hid (Jg w wr w.heap.size jb m J)) (fun v _ => on - (intOf v).toNat)
  case atStart => exact ⟨0, J0, Nat.zero_le _, rfl, HG⟩
  case round =>
    clear HG
    obtain ⟨i, J, hi, rfl, HG⟩ := hrel
    by_cases hlt : i < on
    · obtain ⟨b, off, hoa, x0, x1, x2, hrd, hlm, hs1, hs2⟩ := HO.out.at (Below.refl _ w) hlt
      subst hoa
      have HTk : Hid (∀ w', Below wr.heap.size wr w' → Calls Tryd.prog 10 #[.pointer (some ⟨jb, 0, none⟩), .int .i64 (os i).s, .slice (os i).a (os i).m (os i).c] w' fun e w2 => ∃ v J', e = .returned v ∧ Jg w w2 w.heap.size jb m J') := fun w' hb => (HG.out.still hb).take (hrd.still (HG.out.bel.trans (hb.mono HG.out.hB))) (by omega) HT.out h0B
      generalize (os i).k = qk at *
      generalize (os i).s = qs at *
      generalize (os i).a = qa at *
      generalize (os i).m = qm at *
      generalize (os i).c = qc at *
      have i1 : (0 : Int) ≤ (i : Int) := Int.natCast_nonneg _
      have i2 : (i : Int) < (on : Int) := by omega
      have y0 := below_at HG.out.bel x0
      have y1 := below_at HG.out.bel x1
      have y2 := below_at HG.out.bel x2
      clear hrd
      by_cases h1 : qk = 1
      · subst h1
        go_wp2_with fail
        refine wp_region_held_drew (S := (fun w' => w'.cell? ⟨b, off + i * 3 + 1, none⟩ = some (.int .i64 qs) ∧ w'.cell? ⟨b, off + i * 3 + 2, none⟩ = some (.slice qa qm qc))) (by kernel_rfl) ⟨below_at (Below.refl _ _).drew y1, below_at (Below.refl _ _).drew y2⟩ (fun hHeld => ?_)
        simp only [Act.put, List.size_toArray, List.length_cons, List.length_nil, Nat.zero_add]
        refine wpAnyH_take (i := 0) (v := .pointer (some ⟨jb, 0, none⟩)) rfl (by kernel_rfl) (by kernel_rfl) (by kernel_rfl) (fun _ _ _ h => h) (Or.inl ⟨by rfl, fun w' hS => by go_simp⟩) hHeld ?_
        simp only [Act.put, List.getElem_toArray, List.getElem_cons_zero, List.getElem_cons_succ, List.setIfInBounds_toArray, List.set_cons_zero, List.set_cons_succ]
        refine wpAnyH_take (i := 1) (v := .slice (some ⟨b, off, none⟩) on oc) rfl (by kernel_rfl) (by kernel_rfl) (by kernel_rfl) (fun _ _ _ h => h) (Or.inl ⟨by rfl, fun w' hS => by go_simp⟩) hHeld ?_
        simp only [Act.put, List.getElem_toArray, List.getElem_cons_zero, List.getElem_cons_succ, List.setIfInBounds_toArray, List.set_cons_zero, List.set_cons_succ]
        refine wpAnyH_take (i := 2) (v := .int .i64 (i : Int)) rfl (by kernel_rfl) (by kernel_rfl) (by kernel_rfl) (fun _ _ _ h => h) (Or.inl ⟨by rfl, fun w' hS => by go_simp⟩) hHeld ?_
        simp only [Act.put, List.getElem_toArray, List.getElem_cons_zero, List.getElem_cons_succ, List.setIfInBounds_toArray, List.set_cons_zero, List.set_cons_succ]
        refine wpAnyH_take (i := 3) (v := .pointer (some ⟨b, off + i * 3, none⟩)) rfl (by kernel_rfl) (by kernel_rfl) (by kernel_rfl) (fun _ _ _ h => h) (Or.inl ⟨by rfl, fun w' hS => by go_simp⟩) hHeld ?_
        simp only [Act.put, List.getElem_toArray, List.getElem_cons_zero, List.getElem_cons_succ, List.setIfInBounds_toArray, List.set_cons_zero, List.set_cons_succ]
        refine wpAnyH_take (i := 4) (v := .pointer (some ⟨b, off + i * 3 + 1, none⟩)) rfl (by kernel_rfl) (by kernel_rfl) (by kernel_rfl) (fun _ _ _ h => h) (Or.inl ⟨by rfl, fun w' hS => by go_simp⟩) hHeld ?_
        simp only [Act.put, List.getElem_toArray, List.getElem_cons_zero, List.getElem_cons_succ, List.setIfInBounds_toArray, List.set_cons_zero, List.set_cons_succ]
        refine wpAnyH_take (i := 5) (v := .int .i64 qs) rfl (by kernel_rfl) (by kernel_rfl) (by kernel_rfl) (fun _ _ _ h => h) (Or.inl ⟨by rfl, fun w' hS => by (obtain ⟨s0, s1⟩ := hS; go_simp)⟩) hHeld ?_
        simp only [Act.put, List.getElem_toArray, List.getElem_cons_zero, List.getElem_cons_succ, List.setIfInBounds_toArray, List.set_cons_zero, List.set_cons_succ]
        refine wpAnyH_take (i := 6) (v := .slice (some ⟨b, off, none⟩) on oc) rfl (by kernel_rfl) (by kernel_rfl) (by kernel_rfl) (fun _ _ _ h => h) (Or.inl ⟨by rfl, fun w' hS => by go_simp⟩) hHeld ?_
        simp only [Act.put, List.getElem_toArray, List.getElem_cons_zero, List.getElem_cons_succ, List.setIfInBounds_toArray, List.set_cons_zero, List.set_cons_succ]
        refine wpAnyH_take (i := 7) (v := .int .i64 (i : Int)) rfl (by kernel_rfl) (by kernel_rfl) (by kernel_rfl) (fun _ _ _ h => h) (Or.inl ⟨by rfl, fun w' hS => by go_simp⟩) hHeld ?_
        simp only [Act.put, List.getElem_toArray, List.getElem_cons_zero, List.getElem_cons_succ, List.setIfInBounds_toArray, List.set_cons_zero, List.set_cons_succ]
        refine wpAnyH_take (i := 8) (v := .pointer (some ⟨b, off + i * 3, none⟩)) rfl (by kernel_rfl) (by kernel_rfl) (by kernel_rfl) (fun _ _ _ h => h) (Or.inl ⟨by rfl, fun w' hS => by go_simp⟩) hHeld ?_
        simp only [Act.put, List.getElem_toArray, List.getElem_cons_zero, List.getElem_cons_succ, List.setIfInBounds_toArray, List.set_cons_zero, List.set_cons_succ]
        refine wpAnyH_take (i := 9) (v := .pointer (some ⟨b, off + i * 3 + 2, none⟩)) rfl (by kernel_rfl) (by kernel_rfl) (by kernel_rfl) (fun _ _ _ h => h) (Or.inl ⟨by rfl, fun w' hS => by go_simp⟩) hHeld ?_
        simp only [Act.put, List.getElem_toArray, List.getElem_cons_zero, List.getElem_cons_succ, List.setIfInBounds_toArray, List.set_cons_zero, List.set_cons_succ]
        refine wpAnyH_take (i := 10) (v := .slice qa qm qc) rfl (by kernel_rfl) (by kernel_rfl) (by kernel_rfl) (fun _ _ _ h => h) (Or.inl ⟨by rfl, fun w' hS => by (obtain ⟨s0, s1⟩ := hS; go_simp)⟩) hHeld ?_
        simp only [Act.put, List.getElem_toArray, List.getElem_cons_zero, List.getElem_cons_succ, List.setIfInBounds_toArray, List.set_cons_zero, List.set_cons_succ]
        refine wpAnyH_ready (rs := [11]) (by kernel_rfl) (by simp) ?_
        refine AllReadyH.cons rfl (fun K hK => ?_) AllReadyH.nil
        go_simp
        refine (HTk.out _ (Below.refl _ _).drew).mono ?_
        rintro e w2 ⟨v, J', rfl, hG'⟩
        refine hK.out _ _ ⟨below_at hG'.bel x1, below_at hG'.bel x2⟩ (fun hHeld => ?_)
        clear hK K
        refine wpAnyH_done (by kernel_rfl) ?_ _
        clear hHeld
        go_wp2
        go_roundw
        case rel => exact ⟨i + 1, J', by omega, by go_num, hG'⟩
        case measure => simp [intOf]; omega
      · by_cases h3 : qk = 3
        · subst h3
          have HRs : Hid (Calls Tryd.prog 14 #[.pointer (some ⟨jb, 0, none⟩)] wr fun e w' => ∃ J', e = .returned (.tuple #[]) ∧ Jg w w' w.heap.size jb m J') := HG.out.reset
          go_wp2_with fail
          refine HRs.out.mono ?_
          rintro e w2 ⟨J', rfl, hG'⟩
          go_wp2
          go_roundw
          case rel => exact ⟨i + 1, J', by omega, by go_num, hG'⟩
          case measure => simp [intOf]; omega
        · have q1 : (qk == 1) = false := by rw [beq_eq_false_iff_ne]; exact h1
          have q3 : (qk == 3) = false := by rw [beq_eq_false_iff_ne]; exact h3
          clear h1 h3
          go_wp2
          go_roundw
          case rel => exact ⟨i + 1, J, by omega, by go_num, HG⟩
          case measure => simp [intOf]; omega
    · obtain rfl : i = on := by omega
      clear HO
      go_wp2_with fail
      refine (short_any (H1.out.still HG.out.bel) (by omega)).mono ?_
      rintro e w' ⟨rfl, rfl⟩
      go_wp2_with fail
      refine (short_any (H2.out.still HG.out.bel) (by omega)).mono ?_
      rintro e w' ⟨rfl, rfl⟩
      have HR1 : Hid (Rd w a1 (min n01 4000) c1 (b01.take 4000)) := H1.out.short
      have HR2 : Hid (Rd w a2 (min n02 4000) c2 (b02.take 4000)) := H2.out.short
      have hs1 : min n01 4000 ≤ 4000 := by omega
      have hs2 : min n02 4000 ≤ 4000 := by omega
      generalize min n01 4000 = n1 at *
      generalize min n02 4000 = n2 at *
      generalize b01.take 4000 = b1 at *
      generalize b02.take 4000 = b2 at *
      clear H1 H2
      have HK : Hid (Kw m (two n1 n2) (two (cnt n1) (cnt n2)) (two 0 (m - 1)) (two b1 b2)) := ⟨hm1, rfl, rfl, fun t ht => by
        rcases (show t = 0 ∨ t = 1 by omega) with rfl | rfl
        · exact HR1.out.by_
        · exact HR2.out.by_, fun t ht => by
        rcases (show t = 0 ∨ t = 1 by omega) with rfl | rfl
        · exact HR1.out.len
        · exact HR2.out.len, fun t ht => by
        rcases (show t = 0 ∨ t = 1 by omega) with rfl | rfl
        · exact hs1
        · exact hs2, fun t ht => by
        rcases (show t = 0 ∨ t = 1 by omega) with rfl | rfl
        · rfl
        · rfl⟩
      have HRd : Hid (∀ t, t < 2 → Rd w (two a1 a2 t) (two n1 n2 t) (two c1 c2 t) (two b1 b2 t)) := fun t ht => by
        rcases (show t = 0 ∨ t = 1 by omega) with rfl | rfl
        · exact HR1.out
        · exact HR2.out
      go_wp2_with fail
      generalize hV : ((wr.alloc (.cells #[.slice a1 n1 c1, .slice a2 n2 c2] 28)).alloc (.cells #[.slice none 0 0, .slice none 0 0] 44)) = V
      have hbV : Below wr.heap.size wr V := by rw [← hV]; exact balloc (balloc (Below.refl _ wr))
      have HD : Hid (Dt V wr.heap.size (wr.heap.size + 1) 0 (two a1 a2) (two n1 n2) (two c1 c2) (two (cnt n1) (cnt n2)) (fun _ => 0) (fun _ => 0) (two b1 b2)) := (show Dt _ _ _ _ _ _ _ _ _ _ _ from by
        have e1 : (wr.alloc (.cells #[.slice a1 n1 c1, .slice a2 n2 c2] 28)).heap[wr.heap.size]? = some (.cells #[.slice a1 n1 c1, .slice a2 n2 c2] 28 (0, 0)) := heap_alloc_new wr _
        have e2 := heap_alloc_new (wr.alloc (.cells #[.slice a1 n1 c1, .slice a2 n2 c2] 28)) (.cells #[.slice none 0 0, .slice none 0 0] 44)
        rw [show (wr.alloc (.cells #[.slice a1 n1 c1, .slice a2 n2 c2] 28)).heap.size = wr.heap.size + 1 from size_al _ _] at e2
        have e3 := blk_alloc (o := .cells #[.slice none 0 0, .slice none 0 0] 44) e1
        rw [hV] at e2 e3
        refine ⟨⟨_, e3, rfl, fun i hi => ?_⟩, ⟨_, e2, rfl, fun i hi => ?_⟩, fun t ht => by omega, fun t ht => by omega, by omega, fun t ht => by omega⟩
        · rcases (show i = 0 ∨ i = 1 by omega) with rfl | rfl <;> rfl
        · rcases (show i = 0 ∨ i = 1 by omega) with rfl | rfl <;> rfl)
      have HG2 : Hid (Jg w V w.heap.size jb m J) := HG.out.still hbV
      have HAp : Hid (∀ g, Gd wr.heap.size (wr.heap.size + 1) 0 (fun _ => 0) (fun _ => 0) g → ¬ J.own g) := fun g hg hh => by
        have := HG.out.ok.own_lt g hh
        rcases hg with rfl | rfl | ⟨t, ht, _⟩ <;> omega
      have hlA : w.heap.size ≤ wr.heap.size + 1 := by have := HG.out.hB; omega
      generalize two a1 a2 = ao at *
      generalize two n1 n2 = nn at *
      generalize two c1 c2 = cc at *
      generalize two (cnt n1) (cnt n2) = NN at *
      generalize two 0 (m - 1) = kk at *
      generalize two b1 b2 = bb at *
      generalize wr.heap.size + 1 = gA at *
      generalize wr.heap.size = gB at *
      clear hV hbV HG HR1 HR2
      go_wp2_with fail
      go_loopw [17] (fun v wr2 => ∃ (s : Nat) (gc gr : Nat → Nat), s ≤ 2 ∧ v = .int .i64 (s : Int) ∧ Hid (Jg w wr2 w.heap.size jb m J) ∧ Hid (Dt wr2 gB gA s ao nn cc NN gc gr bb) ∧ Hid (∀ g, Gd gB gA s gc gr g → ¬ J.own g)) (fun v _ => 2 - (intOf v).toNat)
      case atStart => exact ⟨0, _, _, by omega, rfl, HG2, HD, HAp⟩
      case round =>
        clear HG2 HD HAp
        obtain ⟨s, gc, gr, hs, rfl, HG, HD, HAp⟩ := hrel
        rename World => wr2
        by_cases hlt : s < 2
        · have y0 : wr2.cell? ⟨gB, s, none⟩ = some (.slice (ao s) (nn s) (cc s)) := HD.out.bl.cell s hlt
          have f0 : wr2.frozen? ⟨gA, s, none⟩ = false := HD.out.ch.fz s
          have x0 : wr2.cell? ⟨gA, s, none⟩ = some (.slice none 0 0) := by rw [HD.out.ch.cell s hlt, if_neg (by omega)]
          have HSp : Hid (Calls Tryd.prog 16 #[.slice (ao s) (nn s) (cc s)] wr2 fun e w' => ∃ c r, e = .returned (.tuple #[.slice (some ⟨c, 0, none⟩) (NN s) (NN s), .int .i64 0]) ∧ wr2.heap.size ≤ c ∧ wr2.heap.size ≤ r ∧ Fb w' c 28 (NN s) (rowF r (nn s) (NN s)) ∧ Bk w' r (cats (bb s) (NN s)) ∧ Below wr2.heap.size wr2 w') := (show Calls _ _ _ _ _ from by
            have h1 := split_ok ((HRd.out s hlt).still HG.out.bel) (HK.out.sh s hlt) (HT.out.still HG.out.bel)
            rw [HK.out.cn s hlt] at h1
            exact h1)
          have HCt : Hid (∀ w', Calls Tryd.prog 17 #[.int .i64 (nn s : Int)] w' fun e w2 => e = .returned (.int .i64 (NN s : Int)) ∧ w' = w2) := fun w' => (show Calls _ _ _ _ _ from by
            have h1 := fcount_any (w := w') (nn s : Int)
            rw [cntI_nat, HK.out.cn s hlt] at h1
            exact h1)
          have hN1 := HK.out.pos hlt
          have hN17 := HK.out.top hlt
          have hn4 := HK.out.sh s hlt
          have hNz : ((NN s : Int) == 0) = false := by rw [beq_eq_false_iff_ne]; omega
          have i1 : (0 : Int) ≤ (s : Int) := Int.natCast_nonneg _
          have i2 : (s : Int) < 2 := by omega
          have HNx : Hid (∀ c r w', Below wr2.heap.size wr2 w' → wr2.heap.size ≤ c → wr2.heap.size ≤ r → Fb w' c 28 (NN s) (rowF r (nn s) (NN s)) → Bk w' r (cats (bb s) (NN s)) → Jg w (w'.setCell ⟨gA, s, none⟩ (.slice (some ⟨c, 0, none⟩) (NN s) (NN s))) w.heap.size jb m J ∧ Dt (w'.setCell ⟨gA, s, none⟩ (.slice (some ⟨c, 0, none⟩) (NN s) (NN s))) gB gA (s + 1) ao nn cc NN (upd gc s c) (upd gr s r) bb ∧ ∀ g, Gd gB gA (s + 1) (upd gc s c) (upd gr s r) g → ¬ J.own g) := fun c r w' hb hc hr hF hK => by
            have g1 := HG.out.still hb
            have k : Kept w' (w'.setCell ⟨gA, s, none⟩ (.slice (some ⟨c, 0, none⟩) (NN s) (NN s))) (fun k => k = gA) := kset _ _ _ _ rfl
            refine ⟨⟨g1.ok.keep k (fun j hj e => HAp.out gA (.inr (.inl rfl)) (e ▸ hj)), g1.b, g1.n, g1.bel.trans (k.below g1.hB (fun j hj e => by omega)), Nat.le_trans g1.hB k.size⟩, HD.out.next hlt hb hc hr hF hK, fun g hg hh => ?_⟩
            rcases gd_next hg with h1 | h1 | h1
            · exact HAp.out g h1 hh
            · have := HG.out.ok.own_lt g hh; omega
            · have := HG.out.ok.own_lt g hh; omega
          go_wp2_with fail
          refine HSp.out.mono ?_
          rintro e w3 ⟨c, r, rfl, hc, hr, hF, hK, hb⟩
          have y0' := below_at hb y0
          have x0' := below_at hb x0
          have f0' : w3.frozen? ⟨gA, s, none⟩ = false := (HD.out.still hb).ch.fz s
          have HN : Hid _ := HNx.out c r w3 hb hc hr hF hK
          clear y0 x0 f0 HSp hc hr hF hK hb HNx
          go_wp2_with (first | (go_at_call 17; refine (HCt.out _).mono ?_; rintro e w' ⟨rfl, rfl⟩) | fail)
          go_roundw
          case rel => exact ⟨s + 1, _, _, by omega, by go_num, HN.out.1, HN.out.2.1, HN.out.2.2⟩
          case measure => simp [intOf]; omega
        · have hs2 : s = 2 := by omega
          rw [hs2] at HD HAp
          have hsd : decide ((s : Int) < 2) = false := decide_eq_false (by omega)
          have hsn : ¬ (s : Int) < 2 := by omega
          clear hs2 hs hlt
          have hmI : (m : Int) - 1 = (kk 1 : Int) := by have := HK.out.k1; omega
          have hmb : ((m : Int) == 1) = false := by have := HM.out; first | (rw [beq_iff_eq]; omega) | (rw [beq_eq_false_iff_ne]; omega)
          go_wp2_with fail
          generalize hV : ((wr2.alloc (.cells #[.int .i64 0, .int .i64 (kk 1 : Int)] 45)).alloc (.cells #[.int .i64 0, .int .i64 0] 45)) = V2
          have hbV : Below wr2.heap.size wr2 V2 := by rw [← hV]; exact balloc (balloc (Below.refl _ wr2))
          have HS : Hid (Sd w V2 w.heap.size jb m J gB gA wr2.heap.size (wr2.heap.size + 1) ao nn cc NN gc gr kk (fun _ => 0) bb) := (show Sd _ _ _ _ _ _ _ _ _ _ _ _ _ _ _ _ _ _ _ from by
            have e1 : (wr2.alloc (.cells #[.int .i64 0, .int .i64 (kk 1 : Int)] 45)).heap[wr2.heap.size]? = some (.cells #[.int .i64 0, .int .i64 (kk 1 : Int)] 45 (0, 0)) := heap_alloc_new wr2 _
            have e2 := heap_alloc_new (wr2.alloc (.cells #[.int .i64 0, .int .i64 (kk 1 : Int)] 45)) (.cells #[.int .i64 0, .int .i64 0] 45)
            rw [show (wr2.alloc (.cells #[.int .i64 0, .int .i64 (kk 1 : Int)] 45)).heap.size = wr2.heap.size + 1 from size_al _ _] at e2
            have e3 := blk_alloc (o := .cells #[.int .i64 0, .int .i64 0] 45) e1
            rw [hV] at e2 e3
            have hk0 := HK.out.k0
            refine ⟨HG.out.still hbV, HD.out.still hbV, ⟨_, e3, rfl, fun i hi => ?_⟩, ⟨_, e2, rfl, fun i hi => ?_⟩, fun g hg hh => ?_, fun g hg => ?_, by omega, by have := HG.out.hB; omega⟩
            · rcases (show i = 0 ∨ i = 1 by omega) with rfl | rfl
              · show _ = some (Value.int .i64 ((kk 0 : Nat) : Int))
                rw [hk0]
                rfl
              · rfl
            · rcases (show i = 0 ∨ i = 1 by omega) with rfl | rfl <;> rfl
            · have := HG.out.ok.own_lt g hh
              rcases hg with hg | rfl | rfl
              · exact HAp.out g hg hh
              · omega
              · omega
            · have := HD.out.lt hg
              omega)
          have hp0 := HK.out.pos (t := 0) (by decide)
          have hp1 := HK.out.pos (t := 1) (by decide)
          have ht0 := HK.out.top (t := 0) (by decide)
          have ht1 := HK.out.top (t := 1) (by decide)
          have HI : Hid (Iv m NN kk (fun _ => 0) bb J) := ⟨fun t ht => Nat.zero_le _, fun t ht h => absurd h (Nat.lt_irrefl _), (fun e => by have e' : 0 = NN 1 := e; omega), (fun e => by have e' : 0 = NN 0 := e; omega), fun _ => .inr rfl⟩
          generalize wr2.heap.size + 1 = gt at *
          generalize wr2.heap.size = gW at *
          clear hV hbV HG HD HAp
          go_loopw [22] (fun v wr3 => ∃ (k : Nat) (a : Nat → Nat) (J3 : Jn), k = a 0 + a 1 ∧ v = .int .i64 (k : Int) ∧ Hid (Sd w wr3 w.heap.size jb m J3 gB gA gW gt ao nn cc NN gc gr kk a bb) ∧ Hid (Iv m NN kk a bb J3)) (fun v _ => NN 0 + NN 1 - (intOf v).toNat)
          case atStart => exact ⟨0, _, J, rfl, rfl, HS, HI⟩
          case round =>
            clear HS HI
            obtain ⟨k, a, J3, hk0, rfl, HS, HI⟩ := hrel
            rename World => wr3
            have hle0 := HI.out.le 0 (by decide)
            have hle1 := HI.out.le 1 (by decide)
            have hk34 : k ≤ 34 := by omega
            have hk : Hid (k = a 0 + a 1) := hk0
            have k1 : (0 : Int) ≤ (k : Int) := Int.natCast_nonneg _
            have y0 : wr3.cell? ⟨gt, 0, none⟩ = some (.int .i64 (a 0 : Int)) := HS.out.at_.cell 0 (by decide)
            have y1 : wr3.cell? ⟨gt, 1, none⟩ = some (.int .i64 (a 1 : Int)) := HS.out.at_.cell 1 (by decide)
            have x0 : wr3.cell? ⟨gA, 0, none⟩ = some (.slice (some ⟨gc 0, 0, none⟩) (NN 0) (NN 0)) := HS.out.dt.ch.cell 0 (by decide)
            have x1 : wr3.cell? ⟨gA, 1, none⟩ = some (.slice (some ⟨gc 1, 0, none⟩) (NN 1) (NN 1)) := HS.out.dt.ch.cell 1 (by decide)
            have q0 : wr3.cell? ⟨gW, 0, none⟩ = some (.int .i64 (kk 0 : Int)) := HS.out.wh.cell 0 (by decide)
            have q1 : wr3.cell? ⟨gW, 1, none⟩ = some (.int .i64 (kk 1 : Int)) := HS.out.wh.cell 1 (by decide)
            have nw1 : ¬ gW = gt := HS.out.nw
            have nw2 : ¬ gt = gW := fun e => HS.out.nw e.symm
            by_cases d0 : a 0 < NN 0
            · have c0 : (a 0 : Int) < (NN 0 : Int) := by omega
              have c0b : ((a 0 : Int) == (NN 0 : Int)) = false := by rw [beq_eq_false_iff_ne]; omega
              have HF0 : Hid ((0 : Nat) = 1 → m = 1 → a 0 = NN 0) := fun e => by cases e
              by_cases dk : k < tn
              · have tk : (k : Int) < (tn : Int) := by omega
                obtain ⟨tb, to, hta, htc⟩ : ∃ b off, ta = some ⟨b, off, none⟩ ∧ ∀ i, i < tn → w.cell? ⟨b, off + i, none⟩ = some (.bool (tf i)) := HTu.out.elim (fun h => by omega) id
                subst hta
                have v0 := below_at HS.out.jg.bel (htc k dk)
                cases hv : tf k with
                | true =>
                  rw [hv] at v0
                  clear hv htc
                  by_cases d1 : a 1 < NN 1
                  · have c1 : (a 1 : Int) < (NN 1 : Int) := by omega
                    have HF1 : Hid ((1 : Nat) = 1 → m = 1 → a 0 = NN 0) := fun _ e => absurd e HM.out
                    have f0 : wr3.frozen? ⟨gt, 1, none⟩ = false := HS.out.at_.fz 1
                    clear hk0
                    by_cases hla : a 1 + 1 = NN 1
                    · have hs : a 1 < NN 1 := by omega
                      have r0 : wr3.cell? ⟨gc 1, a 1, none⟩ = some (.slice (some ⟨gr 1, a 1 * 256, none⟩) (8 + min 248 (nn 1 - a 1 * 248)) (8 + min 248 (nn 1 - a 1 * 248))) := row_cell (HS.out.dt.row 1 (by decide)) hs
                      have HTk : Hid (∀ w', Sd w w' w.heap.size jb m J3 gB gA gW gt ao nn cc NN gc gr kk (upd a 1 (a 1 + 1)) bb → Calls Tryd.prog 10 #[.pointer (some ⟨jb, 0, none⟩), .int .i64 (kk 1 : Int), .slice (some ⟨gr 1, a 1 * 256, none⟩) (8 + min 248 (nn 1 - a 1 * 248)) (8 + min 248 (nn 1 - a 1 * 248))] w' fun e w2 => TOut w w2 w.heap.size jb m J3 gB gA gW gt ao nn cc NN gc gr kk a bb 1 true e) := fun w' h => (show Calls _ _ _ _ _ from by
                        have h1 := Sd.tk HK.out HI.out (s := 1) (by decide) hs (HF1.out) HT.out h0B h
                        rw [decide_eq_true hla] at h1
                        exact h1)
                      have hmm : ¬ (256 : Int) < ((8 + min 248 (nn 1 - a 1 * 248) : Nat) : Int) := by omega
                      have l1 : (0 : Int) ≤ (a 1 : Int) := Int.natCast_nonneg _
                      have l2 : (a 1 : Int) < (NN 1 : Int) := by omega
                      have hlb : ((a 1 : Int) + 1 == (NN 1 : Int)) = true := by first | (rw [beq_iff_eq]; omega) | (rw [beq_eq_false_iff_ne]; omega)
                      have hup : Hid (upd a 1 (a 1 + 1) 0 + upd a 1 (a 1 + 1) 1 = k + 1) := (show _ = _ from by rw [hk.out]; simp [upd]; omega)
                      have hkl : k < NN 0 + NN 1 := by have := hk.out; omega
                      generalize 8 + min 248 (nn 1 - a 1 * 248) = mm at *
                      clear hs hla HF0 HF1
                      go_wp2_with fail
                      go_quiet (fail)
                      go_wp2_with fail
                      refine (HTk.out _ (Sd.bumpI (HS.out.still (below_drewN (Below.refl _ _) _)) 1)).mono ?_
                      rintro e w4 ⟨⟨ra, rn, rc, J4, rfl, hz, hrd, hS4, hI4⟩⟩
                      have z0 : w4.cell? ⟨gt, 1, none⟩ = some (.int .i64 ((a 1 : Int) + 1)) := by
                        have := hS4.at_.cell 1 (by decide)
                        rw [upd_same] at this
                        rw [this]
                        congr 2
                      have z1 : w4.cell? ⟨gA, 1, none⟩ = some (.slice (some ⟨gc 1, 0, none⟩) (NN 1) (NN 1)) := hS4.dt.ch.cell 1 (by decide)
                      have z2 : w4.cell? ⟨gB, 1, none⟩ = some (.slice (ao 1) (nn 1) (cc 1)) := hS4.dt.bl.cell 1 (by decide)
                      have HSm : Hid (∀ w', Below w4.heap.size w4 w' → Calls Tryd.prog 11 #[.slice ra rn rc, .slice (ao 1) (nn 1) (cc 1)] w' fun e w2 => e = .returned (.bool true) ∧ w' = w2) := fun w' hb => same_any ((hrd rfl).still hb) ((HRd.out 1 (by decide)).still (hS4.jg.bel.trans (hb.mono hS4.jg.hB)))
                      have HS4 : Hid (Sd w w4 w.heap.size jb m J4 gB gA gW gt ao nn cc NN gc gr kk (upd a 1 (a 1 + 1)) bb) := hS4
                      have HI4 : Hid (Iv m NN kk (upd a 1 (a 1 + 1)) bb J4) := hI4
                      clear hz hrd hS4 hI4 y0 y1 x0 x1 q0 q1 r0 f0
                      go_wp2_with fail
                      go_quiet (fail)
                      go_wp2_with (first | (go_at_call 11; refine (HSm.out _ (below_drewN (Below.refl _ _) _)).mono ?_; rintro e w' ⟨rfl, rfl⟩) | fail)
                      go_roundw
                      case rel => exact ⟨k + 1, _, J4, hup.out.symm, by go_num, HS4.out.still (below_drewN (Below.refl _ _) _), HI4⟩
                      case measure => simp [intOf]; omega
                    · have hs : a 1 < NN 1 := by omega
                      have r0 : wr3.cell? ⟨gc 1, a 1, none⟩ = some (.slice (some ⟨gr 1, a 1 * 256, none⟩) (8 + min 248 (nn 1 - a 1 * 248)) (8 + min 248 (nn 1 - a 1 * 248))) := row_cell (HS.out.dt.row 1 (by decide)) hs
                      have HTk : Hid (∀ w', Sd w w' w.heap.size jb m J3 gB gA gW gt ao nn cc NN gc gr kk (upd a 1 (a 1 + 1)) bb → Calls Tryd.prog 10 #[.pointer (some ⟨jb, 0, none⟩), .int .i64 (kk 1 : Int), .slice (some ⟨gr 1, a 1 * 256, none⟩) (8 + min 248 (nn 1 - a 1 * 248)) (8 + min 248 (nn 1 - a 1 * 248))] w' fun e w2 => TOut w w2 w.heap.size jb m J3 gB gA gW gt ao nn cc NN gc gr kk a bb 1 false e) := fun w' h => (show Calls _ _ _ _ _ from by
                        have h1 := Sd.tk HK.out HI.out (s := 1) (by decide) hs (HF1.out) HT.out h0B h
                        rw [decide_eq_false hla] at h1
                        exact h1)
                      have hmm : ¬ (256 : Int) < ((8 + min 248 (nn 1 - a 1 * 248) : Nat) : Int) := by omega
                      have l1 : (0 : Int) ≤ (a 1 : Int) := Int.natCast_nonneg _
                      have l2 : (a 1 : Int) < (NN 1 : Int) := by omega
                      have hlb : ((a 1 : Int) + 1 == (NN 1 : Int)) = false := by first | (rw [beq_iff_eq]; omega) | (rw [beq_eq_false_iff_ne]; omega)
                      have hup : Hid (upd a 1 (a 1 + 1) 0 + upd a 1 (a 1 + 1) 1 = k + 1) := (show _ = _ from by rw [hk.out]; simp [upd]; omega)
                      have hkl : k < NN 0 + NN 1 := by have := hk.out; omega
                      generalize 8 + min 248 (nn 1 - a 1 * 248) = mm at *
                      clear hs hla HF0 HF1
                      go_wp2_with fail
                      go_quiet (fail)
                      go_wp2_with fail
                      refine (HTk.out _ (Sd.bumpI (HS.out.still (below_drewN (Below.refl _ _) _)) 1)).mono ?_
                      rintro e w4 ⟨⟨ra, rn, rc, J4, rfl, hz, hrd, hS4, hI4⟩⟩
                      have z0 : w4.cell? ⟨gt, 1, none⟩ = some (.int .i64 ((a 1 : Int) + 1)) := by
                        have := hS4.at_.cell 1 (by decide)
                        rw [upd_same] at this
                        rw [this]
                        congr 2
                      have z1 : w4.cell? ⟨gA, 1, none⟩ = some (.slice (some ⟨gc 1, 0, none⟩) (NN 1) (NN 1)) := hS4.dt.ch.cell 1 (by decide)
                      have z2 : w4.cell? ⟨gB, 1, none⟩ = some (.slice (ao 1) (nn 1) (cc 1)) := hS4.dt.bl.cell 1 (by decide)
                      obtain rfl : rn = 0 := hz rfl
                      have HS4 : Hid (Sd w w4 w.heap.size jb m J4 gB gA gW gt ao nn cc NN gc gr kk (upd a 1 (a 1 + 1)) bb) := hS4
                      have HI4 : Hid (Iv m NN kk (upd a 1 (a 1 + 1)) bb J4) := hI4
                      clear hz hrd hS4 hI4 y0 y1 x0 x1 q0 q1 r0 f0
                      go_wp2_with fail
                      go_quiet (fail)
                      go_wp2
                      go_roundw
                      case rel => exact ⟨k + 1, _, J4, hup.out.symm, by go_num, HS4.out.still (below_drewN (Below.refl _ _) _), HI4⟩
                      case measure => simp [intOf]; omega
                  · have c1 : ¬ (a 1 : Int) < (NN 1 : Int) := by omega
                    have HF1 : Hid True := trivial
                    have f0 : wr3.frozen? ⟨gt, 0, none⟩ = false := HS.out.at_.fz 0
                    clear hk0
                    by_cases hla : a 0 + 1 = NN 0
                    · have hs : a 0 < NN 0 := by omega
                      have r0 : wr3.cell? ⟨gc 0, a 0, none⟩ = some (.slice (some ⟨gr 0, a 0 * 256, none⟩) (8 + min 248 (nn 0 - a 0 * 248)) (8 + min 248 (nn 0 - a 0 * 248))) := row_cell (HS.out.dt.row 0 (by decide)) hs
                      have HTk : Hid (∀ w', Sd w w' w.heap.size jb m J3 gB gA gW gt ao nn cc NN gc gr kk (upd a 0 (a 0 + 1)) bb → Calls Tryd.prog 10 #[.pointer (some ⟨jb, 0, none⟩), .int .i64 (kk 0 : Int), .slice (some ⟨gr 0, a 0 * 256, none⟩) (8 + min 248 (nn 0 - a 0 * 248)) (8 + min 248 (nn 0 - a 0 * 248))] w' fun e w2 => TOut w w2 w.heap.size jb m J3 gB gA gW gt ao nn cc NN gc gr kk a bb 0 true e) := fun w' h => (show Calls _ _ _ _ _ from by
                        have h1 := Sd.tk HK.out HI.out (s := 0) (by decide) hs (HF0.out) HT.out h0B h
                        rw [decide_eq_true hla] at h1
                        exact h1)
                      have hmm : ¬ (256 : Int) < ((8 + min 248 (nn 0 - a 0 * 248) : Nat) : Int) := by omega
                      have l1 : (0 : Int) ≤ (a 0 : Int) := Int.natCast_nonneg _
                      have l2 : (a 0 : Int) < (NN 0 : Int) := by omega
                      have hlb : ((a 0 : Int) + 1 == (NN 0 : Int)) = true := by first | (rw [beq_iff_eq]; omega) | (rw [beq_eq_false_iff_ne]; omega)
                      have hup : Hid (upd a 0 (a 0 + 1) 0 + upd a 0 (a 0 + 1) 1 = k + 1) := (show _ = _ from by rw [hk.out]; simp [upd]; omega)
                      have hkl : k < NN 0 + NN 1 := by have := hk.out; omega
                      generalize 8 + min 248 (nn 0 - a 0 * 248) = mm at *
                      clear hs hla HF0 HF1
                      go_wp2_with fail
                      go_quiet (fail)
                      go_wp2_with fail
                      refine (HTk.out _ (Sd.bumpI (HS.out.still (below_drewN (Below.refl _ _) _)) 0)).mono ?_
                      rintro e w4 ⟨⟨ra, rn, rc, J4, rfl, hz, hrd, hS4, hI4⟩⟩
                      have z0 : w4.cell? ⟨gt, 0, none⟩ = some (.int .i64 ((a 0 : Int) + 1)) := by
                        have := hS4.at_.cell 0 (by decide)
                        rw [upd_same] at this
                        rw [this]
                        congr 2
                      have z1 : w4.cell? ⟨gA, 0, none⟩ = some (.slice (some ⟨gc 0, 0, none⟩) (NN 0) (NN 0)) := hS4.dt.ch.cell 0 (by decide)
                      have z2 : w4.cell? ⟨gB, 0, none⟩ = some (.slice (ao 0) (nn 0) (cc 0)) := hS4.dt.bl.cell 0 (by decide)
                      have HSm : Hid (∀ w', Below w4.heap.size w4 w' → Calls Tryd.prog 11 #[.slice ra rn rc, .slice (ao 0) (nn 0) (cc 0)] w' fun e w2 => e = .returned (.bool true) ∧ w' = w2) := fun w' hb => same_any ((hrd rfl).still hb) ((HRd.out 0 (by decide)).still (hS4.jg.bel.trans (hb.mono hS4.jg.hB)))
                      have HS4 : Hid (Sd w w4 w.heap.size jb m J4 gB gA gW gt ao nn cc NN gc gr kk (upd a 0 (a 0 + 1)) bb) := hS4
                      have HI4 : Hid (Iv m NN kk (upd a 0 (a 0 + 1)) bb J4) := hI4
                      clear hz hrd hS4 hI4 y0 y1 x0 x1 q0 q1 r0 f0
                      go_wp2_with fail
                      go_quiet (fail)
                      go_wp2_with (first | (go_at_call 11; refine (HSm.out _ (below_drewN (Below.refl _ _) _)).mono ?_; rintro e w' ⟨rfl, rfl⟩) | fail)
                      go_roundw
                      case rel => exact ⟨k + 1, _, J4, hup.out.symm, by go_num, HS4.out.still (below_drewN (Below.refl _ _) _), HI4⟩
                      case measure => simp [intOf]; omega
                    · have hs : a 0 < NN 0 := by omega
                      have r0 : wr3.cell? ⟨gc 0, a 0, none⟩ = some (.slice (some ⟨gr 0, a 0 * 256, none⟩) (8 + min 248 (nn 0 - a 0 * 248)) (8 + min 248 (nn 0 - a 0 * 248))) := row_cell (HS.out.dt.row 0 (by decide)) hs
                      have HTk : Hid (∀ w', Sd w w' w.heap.size jb m J3 gB gA gW gt ao nn cc NN gc gr kk (upd a 0 (a 0 + 1)) bb → Calls Tryd.prog 10 #[.pointer (some ⟨jb, 0, none⟩), .int .i64 (kk 0 : Int), .slice (some ⟨gr 0, a 0 * 256, none⟩) (8 + min 248 (nn 0 - a 0 * 248)) (8 + min 248 (nn 0 - a 0 * 248))] w' fun e w2 => TOut w w2 w.heap.size jb m J3 gB gA gW gt ao nn cc NN gc gr kk a bb 0 false e) := fun w' h => (show Calls _ _ _ _ _ from by
                        have h1 := Sd.tk HK.out HI.out (s := 0) (by decide) hs (HF0.out) HT.out h0B h
                        rw [decide_eq_false hla] at h1
                        exact h1)
                      have hmm : ¬ (256 : Int) < ((8 + min 248 (nn 0 - a 0 * 248) : Nat) : Int) := by omega
                      have l1 : (0 : Int) ≤ (a 0 : Int) := Int.natCast_nonneg _
                      have l2 : (a 0 : Int) < (NN 0 : Int) := by omega
                      have hlb : ((a 0 : Int) + 1 == (NN 0 : Int)) = false := by first | (rw [beq_iff_eq]; omega) | (rw [beq_eq_false_iff_ne]; omega)
                      have hup : Hid (upd a 0 (a 0 + 1) 0 + upd a 0 (a 0 + 1) 1 = k + 1) := (show _ = _ from by rw [hk.out]; simp [upd]; omega)
                      have hkl : k < NN 0 + NN 1 := by have := hk.out; omega
                      generalize 8 + min 248 (nn 0 - a 0 * 248) = mm at *
                      clear hs hla HF0 HF1
                      go_wp2_with fail
                      go_quiet (fail)
                      go_wp2_with fail
                      refine (HTk.out _ (Sd.bumpI (HS.out.still (below_drewN (Below.refl _ _) _)) 0)).mono ?_
                      rintro e w4 ⟨⟨ra, rn, rc, J4, rfl, hz, hrd, hS4, hI4⟩⟩
                      have z0 : w4.cell? ⟨gt, 0, none⟩ = some (.int .i64 ((a 0 : Int) + 1)) := by
                        have := hS4.at_.cell 0 (by decide)
                        rw [upd_same] at this
                        rw [this]
                        congr 2
                      have z1 : w4.cell? ⟨gA, 0, none⟩ = some (.slice (some ⟨gc 0, 0, none⟩) (NN 0) (NN 0)) := hS4.dt.ch.cell 0 (by decide)
                      have z2 : w4.cell? ⟨gB, 0, none⟩ = some (.slice (ao 0) (nn 0) (cc 0)) := hS4.dt.bl.cell 0 (by decide)
                      obtain rfl : rn = 0 := hz rfl
                      have HS4 : Hid (Sd w w4 w.heap.size jb m J4 gB gA gW gt ao nn cc NN gc gr kk (upd a 0 (a 0 + 1)) bb) := hS4
                      have HI4 : Hid (Iv m NN kk (upd a 0 (a 0 + 1)) bb J4) := hI4
                      clear hz hrd hS4 hI4 y0 y1 x0 x1 q0 q1 r0 f0
                      go_wp2_with fail
                      go_quiet (fail)
                      go_wp2
                      go_roundw
                      case rel => exact ⟨k + 1, _, J4, hup.out.symm, by go_num, HS4.out.still (below_drewN (Below.refl _ _) _), HI4⟩
                      case measure => simp [intOf]; omega
                | false =>
                  rw [hv] at v0
                  clear hv htc
                  have HF1 : Hid True := trivial
                  have f0 : wr3.frozen? ⟨gt, 0, none⟩ = false := HS.out.at_.fz 0
                  clear hk0
                  by_cases hla : a 0 + 1 = NN 0
                  · have hs : a 0 < NN 0 := by omega
                    have r0 : wr3.cell? ⟨gc 0, a 0, none⟩ = some (.slice (some ⟨gr 0, a 0 * 256, none⟩) (8 + min 248 (nn 0 - a 0 * 248)) (8 + min 248 (nn 0 - a 0 * 248))) := row_cell (HS.out.dt.row 0 (by decide)) hs
                    have HTk : Hid (∀ w', Sd w w' w.heap.size jb m J3 gB gA gW gt ao nn cc NN gc gr kk (upd a 0 (a 0 + 1)) bb → Calls Tryd.prog 10 #[.pointer (some ⟨jb, 0, none⟩), .int .i64 (kk 0 : Int), .slice (some ⟨gr 0, a 0 * 256, none⟩) (8 + min 248 (nn 0 - a 0 * 248)) (8 + min 248 (nn 0 - a 0 * 248))] w' fun e w2 => TOut w w2 w.heap.size jb m J3 gB gA gW gt ao nn cc NN gc gr kk a bb 0 true e) := fun w' h => (show Calls _ _ _ _ _ from by
                      have h1 := Sd.tk HK.out HI.out (s := 0) (by decide) hs (HF0.out) HT.out h0B h
                      rw [decide_eq_true hla] at h1
                      exact h1)
                    have hmm : ¬ (256 : Int) < ((8 + min 248 (nn 0 - a 0 * 248) : Nat) : Int) := by omega
                    have l1 : (0 : Int) ≤ (a 0 : Int) := Int.natCast_nonneg _
                    have l2 : (a 0 : Int) < (NN 0 : Int) := by omega
                    have hlb : ((a 0 : Int) + 1 == (NN 0 : Int)) = true := by first | (rw [beq_iff_eq]; omega) | (rw [beq_eq_false_iff_ne]; omega)
                    have hup : Hid (upd a 0 (a 0 + 1) 0 + upd a 0 (a 0 + 1) 1 = k + 1) := (show _ = _ from by rw [hk.out]; simp [upd]; omega)
                    have hkl : k < NN 0 + NN 1 := by have := hk.out; omega
                    generalize 8 + min 248 (nn 0 - a 0 * 248) = mm at *
                    clear hs hla HF0 HF1
                    go_wp2_with fail
                    go_quiet (fail)
                    go_wp2_with fail
                    refine (HTk.out _ (Sd.bumpI (HS.out.still (below_drewN (Below.refl _ _) _)) 0)).mono ?_
                    rintro e w4 ⟨⟨ra, rn, rc, J4, rfl, hz, hrd, hS4, hI4⟩⟩
                    have z0 : w4.cell? ⟨gt, 0, none⟩ = some (.int .i64 ((a 0 : Int) + 1)) := by
                      have := hS4.at_.cell 0 (by decide)
                      rw [upd_same] at this
                      rw [this]
                      congr 2
                    have z1 : w4.cell? ⟨gA, 0, none⟩ = some (.slice (some ⟨gc 0, 0, none⟩) (NN 0) (NN 0)) := hS4.dt.ch.cell 0 (by decide)
                    have z2 : w4.cell? ⟨gB, 0, none⟩ = some (.slice (ao 0) (nn 0) (cc 0)) := hS4.dt.bl.cell 0 (by decide)
                    have HSm : Hid (∀ w', Below w4.heap.size w4 w' → Calls Tryd.prog 11 #[.slice ra rn rc, .slice (ao 0) (nn 0) (cc 0)] w' fun e w2 => e = .returned (.bool true) ∧ w' = w2) := fun w' hb => same_any ((hrd rfl).still hb) ((HRd.out 0 (by decide)).still (hS4.jg.bel.trans (hb.mono hS4.jg.hB)))
                    have HS4 : Hid (Sd w w4 w.heap.size jb m J4 gB gA gW gt ao nn cc NN gc gr kk (upd a 0 (a 0 + 1)) bb) := hS4
                    have HI4 : Hid (Iv m NN kk (upd a 0 (a 0 + 1)) bb J4) := hI4
                    clear hz hrd hS4 hI4 y0 y1 x0 x1 q0 q1 r0 f0
                    go_wp2_with fail
                    go_quiet (fail)
                    go_wp2_with (first | (go_at_call 11; refine (HSm.out _ (below_drewN (Below.refl _ _) _)).mono ?_; rintro e w' ⟨rfl, rfl⟩) | fail)
                    go_roundw
                    case rel => exact ⟨k + 1, _, J4, hup.out.symm, by go_num, HS4.out.still (below_drewN (Below.refl _ _) _), HI4⟩
                    case measure => simp [intOf]; omega
                  · have hs : a 0 < NN 0 := by omega
                    have r0 : wr3.cell? ⟨gc 0, a 0, none⟩ = some (.slice (some ⟨gr 0, a 0 * 256, none⟩) (8 + min 248 (nn 0 - a 0 * 248)) (8 + min 248 (nn 0 - a 0 * 248))) := row_cell (HS.out.dt.row 0 (by decide)) hs
                    have HTk : Hid (∀ w', Sd w w' w.heap.size jb m J3 gB gA gW gt ao nn cc NN gc gr kk (upd a 0 (a 0 + 1)) bb → Calls Tryd.prog 10 #[.pointer (some ⟨jb, 0, none⟩), .int .i64 (kk 0 : Int), .slice (some ⟨gr 0, a 0 * 256, none⟩) (8 + min 248 (nn 0 - a 0 * 248)) (8 + min 248 (nn 0 - a 0 * 248))] w' fun e w2 => TOut w w2 w.heap.size jb m J3 gB gA gW gt ao nn cc NN gc gr kk a bb 0 false e) := fun w' h => (show Calls _ _ _ _ _ from by
                      have h1 := Sd.tk HK.out HI.out (s := 0) (by decide) hs (HF0.out) HT.out h0B h
                      rw [decide_eq_false hla] at h1
                      exact h1)
                    have hmm : ¬ (256 : Int) < ((8 + min 248 (nn 0 - a 0 * 248) : Nat) : Int) := by omega
                    have l1 : (0 : Int) ≤ (a 0 : Int) := Int.natCast_nonneg _
                    have l2 : (a 0 : Int) < (NN 0 : Int) := by omega
                    have hlb : ((a 0 : Int) + 1 == (NN 0 : Int)) = false := by first | (rw [beq_iff_eq]; omega) | (rw [beq_eq_false_iff_ne]; omega)
                    have hup : Hid (upd a 0 (a 0 + 1) 0 + upd a 0 (a 0 + 1) 1 = k + 1) := (show _ = _ from by rw [hk.out]; simp [upd]; omega)
                    have hkl : k < NN 0 + NN 1 := by have := hk.out; omega
                    generalize 8 + min 248 (nn 0 - a 0 * 248) = mm at *
                    clear hs hla HF0 HF1
                    go_wp2_with fail
                    go_quiet (fail)
                    go_wp2_with fail
                    refine (HTk.out _ (Sd.bumpI (HS.out.still (below_drewN (Below.refl _ _) _)) 0)).mono ?_
                    rintro e w4 ⟨⟨ra, rn, rc, J4, rfl, hz, hrd, hS4, hI4⟩⟩
                    have z0 : w4.cell? ⟨gt, 0, none⟩ = some (.int .i64 ((a 0 : Int) + 1)) := by
                      have := hS4.at_.cell 0 (by decide)
                      rw [upd_same] at this
                      rw [this]
                      congr 2
                    have z1 : w4.cell? ⟨gA, 0, none⟩ = some (.slice (some ⟨gc 0, 0, none⟩) (NN 0) (NN 0)) := hS4.dt.ch.cell 0 (by decide)
                    have z2 : w4.cell? ⟨gB, 0, none⟩ = some (.slice (ao 0) (nn 0) (cc 0)) := hS4.dt.bl.cell 0 (by decide)
                    obtain rfl : rn = 0 := hz rfl
                    have HS4 : Hid (Sd w w4 w.heap.size jb m J4 gB gA gW gt ao nn cc NN gc gr kk (upd a 0 (a 0 + 1)) bb) := hS4
                    have HI4 : Hid (Iv m NN kk (upd a 0 (a 0 + 1)) bb J4) := hI4
                    clear hz hrd hS4 hI4 y0 y1 x0 x1 q0 q1 r0 f0
                    go_wp2_with fail
                    go_quiet (fail)
                    go_wp2
                    go_roundw
                    case rel => exact ⟨k + 1, _, J4, hup.out.symm, by go_num, HS4.out.still (below_drewN (Below.refl _ _) _), HI4⟩
                    case measure => simp [intOf]; omega
              · have tk : ¬ (k : Int) < (tn : Int) := by omega
                have HF1 : Hid True := trivial
                have f0 : wr3.frozen? ⟨gt, 0, none⟩ = false := HS.out.at_.fz 0
                clear hk0
                by_cases hla : a 0 + 1 = NN 0
                · have hs : a 0 < NN 0 := by omega
                  have r0 : wr3.cell? ⟨gc 0, a 0, none⟩ = some (.slice (some ⟨gr 0, a 0 * 256, none⟩) (8 + min 248 (nn 0 - a 0 * 248)) (8 + min 248 (nn 0 - a 0 * 248))) := row_cell (HS.out.dt.row 0 (by decide)) hs
                  have HTk : Hid (∀ w', Sd w w' w.heap.size jb m J3 gB gA gW gt ao nn cc NN gc gr kk (upd a 0 (a 0 + 1)) bb → Calls Tryd.prog 10 #[.pointer (some ⟨jb, 0, none⟩), .int .i64 (kk 0 : Int), .slice (some ⟨gr 0, a 0 * 256, none⟩) (8 + min 248 (nn 0 - a 0 * 248)) (8 + min 248 (nn 0 - a 0 * 248))] w' fun e w2 => TOut w w2 w.heap.size jb m J3 gB gA gW gt ao nn cc NN gc gr kk a bb 0 true e) := fun w' h => (show Calls _ _ _ _ _ from by
                    have h1 := Sd.tk HK.out HI.out (s := 0) (by decide) hs (HF0.out) HT.out h0B h
                    rw [decide_eq_true hla] at h1
                    exact h1)
                  have hmm : ¬ (256 : Int) < ((8 + min 248 (nn 0 - a 0 * 248) : Nat) : Int) := by omega
                  have l1 : (0 : Int) ≤ (a 0 : Int) := Int.natCast_nonneg _
                  have l2 : (a 0 : Int) < (NN 0 : Int) := by omega
                  have hlb : ((a 0 : Int) + 1 == (NN 0 : Int)) = true := by first | (rw [beq_iff_eq]; omega) | (rw [beq_eq_false_iff_ne]; omega)
                  have hup : Hid (upd a 0 (a 0 + 1) 0 + upd a 0 (a 0 + 1) 1 = k + 1) := (show _ = _ from by rw [hk.out]; simp [upd]; omega)
                  have hkl : k < NN 0 + NN 1 := by have := hk.out; omega
                  generalize 8 + min 248 (nn 0 - a 0 * 248) = mm at *
                  clear hs hla HF0 HF1
                  go_wp2_with fail
                  go_quiet (fail)
                  go_wp2_with fail
                  refine (HTk.out _ (Sd.bumpI (HS.out.still (below_drewN (Below.refl _ _) _)) 0)).mono ?_
                  rintro e w4 ⟨⟨ra, rn, rc, J4, rfl, hz, hrd, hS4, hI4⟩⟩
                  have z0 : w4.cell? ⟨gt, 0, none⟩ = some (.int .i64 ((a 0 : Int) + 1)) := by
                    have := hS4.at_.cell 0 (by decide)
                    rw [upd_same] at this
                    rw [this]
                    congr 2
                  have z1 : w4.cell? ⟨gA, 0, none⟩ = some (.slice (some ⟨gc 0, 0, none⟩) (NN 0) (NN 0)) := hS4.dt.ch.cell 0 (by decide)
                  have z2 : w4.cell? ⟨gB, 0, none⟩ = some (.slice (ao 0) (nn 0) (cc 0)) := hS4.dt.bl.cell 0 (by decide)
                  have HSm : Hid (∀ w', Below w4.heap.size w4 w' → Calls Tryd.prog 11 #[.slice ra rn rc, .slice (ao 0) (nn 0) (cc 0)] w' fun e w2 => e = .returned (.bool true) ∧ w' = w2) := fun w' hb => same_any ((hrd rfl).still hb) ((HRd.out 0 (by decide)).still (hS4.jg.bel.trans (hb.mono hS4.jg.hB)))
                  have HS4 : Hid (Sd w w4 w.heap.size jb m J4 gB gA gW gt ao nn cc NN gc gr kk (upd a 0 (a 0 + 1)) bb) := hS4
                  have HI4 : Hid (Iv m NN kk (upd a 0 (a 0 + 1)) bb J4) := hI4
                  clear hz hrd hS4 hI4 y0 y1 x0 x1 q0 q1 r0 f0
                  go_wp2_with fail
                  go_quiet (fail)
                  go_wp2_with (first | (go_at_call 11; refine (HSm.out _ (below_drewN (Below.refl _ _) _)).mono ?_; rintro e w' ⟨rfl, rfl⟩) | fail)
                  go_roundw
                  case rel => exact ⟨k + 1, _, J4, hup.out.symm, by go_num, HS4.out.still (below_drewN (Below.refl _ _) _), HI4⟩
                  case measure => simp [intOf]; omega
                · have hs : a 0 < NN 0 := by omega
                  have r0 : wr3.cell? ⟨gc 0, a 0, none⟩ = some (.slice (some ⟨gr 0, a 0 * 256, none⟩) (8 + min 248 (nn 0 - a 0 * 248)) (8 + min 248 (nn 0 - a 0 * 248))) := row_cell (HS.out.dt.row 0 (by decide)) hs
                  have HTk : Hid (∀ w', Sd w w' w.heap.size jb m J3 gB gA gW gt ao nn cc NN gc gr kk (upd a 0 (a 0 + 1)) bb → Calls Tryd.prog 10 #[.pointer (some ⟨jb, 0, none⟩), .int .i64 (kk 0 : Int), .slice (some ⟨gr 0, a 0 * 256, none⟩) (8 + min 248 (nn 0 - a 0 * 248)) (8 + min 248 (nn 0 - a 0 * 248))] w' fun e w2 => TOut w w2 w.heap.size jb m J3 gB gA gW gt ao nn cc NN gc gr kk a bb 0 false e) := fun w' h => (show Calls _ _ _ _ _ from by
                    have h1 := Sd.tk HK.out HI.out (s := 0) (by decide) hs (HF0.out) HT.out h0B h
                    rw [decide_eq_false hla] at h1
                    exact h1)
                  have hmm : ¬ (256 : Int) < ((8 + min 248 (nn 0 - a 0 * 248) : Nat) : Int) := by omega
                  have l1 : (0 : Int) ≤ (a 0 : Int) := Int.natCast_nonneg _
                  have l2 : (a 0 : Int) < (NN 0 : Int) := by omega
                  have hlb : ((a 0 : Int) + 1 == (NN 0 : Int)) = false := by first | (rw [beq_iff_eq]; omega) | (rw [beq_eq_false_iff_ne]; omega)
                  have hup : Hid (upd a 0 (a 0 + 1) 0 + upd a 0 (a 0 + 1) 1 = k + 1) := (show _ = _ from by rw [hk.out]; simp [upd]; omega)
                  have hkl : k < NN 0 + NN 1 := by have := hk.out; omega
                  generalize 8 + min 248 (nn 0 - a 0 * 248) = mm at *
                  clear hs hla HF0 HF1
                  go_wp2_with fail
                  go_quiet (fail)
                  go_wp2_with fail
                  refine (HTk.out _ (Sd.bumpI (HS.out.still (below_drewN (Below.refl _ _) _)) 0)).mono ?_
                  rintro e w4 ⟨⟨ra, rn, rc, J4, rfl, hz, hrd, hS4, hI4⟩⟩
                  have z0 : w4.cell? ⟨gt, 0, none⟩ = some (.int .i64 ((a 0 : Int) + 1)) := by
                    have := hS4.at_.cell 0 (by decide)
                    rw [upd_same] at this
                    rw [this]
                    congr 2
                  have z1 : w4.cell? ⟨gA, 0, none⟩ = some (.slice (some ⟨gc 0, 0, none⟩) (NN 0) (NN 0)) := hS4.dt.ch.cell 0 (by decide)
                  have z2 : w4.cell? ⟨gB, 0, none⟩ = some (.slice (ao 0) (nn 0) (cc 0)) := hS4.dt.bl.cell 0 (by decide)
                  obtain rfl : rn = 0 := hz rfl
                  have HS4 : Hid (Sd w w4 w.heap.size jb m J4 gB gA gW gt ao nn cc NN gc gr kk (upd a 0 (a 0 + 1)) bb) := hS4
                  have HI4 : Hid (Iv m NN kk (upd a 0 (a 0 + 1)) bb J4) := hI4
                  clear hz hrd hS4 hI4 y0 y1 x0 x1 q0 q1 r0 f0
                  go_wp2_with fail
                  go_quiet (fail)
                  go_wp2
                  go_roundw
                  case rel => exact ⟨k + 1, _, J4, hup.out.symm, by go_num, HS4.out.still (below_drewN (Below.refl _ _) _), HI4⟩
                  case measure => simp [intOf]; omega
            · have e0 : a 0 = NN 0 := by omega
              have c0 : ¬ (a 0 : Int) < (NN 0 : Int) := by omega
              have c0b : ((a 0 : Int) == (NN 0 : Int)) = true := by rw [beq_iff_eq]; omega
              by_cases d1 : a 1 < NN 1
              · have c1 : (a 1 : Int) < (NN 1 : Int) := by omega
                have HF0 : Hid True := trivial
                have HF1 : Hid ((1 : Nat) = 1 → m = 1 → a 0 = NN 0) := fun _ _ => e0
                have f0 : wr3.frozen? ⟨gt, 1, none⟩ = false := HS.out.at_.fz 1
                clear e0 hk0
                by_cases hla : a 1 + 1 = NN 1
                · have hs : a 1 < NN 1 := by omega
                  have r0 : wr3.cell? ⟨gc 1, a 1, none⟩ = some (.slice (some ⟨gr 1, a 1 * 256, none⟩) (8 + min 248 (nn 1 - a 1 * 248)) (8 + min 248 (nn 1 - a 1 * 248))) := row_cell (HS.out.dt.row 1 (by decide)) hs
                  have HTk : Hid (∀ w', Sd w w' w.heap.size jb m J3 gB gA gW gt ao nn cc NN gc gr kk (upd a 1 (a 1 + 1)) bb → Calls Tryd.prog 10 #[.pointer (some ⟨jb, 0, none⟩), .int .i64 (kk 1 : Int), .slice (some ⟨gr 1, a 1 * 256, none⟩) (8 + min 248 (nn 1 - a 1 * 248)) (8 + min 248 (nn 1 - a 1 * 248))] w' fun e w2 => TOut w w2 w.heap.size jb m J3 gB gA gW gt ao nn cc NN gc gr kk a bb 1 true e) := fun w' h => (show Calls _ _ _ _ _ from by
                    have h1 := Sd.tk HK.out HI.out (s := 1) (by decide) hs (HF1.out) HT.out h0B h
                    rw [decide_eq_true hla] at h1
                    exact h1)
                  have hmm : ¬ (256 : Int) < ((8 + min 248 (nn 1 - a 1 * 248) : Nat) : Int) := by omega
                  have l1 : (0 : Int) ≤ (a 1 : Int) := Int.natCast_nonneg _
                  have l2 : (a 1 : Int) < (NN 1 : Int) := by omega
                  have hlb : ((a 1 : Int) + 1 == (NN 1 : Int)) = true := by first | (rw [beq_iff_eq]; omega) | (rw [beq_eq_false_iff_ne]; omega)
                  have hup : Hid (upd a 1 (a 1 + 1) 0 + upd a 1 (a 1 + 1) 1 = k + 1) := (show _ = _ from by rw [hk.out]; simp [upd]; omega)
                  have hkl : k < NN 0 + NN 1 := by have := hk.out; omega
                  generalize 8 + min 248 (nn 1 - a 1 * 248) = mm at *
                  clear hs hla HF0 HF1
                  go_wp2_with fail
                  go_quiet (fail)
                  go_wp2_with fail
                  refine (HTk.out _ (Sd.bumpI (HS.out.still (below_drewN (Below.refl _ _) _)) 1)).mono ?_
                  rintro e w4 ⟨⟨ra, rn, rc, J4, rfl, hz, hrd, hS4, hI4⟩⟩
                  have z0 : w4.cell? ⟨gt, 1, none⟩ = some (.int .i64 ((a 1 : Int) + 1)) := by
                    have := hS4.at_.cell 1 (by decide)
                    rw [upd_same] at this
                    rw [this]
                    congr 2
                  have z1 : w4.cell? ⟨gA, 1, none⟩ = some (.slice (some ⟨gc 1, 0, none⟩) (NN 1) (NN 1)) := hS4.dt.ch.cell 1 (by decide)
                  have z2 : w4.cell? ⟨gB, 1, none⟩ = some (.slice (ao 1) (nn 1) (cc 1)) := hS4.dt.bl.cell 1 (by decide)
                  have HSm : Hid (∀ w', Below w4.heap.size w4 w' → Calls Tryd.prog 11 #[.slice ra rn rc, .slice (ao 1) (nn 1) (cc 1)] w' fun e w2 => e = .returned (.bool true) ∧ w' = w2) := fun w' hb => same_any ((hrd rfl).still hb) ((HRd.out 1 (by decide)).still (hS4.jg.bel.trans (hb.mono hS4.jg.hB)))
                  have HS4 : Hid (Sd w w4 w.heap.size jb m J4 gB gA gW gt ao nn cc NN gc gr kk (upd a 1 (a 1 + 1)) bb) := hS4
                  have HI4 : Hid (Iv m NN kk (upd a 1 (a 1 + 1)) bb J4) := hI4
                  clear hz hrd hS4 hI4 y0 y1 x0 x1 q0 q1 r0 f0
                  go_wp2_with fail
                  go_quiet (fail)
                  go_wp2_with (first | (go_at_call 11; refine (HSm.out _ (below_drewN (Below.refl _ _) _)).mono ?_; rintro e w' ⟨rfl, rfl⟩) | fail)
                  go_roundw
                  case rel => exact ⟨k + 1, _, J4, hup.out.symm, by go_num, HS4.out.still (below_drewN (Below.refl _ _) _), HI4⟩
                  case measure => simp [intOf]; omega
                · have hs : a 1 < NN 1 := by omega
                  have r0 : wr3.cell? ⟨gc 1, a 1, none⟩ = some (.slice (some ⟨gr 1, a 1 * 256, none⟩) (8 + min 248 (nn 1 - a 1 * 248)) (8 + min 248 (nn 1 - a 1 * 248))) := row_cell (HS.out.dt.row 1 (by decide)) hs
                  have HTk : Hid (∀ w', Sd w w' w.heap.size jb m J3 gB gA gW gt ao nn cc NN gc gr kk (upd a 1 (a 1 + 1)) bb → Calls Tryd.prog 10 #[.pointer (some ⟨jb, 0, none⟩), .int .i64 (kk 1 : Int), .slice (some ⟨gr 1, a 1 * 256, none⟩) (8 + min 248 (nn 1 - a 1 * 248)) (8 + min 248 (nn 1 - a 1 * 248))] w' fun e w2 => TOut w w2 w.heap.size jb m J3 gB gA gW gt ao nn cc NN gc gr kk a bb 1 false e) := fun w' h => (show Calls _ _ _ _ _ from by
                    have h1 := Sd.tk HK.out HI.out (s := 1) (by decide) hs (HF1.out) HT.out h0B h
                    rw [decide_eq_false hla] at h1
                    exact h1)
                  have hmm : ¬ (256 : Int) < ((8 + min 248 (nn 1 - a 1 * 248) : Nat) : Int) := by omega
                  have l1 : (0 : Int) ≤ (a 1 : Int) := Int.natCast_nonneg _
                  have l2 : (a 1 : Int) < (NN 1 : Int) := by omega
                  have hlb : ((a 1 : Int) + 1 == (NN 1 : Int)) = false := by first | (rw [beq_iff_eq]; omega) | (rw [beq_eq_false_iff_ne]; omega)
                  have hup : Hid (upd a 1 (a 1 + 1) 0 + upd a 1 (a 1 + 1) 1 = k + 1) := (show _ = _ from by rw [hk.out]; simp [upd]; omega)
                  have hkl : k < NN 0 + NN 1 := by have := hk.out; omega
                  generalize 8 + min 248 (nn 1 - a 1 * 248) = mm at *
                  clear hs hla HF0 HF1
                  go_wp2_with fail
                  go_quiet (fail)
                  go_wp2_with fail
                  refine (HTk.out _ (Sd.bumpI (HS.out.still (below_drewN (Below.refl _ _) _)) 1)).mono ?_
                  rintro e w4 ⟨⟨ra, rn, rc, J4, rfl, hz, hrd, hS4, hI4⟩⟩
                  have z0 : w4.cell? ⟨gt, 1, none⟩ = some (.int .i64 ((a 1 : Int) + 1)) := by
                    have := hS4.at_.cell 1 (by decide)
                    rw [upd_same] at this
                    rw [this]
                    congr 2
                  have z1 : w4.cell? ⟨gA, 1, none⟩ = some (.slice (some ⟨gc 1, 0, none⟩) (NN 1) (NN 1)) := hS4.dt.ch.cell 1 (by decide)
                  have z2 : w4.cell? ⟨gB, 1, none⟩ = some (.slice (ao 1) (nn 1) (cc 1)) := hS4.dt.bl.cell 1 (by decide)
                  obtain rfl : rn = 0 := hz rfl
                  have HS4 : Hid (Sd w w4 w.heap.size jb m J4 gB gA gW gt ao nn cc NN gc gr kk (upd a 1 (a 1 + 1)) bb) := hS4
                  have HI4 : Hid (Iv m NN kk (upd a 1 (a 1 + 1)) bb J4) := hI4
                  clear hz hrd hS4 hI4 y0 y1 x0 x1 q0 q1 r0 f0
                  go_wp2_with fail
                  go_quiet (fail)
                  go_wp2
                  go_roundw
                  case rel => exact ⟨k + 1, _, J4, hup.out.symm, by go_num, HS4.out.still (below_drewN (Below.refl _ _) _), HI4⟩
                  case measure => simp [intOf]; omega
              · have c1 : ¬ (a 1 : Int) < (NN 1 : Int) := by omega
                have HH : Hid (∀ s, s < 2 → Calls Tryd.prog 12 #[.pointer (some ⟨jb, 0, none⟩), .int .i64 (kk s : Int)] wr3 fun e w' => e = .returned (.int .i64 0) ∧ wr3 = w') := fun s hs => HS.out.held HK.out HI.out e0 (by omega) s hs
                have HH0 : Hid (Calls Tryd.prog 12 #[.pointer (some ⟨jb, 0, none⟩), .int .i64 0] wr3 fun e w' => e = .returned (.int .i64 0) ∧ wr3 = w') := (show Calls _ _ _ _ _ from by
                  have h1 := HH.out 0 (by decide)
                  rw [HK.out.k0] at h1
                  exact h1)
                have HH1 : Hid (Calls Tryd.prog 12 #[.pointer (some ⟨jb, 0, none⟩), .int .i64 (kk 1 : Int)] wr3 fun e w' => e = .returned (.int .i64 0) ∧ wr3 = w') := HH.out 1 (by decide)
                clear e0 hk0
                go_wp2_with fail
                refine HH0.out.mono ?_
                rintro e w' ⟨rfl, rfl⟩
                go_wp2_with fail
                refine HH1.out.mono ?_
                rintro e w' ⟨rfl, rfl⟩
                go_wp2
                go_ret
                exact ⟨rfl, HS.out.jg.bel⟩
end
end Go.Proofs.YtmphabgpabbbjaaDoor.Fg
