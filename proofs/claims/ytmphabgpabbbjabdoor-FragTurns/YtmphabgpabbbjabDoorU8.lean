import Derived.Test.YtmphabgpabbbjabDoorU7
namespace Go.Proofs.YtmphabgpabbbjabDoor.Fg
open Go.RowKit Mb Ov
set_option linter.unusedVariables false
set_option maxRecDepth 100000
set_option linter.unusedSimpArgs false
section
variable {w w' W : World} {B : Nat}
theorem plays_at {wr : World} {J : Jn} {Q : Qn} {jb qb : Nat} {oa : Option Addr} {on i : Nat} {os : Nat → Opx} (hJ : J.b = jb ∧ Q.b = qb) (hD : Duo wr w.heap.size J Q) (hB : Below w.heap.size w wr) (HO : RdOps w oa on os) (hT : Tab w) (h0B : 0 < w.heap.size) (hlt : i < on) : Calls Tryd.prog 8 #[.pointer (some ⟨jb, 0, none⟩), .pointer (some ⟨qb, 0, none⟩), .agg #[.int .i64 (os i).k, .int .i64 (os i).s, .slice (os i).a (os i).m (os i).c]] wr fun e w' => PlOut wr w' w.heap.size J Q e := by
  obtain ⟨b, off, hoa, x0, x1, x2, hrd, hlm, hs1, hs2⟩ := HO.at hB hlt
  have hp := plays_any (k := (os i).k) (s := (os i).s) hD hrd hlm (fun h0 => (HO.2 i hlt).rd.inl h0) (hT.still hB) h0B hB.size
  rw [hJ.1, hJ.2] at hp
  exact hp
set_option maxHeartbeats 4000000 in
theorem turns_00 {x : Int} (hx : ¬ (1 ≤ x ∧ x ≤ 16)) {y : Int} (hy : ¬ (1 ≤ y ∧ y ≤ 16)) {oa1 oa2 : Option Addr} {on1 oc1 on2 oc2 : Nat} {os1 os2 : Nat → Opx} (ho1 : RdOps w oa1 on1 os1) (hl1 : on1 ≤ 4398046511104) (ho2 : RdOps w oa2 on2 os2) (hl2 : on2 ≤ 4398046511104) (hT : Tab w) : Calls Tryd.prog 4 #[.int .i64 x, .int .i64 y, .slice oa1 on1 oc1, .slice oa2 on2 oc2] w fun e w' => e = .returned (.bool true) ∧ Below w.heap.size w w' := by
  have HO1 : Hid (RdOps w oa1 on1 os1) := ho1
  have HO2 : Hid (RdOps w oa2 on2 os2) := ho2
  have HT : Hid (Tab w) := hT
  have h0B : 0 < w.heap.size := World.block_lt_of_cell? w _ (hT 0 (by omega))
  clear ho1 ho2 hT
  go_enter Tryd.func4, Tryd.ntmps4
  go_wp2_with fail
  refine (new_no hx).mono ?_
  rintro e w' ⟨rfl, rfl⟩
  go_wp2_with fail
  refine (qnew_no hx).mono ?_
  rintro e w' ⟨rfl, rfl⟩
  go_wp2_with fail
  refine (new_no hy).mono ?_
  rintro e w' ⟨rfl, rfl⟩
  go_wp2_with fail
  refine (qnew_no hy).mono ?_
  rintro e w' ⟨rfl, rfl⟩
  have HB : Hid (Below w.heap.size w w) := Below.refl _ _
  go_wp2_with (first
    | (go_at_call 7; refine (num_any _).mono ?_; rintro e w' ⟨rfl, rfl⟩)
    | fail)
  go_loopw [17] (fun v wr => ∃ (i : Nat), i ≤ max on1 on2 ∧ v = .int .i64 (i : Int) ∧ Hid (Below w.heap.size w wr)) (fun v _ => max on1 on2 - (intOf v).toNat)
  case atStart => exact ⟨0, by omega, rfl, HB⟩
  case round =>
    obtain ⟨i, hi, rfl, hB⟩ := hrel
    have i1 : (0 : Int) ≤ (i : Int) := Int.natCast_nonneg _
    by_cases h1 : i < on1
    · by_cases h2 : i < on2
      · skip
        have t1 : (i : Int) < (on1 : Int) := by omega
        have t2 : (i : Int) < (on2 : Int) := by omega
        go_wp2
        go_roundw
        case rel => exact ⟨i + 1, by omega, by go_num, hB⟩
        case measure => simp [intOf]; omega
      · skip
        have t1 : (i : Int) < (on1 : Int) := by omega
        have t2 : ¬ (i : Int) < (on2 : Int) := by omega
        go_wp2
        go_roundw
        case rel => exact ⟨i + 1, by omega, by go_num, hB⟩
        case measure => simp [intOf]; omega
    · by_cases h2 : i < on2
      · skip
        have t1 : ¬ (i : Int) < (on1 : Int) := by omega
        have t2 : (i : Int) < (on2 : Int) := by omega
        go_wp2
        go_roundw
        case rel => exact ⟨i + 1, by omega, by go_num, hB⟩
        case measure => simp [intOf]; omega
      · have t1 : ¬ (i : Int) < (on1 : Int) := by omega
        have t2 : ¬ (i : Int) < (on2 : Int) := by omega
        go_wp2
        go_ret
        exact ⟨rfl, hB.out⟩
set_option maxHeartbeats 4000000 in
theorem turns_10 {n : Nat} (hn1 : 1 ≤ n) (hn2 : n ≤ 16) {y : Int} (hy : ¬ (1 ≤ y ∧ y ≤ 16)) {oa1 oa2 : Option Addr} {on1 oc1 on2 oc2 : Nat} {os1 os2 : Nat → Opx} (ho1 : RdOps w oa1 on1 os1) (hl1 : on1 ≤ 4398046511104) (ho2 : RdOps w oa2 on2 os2) (hl2 : on2 ≤ 4398046511104) (hT : Tab w) : Calls Tryd.prog 4 #[.int .i64 (n : Int), .int .i64 y, .slice oa1 on1 oc1, .slice oa2 on2 oc2] w fun e w' => e = .returned (.bool true) ∧ Below w.heap.size w w' := by
  have HO1 : Hid (RdOps w oa1 on1 os1) := ho1
  have HO2 : Hid (RdOps w oa2 on2 os2) := ho2
  have HT : Hid (Tab w) := hT
  have h0B : 0 < w.heap.size := World.block_lt_of_cell? w _ (hT 0 (by omega))
  clear ho1 ho2 hT
  go_enter Tryd.func4, Tryd.ntmps4
  go_wp2_with fail
  refine (new_ok hn1 hn2).mono ?_
  rintro e wa1 ⟨jb1, bp1, rfl, hj1, hba1⟩
  go_wp2_with fail
  refine (qnew_ok hn1 hn2).mono ?_
  rintro e wb1 ⟨qb1, rfl, hq1, hbb1⟩
  go_wp2_with fail
  refine (new_no hy).mono ?_
  rintro e w' ⟨rfl, rfl⟩
  go_wp2_with fail
  refine (qnew_no hy).mono ?_
  rintro e w' ⟨rfl, rfl⟩
  have HD1 : Hid (Duo wb1 w.heap.size (jnew jb1 bp1 n) (qnew qb1 n)) := duo_new hj1 hba1 hq1 hbb1
  have hB1 : Below w.heap.size w wb1 := bstep hba1 hbb1
  have HD1' := HD1
  have HB : Hid (Below w.heap.size w wb1) := hB1
  have HJ1 : Hid ((jnew jb1 bp1 n).b = jb1 ∧ (qnew qb1 n).b = qb1) := ⟨rfl, rfl⟩
  generalize jnew jb1 bp1 n = Ja1 at *
  generalize qnew qb1 n = Qa1 at *
  clear hj1 hba1 hq1 hbb1 hB1 HD1
  go_wp2_with (first
    | (go_at_call 7; refine (num_any _).mono ?_; rintro e w' ⟨rfl, rfl⟩)
    | fail)
  go_loopw [17] (fun v wr => ∃ (i : Nat) (J1 : Jn) (Q1 : Qn), i ≤ max on1 on2 ∧ v = .int .i64 (i : Int) ∧ Hid (J1.b = jb1 ∧ Q1.b = qb1) ∧ Hid (Duo wr w.heap.size J1 Q1) ∧ Hid (Below w.heap.size w wr)) (fun v _ => max on1 on2 - (intOf v).toNat)
  case atStart => exact ⟨0, Ja1, Qa1, by omega, rfl, HJ1, HD1', HB⟩
  case round =>
    obtain ⟨i, J1, Q1, hi, rfl, hJ1, hD1, hB⟩ := hrel
    have i1 : (0 : Int) ≤ (i : Int) := Int.natCast_nonneg _
    by_cases h1 : i < on1
    · by_cases h2 : i < on2
      · skip
        have t1 : (i : Int) < (on1 : Int) := by omega
        have t2 : (i : Int) < (on2 : Int) := by omega
        obtain ⟨b1, off1, hoa1, x10, x11, x12, _⟩ := HO1.out.at hB.out (i := i) (by omega)
        have HP1 := plays_at hJ1.out hD1.out hB.out HO1.out HT.out h0B (i := i) (by omega)
        generalize (os1 i).k = qk1 at *
        generalize (os1 i).s = qs1 at *
        generalize (os1 i).a = qa1 at *
        generalize (os1 i).m = qm1 at *
        generalize (os1 i).c = qc1 at *
        have HP1h : Hid (Calls Tryd.prog 8 #[.pointer (some ⟨jb1, 0, none⟩), .pointer (some ⟨qb1, 0, none⟩), .agg #[.int .i64 qk1, .int .i64 qs1, .slice qa1 qm1 qc1]] wr fun e w' => PlOut wr w' w.heap.size J1 Q1 e) := HP1
        clear HP1
        subst hoa1
        go_wp2_with fail
        refine HP1h.out.mono ?_
        rintro e w3 ⟨rfl, J1', Q1', hJ1', hQ1', hD1', hk1', hown1'⟩
        have hB3 : Below w.heap.size w w3 := hB.out.trans (hk1'.below hB.out.size (fun j hj hh => by have := hD1.out.lo j hh; omega))
        have HF1 : Hid (J1'.b = jb1 ∧ Q1'.b = qb1) := ⟨hJ1'.trans hJ1.out.1, hQ1'.trans hJ1.out.2⟩
        go_wp2
        go_roundw
        case rel => exact ⟨i + 1, J1', Q1', by omega, by go_num, HF1, hD1', hB3⟩
        case measure => simp [intOf]; omega
      · skip
        have t1 : (i : Int) < (on1 : Int) := by omega
        have t2 : ¬ (i : Int) < (on2 : Int) := by omega
        obtain ⟨b1, off1, hoa1, x10, x11, x12, _⟩ := HO1.out.at hB.out (i := i) (by omega)
        have HP1 := plays_at hJ1.out hD1.out hB.out HO1.out HT.out h0B (i := i) (by omega)
        generalize (os1 i).k = qk1 at *
        generalize (os1 i).s = qs1 at *
        generalize (os1 i).a = qa1 at *
        generalize (os1 i).m = qm1 at *
        generalize (os1 i).c = qc1 at *
        have HP1h : Hid (Calls Tryd.prog 8 #[.pointer (some ⟨jb1, 0, none⟩), .pointer (some ⟨qb1, 0, none⟩), .agg #[.int .i64 qk1, .int .i64 qs1, .slice qa1 qm1 qc1]] wr fun e w' => PlOut wr w' w.heap.size J1 Q1 e) := HP1
        clear HP1
        subst hoa1
        go_wp2_with fail
        refine HP1h.out.mono ?_
        rintro e w3 ⟨rfl, J1', Q1', hJ1', hQ1', hD1', hk1', hown1'⟩
        have hB3 : Below w.heap.size w w3 := hB.out.trans (hk1'.below hB.out.size (fun j hj hh => by have := hD1.out.lo j hh; omega))
        have HF1 : Hid (J1'.b = jb1 ∧ Q1'.b = qb1) := ⟨hJ1'.trans hJ1.out.1, hQ1'.trans hJ1.out.2⟩
        go_wp2
        go_roundw
        case rel => exact ⟨i + 1, J1', Q1', by omega, by go_num, HF1, hD1', hB3⟩
        case measure => simp [intOf]; omega
    · by_cases h2 : i < on2
      · skip
        have t1 : ¬ (i : Int) < (on1 : Int) := by omega
        have t2 : (i : Int) < (on2 : Int) := by omega
        go_wp2
        go_roundw
        case rel => exact ⟨i + 1, J1, Q1, by omega, by go_num, hJ1, hD1, hB⟩
        case measure => simp [intOf]; omega
      · have t1 : ¬ (i : Int) < (on1 : Int) := by omega
        have t2 : ¬ (i : Int) < (on2 : Int) := by omega
        go_wp2
        go_ret
        exact ⟨rfl, hB.out⟩
set_option maxHeartbeats 4000000 in
theorem turns_01 {x : Int} (hx : ¬ (1 ≤ x ∧ x ≤ 16)) {m : Nat} (hm1 : 1 ≤ m) (hm2 : m ≤ 16) {oa1 oa2 : Option Addr} {on1 oc1 on2 oc2 : Nat} {os1 os2 : Nat → Opx} (ho1 : RdOps w oa1 on1 os1) (hl1 : on1 ≤ 4398046511104) (ho2 : RdOps w oa2 on2 os2) (hl2 : on2 ≤ 4398046511104) (hT : Tab w) : Calls Tryd.prog 4 #[.int .i64 x, .int .i64 (m : Int), .slice oa1 on1 oc1, .slice oa2 on2 oc2] w fun e w' => e = .returned (.bool true) ∧ Below w.heap.size w w' := by
  have HO1 : Hid (RdOps w oa1 on1 os1) := ho1
  have HO2 : Hid (RdOps w oa2 on2 os2) := ho2
  have HT : Hid (Tab w) := hT
  have h0B : 0 < w.heap.size := World.block_lt_of_cell? w _ (hT 0 (by omega))
  clear ho1 ho2 hT
  go_enter Tryd.func4, Tryd.ntmps4
  go_wp2_with fail
  refine (new_no hx).mono ?_
  rintro e w' ⟨rfl, rfl⟩
  go_wp2_with fail
  refine (qnew_no hx).mono ?_
  rintro e w' ⟨rfl, rfl⟩
  go_wp2_with fail
  refine (new_ok hm1 hm2).mono ?_
  rintro e wa2 ⟨jb2, bp2, rfl, hj2, hba2⟩
  go_wp2_with fail
  refine (qnew_ok hm1 hm2).mono ?_
  rintro e wb2 ⟨qb2, rfl, hq2, hbb2⟩
  have hd2 : Duo wb2 w.heap.size (jnew jb2 bp2 m) (qnew qb2 m) := duo_new hj2 hba2 hq2 hbb2
  have hB2 : Below w.heap.size w wb2 := bstep hba2 hbb2
  have HD2 : Hid (Duo wb2 w.heap.size (jnew jb2 bp2 m) (qnew qb2 m)) := ⟨hd2.j.lower (Nat.le_refl _), hd2.q.lower (Nat.le_refl _), hd2.n, hd2.rel, hd2.dj⟩
  have HB : Hid (Below w.heap.size w wb2) := hB2
  have HJ2 : Hid ((jnew jb2 bp2 m).b = jb2 ∧ (qnew qb2 m).b = qb2) := ⟨rfl, rfl⟩
  generalize jnew jb2 bp2 m = Ja2 at *
  generalize qnew qb2 m = Qa2 at *
  clear hj2 hba2 hq2 hbb2 hB2 hd2
  go_wp2_with (first
    | (go_at_call 7; refine (num_any _).mono ?_; rintro e w' ⟨rfl, rfl⟩)
    | fail)
  go_loopw [17] (fun v wr => ∃ (i : Nat) (J2 : Jn) (Q2 : Qn), i ≤ max on1 on2 ∧ v = .int .i64 (i : Int) ∧ Hid (J2.b = jb2 ∧ Q2.b = qb2) ∧ Hid (Duo wr w.heap.size J2 Q2) ∧ Hid (Below w.heap.size w wr)) (fun v _ => max on1 on2 - (intOf v).toNat)
  case atStart => exact ⟨0, Ja2, Qa2, by omega, rfl, HJ2, HD2, HB⟩
  case round =>
    obtain ⟨i, J2, Q2, hi, rfl, hJ2, hD2, hB⟩ := hrel
    have i1 : (0 : Int) ≤ (i : Int) := Int.natCast_nonneg _
    by_cases h1 : i < on1
    · by_cases h2 : i < on2
      · skip
        have t1 : (i : Int) < (on1 : Int) := by omega
        have t2 : (i : Int) < (on2 : Int) := by omega
        obtain ⟨b2, off2, hoa2, x20, x21, x22, _⟩ := HO2.out.at hB.out (i := i) (by omega)
        have HP2 := plays_at hJ2.out hD2.out hB.out HO2.out HT.out h0B (i := i) (by omega)
        generalize (os2 i).k = qk2 at *
        generalize (os2 i).s = qs2 at *
        generalize (os2 i).a = qa2 at *
        generalize (os2 i).m = qm2 at *
        generalize (os2 i).c = qc2 at *
        have HP2h : Hid (Calls Tryd.prog 8 #[.pointer (some ⟨jb2, 0, none⟩), .pointer (some ⟨qb2, 0, none⟩), .agg #[.int .i64 qk2, .int .i64 qs2, .slice qa2 qm2 qc2]] wr fun e w' => PlOut wr w' w.heap.size J2 Q2 e) := HP2
        clear HP2
        subst hoa2
        go_wp2_with fail
        refine HP2h.out.mono ?_
        rintro e w5 ⟨rfl, J2', Q2', hJ2', hQ2', hD2', hk2', hown2'⟩
        have hB5 : Below w.heap.size w w5 := (hB.out).trans (hk2'.below (hB.out).size (fun j hj hh => by have := (hD2.out).lo j hh; omega))
        have HF2 : Hid (J2'.b = jb2 ∧ Q2'.b = qb2) := ⟨hJ2'.trans hJ2.out.1, hQ2'.trans hJ2.out.2⟩
        go_wp2
        go_roundw
        case rel => exact ⟨i + 1, J2', Q2', by omega, by go_num, HF2, hD2', hB5⟩
        case measure => simp [intOf]; omega
      · skip
        have t1 : (i : Int) < (on1 : Int) := by omega
        have t2 : ¬ (i : Int) < (on2 : Int) := by omega
        go_wp2
        go_roundw
        case rel => exact ⟨i + 1, J2, Q2, by omega, by go_num, hJ2, hD2, hB⟩
        case measure => simp [intOf]; omega
    · by_cases h2 : i < on2
      · skip
        have t1 : ¬ (i : Int) < (on1 : Int) := by omega
        have t2 : (i : Int) < (on2 : Int) := by omega
        obtain ⟨b2, off2, hoa2, x20, x21, x22, _⟩ := HO2.out.at hB.out (i := i) (by omega)
        have HP2 := plays_at hJ2.out hD2.out hB.out HO2.out HT.out h0B (i := i) (by omega)
        generalize (os2 i).k = qk2 at *
        generalize (os2 i).s = qs2 at *
        generalize (os2 i).a = qa2 at *
        generalize (os2 i).m = qm2 at *
        generalize (os2 i).c = qc2 at *
        have HP2h : Hid (Calls Tryd.prog 8 #[.pointer (some ⟨jb2, 0, none⟩), .pointer (some ⟨qb2, 0, none⟩), .agg #[.int .i64 qk2, .int .i64 qs2, .slice qa2 qm2 qc2]] wr fun e w' => PlOut wr w' w.heap.size J2 Q2 e) := HP2
        clear HP2
        subst hoa2
        go_wp2_with fail
        refine HP2h.out.mono ?_
        rintro e w5 ⟨rfl, J2', Q2', hJ2', hQ2', hD2', hk2', hown2'⟩
        have hB5 : Below w.heap.size w w5 := (hB.out).trans (hk2'.below (hB.out).size (fun j hj hh => by have := (hD2.out).lo j hh; omega))
        have HF2 : Hid (J2'.b = jb2 ∧ Q2'.b = qb2) := ⟨hJ2'.trans hJ2.out.1, hQ2'.trans hJ2.out.2⟩
        go_wp2
        go_roundw
        case rel => exact ⟨i + 1, J2', Q2', by omega, by go_num, HF2, hD2', hB5⟩
        case measure => simp [intOf]; omega
      · have t1 : ¬ (i : Int) < (on1 : Int) := by omega
        have t2 : ¬ (i : Int) < (on2 : Int) := by omega
        go_wp2
        go_ret
        exact ⟨rfl, hB.out⟩
set_option maxHeartbeats 4000000 in
theorem turns_11 {n : Nat} (hn1 : 1 ≤ n) (hn2 : n ≤ 16) {m : Nat} (hm1 : 1 ≤ m) (hm2 : m ≤ 16) {oa1 oa2 : Option Addr} {on1 oc1 on2 oc2 : Nat} {os1 os2 : Nat → Opx} (ho1 : RdOps w oa1 on1 os1) (hl1 : on1 ≤ 4398046511104) (ho2 : RdOps w oa2 on2 os2) (hl2 : on2 ≤ 4398046511104) (hT : Tab w) : Calls Tryd.prog 4 #[.int .i64 (n : Int), .int .i64 (m : Int), .slice oa1 on1 oc1, .slice oa2 on2 oc2] w fun e w' => e = .returned (.bool true) ∧ Below w.heap.size w w' := by
  have HO1 : Hid (RdOps w oa1 on1 os1) := ho1
  have HO2 : Hid (RdOps w oa2 on2 os2) := ho2
  have HT : Hid (Tab w) := hT
  have h0B : 0 < w.heap.size := World.block_lt_of_cell? w _ (hT 0 (by omega))
  clear ho1 ho2 hT
  go_enter Tryd.func4, Tryd.ntmps4
  go_wp2_with fail
  refine (new_ok hn1 hn2).mono ?_
  rintro e wa1 ⟨jb1, bp1, rfl, hj1, hba1⟩
  go_wp2_with fail
  refine (qnew_ok hn1 hn2).mono ?_
  rintro e wb1 ⟨qb1, rfl, hq1, hbb1⟩
  go_wp2_with fail
  refine (new_ok hm1 hm2).mono ?_
  rintro e wa2 ⟨jb2, bp2, rfl, hj2, hba2⟩
  go_wp2_with fail
  refine (qnew_ok hm1 hm2).mono ?_
  rintro e wb2 ⟨qb2, rfl, hq2, hbb2⟩
  have HD1 : Hid (Duo wb1 w.heap.size (jnew jb1 bp1 n) (qnew qb1 n)) := duo_new hj1 hba1 hq1 hbb1
  have hB1 : Below w.heap.size w wb1 := bstep hba1 hbb1
  have hd2 : Duo wb2 wb1.heap.size (jnew jb2 bp2 m) (qnew qb2 m) := duo_new hj2 hba2 hq2 hbb2
  have hB2 : Below wb1.heap.size wb1 wb2 := bstep hba2 hbb2
  have HD2 : Hid (Duo wb2 w.heap.size (jnew jb2 bp2 m) (qnew qb2 m)) := ⟨hd2.j.lower hB1.size, hd2.q.lower hB1.size, hd2.n, hd2.rel, hd2.dj⟩
  have HDx : Hid (∀ k, down (jnew jb1 bp1 n) (qnew qb1 n) k → ¬ down (jnew jb2 bp2 m) (qnew qb2 m) k) := fun k h1 h2 => by have := HD1.out.lt k h1; have := hd2.lo k h2; omega
  have HD1' : Hid (Duo wb2 w.heap.size (jnew jb1 bp1 n) (qnew qb1 n)) := HD1.out.still hB2
  have HB : Hid (Below w.heap.size w wb2) := bstep hB1 hB2
  have HJ1 : Hid ((jnew jb1 bp1 n).b = jb1 ∧ (qnew qb1 n).b = qb1) := ⟨rfl, rfl⟩
  generalize jnew jb1 bp1 n = Ja1 at *
  generalize qnew qb1 n = Qa1 at *
  have HJ2 : Hid ((jnew jb2 bp2 m).b = jb2 ∧ (qnew qb2 m).b = qb2) := ⟨rfl, rfl⟩
  generalize jnew jb2 bp2 m = Ja2 at *
  generalize qnew qb2 m = Qa2 at *
  clear hj1 hba1 hq1 hbb1 hB1 HD1 hj2 hba2 hq2 hbb2 hB2 hd2
  go_wp2_with (first
    | (go_at_call 7; refine (num_any _).mono ?_; rintro e w' ⟨rfl, rfl⟩)
    | fail)
  go_loopw [17] (fun v wr => ∃ (i : Nat) (J1 : Jn) (Q1 : Qn) (J2 : Jn) (Q2 : Qn), i ≤ max on1 on2 ∧ v = .int .i64 (i : Int) ∧ Hid (J1.b = jb1 ∧ Q1.b = qb1) ∧ Hid (Duo wr w.heap.size J1 Q1) ∧ Hid (J2.b = jb2 ∧ Q2.b = qb2) ∧ Hid (Duo wr w.heap.size J2 Q2) ∧ Hid (∀ k, down J1 Q1 k → ¬ down J2 Q2 k) ∧ Hid (Below w.heap.size w wr)) (fun v _ => max on1 on2 - (intOf v).toNat)
  case atStart => exact ⟨0, Ja1, Qa1, Ja2, Qa2, by omega, rfl, HJ1, HD1', HJ2, HD2, HDx, HB⟩
  case round =>
    obtain ⟨i, J1, Q1, J2, Q2, hi, rfl, hJ1, hD1, hJ2, hD2, hdx, hB⟩ := hrel
    have i1 : (0 : Int) ≤ (i : Int) := Int.natCast_nonneg _
    by_cases h1 : i < on1
    · by_cases h2 : i < on2
      · skip
        have t1 : (i : Int) < (on1 : Int) := by omega
        have t2 : (i : Int) < (on2 : Int) := by omega
        obtain ⟨b1, off1, hoa1, x10, x11, x12, _⟩ := HO1.out.at hB.out (i := i) (by omega)
        have HP1 := plays_at hJ1.out hD1.out hB.out HO1.out HT.out h0B (i := i) (by omega)
        generalize (os1 i).k = qk1 at *
        generalize (os1 i).s = qs1 at *
        generalize (os1 i).a = qa1 at *
        generalize (os1 i).m = qm1 at *
        generalize (os1 i).c = qc1 at *
        have HP1h : Hid (Calls Tryd.prog 8 #[.pointer (some ⟨jb1, 0, none⟩), .pointer (some ⟨qb1, 0, none⟩), .agg #[.int .i64 qk1, .int .i64 qs1, .slice qa1 qm1 qc1]] wr fun e w' => PlOut wr w' w.heap.size J1 Q1 e) := HP1
        clear HP1
        subst hoa1
        go_wp2_with fail
        refine HP1h.out.mono ?_
        rintro e w3 ⟨rfl, J1', Q1', hJ1', hQ1', hD1', hk1', hown1'⟩
        have hB3 : Below w.heap.size w w3 := hB.out.trans (hk1'.below hB.out.size (fun j hj hh => by have := hD1.out.lo j hh; omega))
        have HF1 : Hid (J1'.b = jb1 ∧ Q1'.b = qb1) := ⟨hJ1'.trans hJ1.out.1, hQ1'.trans hJ1.out.2⟩
        have hD23 : Duo w3 w.heap.size J2 Q2 := hD2.out.keep hk1' fun j hj hh => hdx.out j hh hj
        have hdx3 : ∀ k, down J1' Q1' k → ¬ down J2 Q2 k := fun k h1 h2 => by
          rcases hown1' k h1 with h3 | h3
          · exact hdx.out k h3 h2
          · have := hD2.out.lt k h2
            omega
        obtain ⟨b2, off2, hoa2, x20, x21, x22, _⟩ := HO2.out.at hB3 (i := i) (by omega)
        have HP2 := plays_at hJ2.out hD23 hB3 HO2.out HT.out h0B (i := i) (by omega)
        generalize (os2 i).k = qk2 at *
        generalize (os2 i).s = qs2 at *
        generalize (os2 i).a = qa2 at *
        generalize (os2 i).m = qm2 at *
        generalize (os2 i).c = qc2 at *
        have HP2h : Hid (Calls Tryd.prog 8 #[.pointer (some ⟨jb2, 0, none⟩), .pointer (some ⟨qb2, 0, none⟩), .agg #[.int .i64 qk2, .int .i64 qs2, .slice qa2 qm2 qc2]] w3 fun e w' => PlOut w3 w' w.heap.size J2 Q2 e) := HP2
        clear HP2
        subst hoa2
        go_wp2_with fail
        refine HP2h.out.mono ?_
        rintro e w5 ⟨rfl, J2', Q2', hJ2', hQ2', hD2', hk2', hown2'⟩
        have hB5 : Below w.heap.size w w5 := (hB3).trans (hk2'.below (hB3).size (fun j hj hh => by have := (hD23).lo j hh; omega))
        have HF2 : Hid (J2'.b = jb2 ∧ Q2'.b = qb2) := ⟨hJ2'.trans hJ2.out.1, hQ2'.trans hJ2.out.2⟩
        have hD15 : Duo w5 w.heap.size J1' Q1' := (hD1').keep hk2' fun j hj hh => hdx3 j hj hh
        have hdx5 : ∀ k, down J1' Q1' k → ¬ down J2' Q2' k := fun k h1 h2 => by
          rcases hown2' k h2 with h3 | h3
          · exact hdx3 k h1 h3
          · have := (hD1').lt k h1
            omega
        go_wp2
        go_roundw
        case rel => exact ⟨i + 1, J1', Q1', J2', Q2', by omega, by go_num, HF1, hD15, HF2, hD2', hdx5, hB5⟩
        case measure => simp [intOf]; omega
      · skip
        have t1 : (i : Int) < (on1 : Int) := by omega
        have t2 : ¬ (i : Int) < (on2 : Int) := by omega
        obtain ⟨b1, off1, hoa1, x10, x11, x12, _⟩ := HO1.out.at hB.out (i := i) (by omega)
        have HP1 := plays_at hJ1.out hD1.out hB.out HO1.out HT.out h0B (i := i) (by omega)
        generalize (os1 i).k = qk1 at *
        generalize (os1 i).s = qs1 at *
        generalize (os1 i).a = qa1 at *
        generalize (os1 i).m = qm1 at *
        generalize (os1 i).c = qc1 at *
        have HP1h : Hid (Calls Tryd.prog 8 #[.pointer (some ⟨jb1, 0, none⟩), .pointer (some ⟨qb1, 0, none⟩), .agg #[.int .i64 qk1, .int .i64 qs1, .slice qa1 qm1 qc1]] wr fun e w' => PlOut wr w' w.heap.size J1 Q1 e) := HP1
        clear HP1
        subst hoa1
        go_wp2_with fail
        refine HP1h.out.mono ?_
        rintro e w3 ⟨rfl, J1', Q1', hJ1', hQ1', hD1', hk1', hown1'⟩
        have hB3 : Below w.heap.size w w3 := hB.out.trans (hk1'.below hB.out.size (fun j hj hh => by have := hD1.out.lo j hh; omega))
        have HF1 : Hid (J1'.b = jb1 ∧ Q1'.b = qb1) := ⟨hJ1'.trans hJ1.out.1, hQ1'.trans hJ1.out.2⟩
        have hD23 : Duo w3 w.heap.size J2 Q2 := hD2.out.keep hk1' fun j hj hh => hdx.out j hh hj
        have hdx3 : ∀ k, down J1' Q1' k → ¬ down J2 Q2 k := fun k h1 h2 => by
          rcases hown1' k h1 with h3 | h3
          · exact hdx.out k h3 h2
          · have := hD2.out.lt k h2
            omega
        go_wp2
        go_roundw
        case rel => exact ⟨i + 1, J1', Q1', J2, Q2, by omega, by go_num, HF1, hD1', hJ2, hD23, hdx3, hB3⟩
        case measure => simp [intOf]; omega
    · by_cases h2 : i < on2
      · skip
        have t1 : ¬ (i : Int) < (on1 : Int) := by omega
        have t2 : (i : Int) < (on2 : Int) := by omega
        obtain ⟨b2, off2, hoa2, x20, x21, x22, _⟩ := HO2.out.at hB.out (i := i) (by omega)
        have HP2 := plays_at hJ2.out hD2.out hB.out HO2.out HT.out h0B (i := i) (by omega)
        generalize (os2 i).k = qk2 at *
        generalize (os2 i).s = qs2 at *
        generalize (os2 i).a = qa2 at *
        generalize (os2 i).m = qm2 at *
        generalize (os2 i).c = qc2 at *
        have HP2h : Hid (Calls Tryd.prog 8 #[.pointer (some ⟨jb2, 0, none⟩), .pointer (some ⟨qb2, 0, none⟩), .agg #[.int .i64 qk2, .int .i64 qs2, .slice qa2 qm2 qc2]] wr fun e w' => PlOut wr w' w.heap.size J2 Q2 e) := HP2
        clear HP2
        subst hoa2
        go_wp2_with fail
        refine HP2h.out.mono ?_
        rintro e w5 ⟨rfl, J2', Q2', hJ2', hQ2', hD2', hk2', hown2'⟩
        have hB5 : Below w.heap.size w w5 := (hB.out).trans (hk2'.below (hB.out).size (fun j hj hh => by have := (hD2.out).lo j hh; omega))
        have HF2 : Hid (J2'.b = jb2 ∧ Q2'.b = qb2) := ⟨hJ2'.trans hJ2.out.1, hQ2'.trans hJ2.out.2⟩
        have hD15 : Duo w5 w.heap.size J1 Q1 := (hD1.out).keep hk2' fun j hj hh => hdx.out j hj hh
        have hdx5 : ∀ k, down J1 Q1 k → ¬ down J2' Q2' k := fun k h1 h2 => by
          rcases hown2' k h2 with h3 | h3
          · exact hdx.out k h1 h3
          · have := (hD1.out).lt k h1
            omega
        go_wp2
        go_roundw
        case rel => exact ⟨i + 1, J1, Q1, J2', Q2', by omega, by go_num, hJ1, hD15, HF2, hD2', hdx5, hB5⟩
        case measure => simp [intOf]; omega
      · have t1 : ¬ (i : Int) < (on1 : Int) := by omega
        have t2 : ¬ (i : Int) < (on2 : Int) := by omega
        go_wp2
        go_ret
        exact ⟨rfl, hB.out⟩
theorem turns_any {x y : Int} {oa1 oa2 : Option Addr} {on1 oc1 on2 oc2 : Nat} {os1 os2 : Nat → Opx} (hx0 : -9223372036854775808 ≤ x ∧ x ≤ 9223372036854775807) (hy0 : -9223372036854775808 ≤ y ∧ y ≤ 9223372036854775807) (ho1 : RdOps w oa1 on1 os1) (hl1 : on1 ≤ 4398046511104) (ho2 : RdOps w oa2 on2 os2) (hl2 : on2 ≤ 4398046511104) (hT : Tab w) : Calls Tryd.prog 4 #[.int .i64 x, .int .i64 y, .slice oa1 on1 oc1, .slice oa2 on2 oc2] w fun e w' => e = .returned (.bool true) ∧ Below w.heap.size w w' := by
  by_cases h : 1 ≤ x ∧ x ≤ 16
  · obtain ⟨n, rfl⟩ := Int.eq_ofNat_of_zero_le (show 0 ≤ x by omega)
    by_cases h2 : 1 ≤ y ∧ y ≤ 16
    · obtain ⟨m, rfl⟩ := Int.eq_ofNat_of_zero_le (show 0 ≤ y by omega)
      exact turns_11 (by omega) (by omega) (by omega) (by omega) ho1 hl1 ho2 hl2 hT
    · exact turns_10 (by omega) (by omega) h2 ho1 hl1 ho2 hl2 hT
  · by_cases h2 : 1 ≤ y ∧ y ≤ 16
    · obtain ⟨m, rfl⟩ := Int.eq_ofNat_of_zero_le (show 0 ≤ y by omega)
      exact turns_01 h (by omega) (by omega) ho1 hl1 ho2 hl2 hT
    · exact turns_00 h h2 ho1 hl1 ho2 hl2 hT
end
end Go.Proofs.YtmphabgpabbbjabDoor.Fg
