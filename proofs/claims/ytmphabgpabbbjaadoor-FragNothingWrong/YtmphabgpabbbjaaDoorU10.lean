import Derived.Test.YtmphabgpabbbjaaDoorUw
import Derived.Lib.SlBytesConst
namespace Go.Proofs.YtmphabgpabbbjaaDoor.Fg
open Go.RowKit Mb Ov
set_option linter.unusedVariables false
set_option maxRecDepth 100000
set_option linter.unusedSimpArgs false
section
variable {w w' W : World} {B : Nat}
def lit17 : List Int := [0, 9, 0, 0, 203, 244, 57, 38, 49, 50, 51, 52, 53, 54, 55, 56, 57]
def lit9 : List Int := [49, 50, 51, 52, 53, 54, 55, 56, 57]
theorem take_lit : take p0 lit17 = ⟨p0, some lit9, 0⟩ := by
  unfold take
  rw [if_pos (by decide +kernel), if_neg (by decide +kernel), if_pos (by decide +kernel)]
  rfl
theorem lit17_by : By lit17 := By.of (by decide)
theorem lit9_by : By lit9 := By.of (by decide)
structure St (w wr : World) (B jb m gT : Nat) (J : Jn) (v : Nat → Value) (ts : Nat → List Int) : Prop where
  jg : Jg w wr B jb m J
  tm : Tm wr B gT J v ts
  pu : Pu J ts
theorem St.still {wr wr' : World} {jb m gT : Nat} {J : Jn} {v : Nat → Value} {ts : Nat → List Int} (h : St w wr B jb m gT J v ts) (hb : Below wr.heap.size wr wr') : St w wr' B jb m gT J v ts := ⟨h.jg.still hb, h.tm.still hb, h.pu⟩
theorem St.reset {wr : World} {jb m gT : Nat} {J : Jn} {v : Nat → Value} {ts : Nat → List Int} (h : St w wr B jb m gT J v ts) : Calls Tryd.prog 14 #[.pointer (some ⟨jb, 0, none⟩)] wr fun e w' => ∃ J', e = .returned (.tuple #[]) ∧ St w w' B jb m gT J' v ts ∧ ∀ s, J'.ps s = p0 := by
  have h1 := reset_any h.jg.ok
  rw [h.jg.b] at h1
  refine h1.mono ?_
  rintro e w' ⟨he, h4, h5⟩
  have h6 : Kept wr w' J.own := h5.mono (fun k _ e => .inr (.inl e))
  exact ⟨J.reset, he, ⟨⟨h4, h.jg.b, h.jg.n, h.jg.bel.trans (h5.below h.jg.hB (fun j hj hh => by have := h.jg.ok.lp; omega)), Nat.le_trans h.jg.hB h5.size⟩, h.tm.reset h6, fun s hs => .inl rfl⟩, fun _ => rfl⟩
theorem St.nil {wr : World} {jb m gT : Nat} {J : Jn} {v : Nat → Value} {ts : Nat → List Int} (h : St w wr B jb m gT J v ts) {s : Nat} (hs : s < 16) (hp : J.ps s = p0 ∨ (J.ps s).bs = []) : St w (wr.setCell ⟨gT, s, none⟩ (.slice none 0 0)) B jb m gT J (upd v s (.slice none 0 0)) (upd ts s []) :=
  ⟨h.tm.jset h.jg s _, h.tm.nil hs, fun t ht => by
    by_cases e : t = s
    · subst e
      rw [upd_same]
      exact hp.imp id Eq.symm
    · rw [upd_ne _ _ e]
      exact h.pu t ht⟩
set_option maxHeartbeats 16000000 in
theorem wrong_any {x : Int} {oa : Option Addr} {on oc : Nat} {os : Nat → Opx} (hx : -9223372036854775808 ≤ x ∧ x ≤ 9223372036854775807) (ho : RdOps w oa on os) (hon : on ≤ 4398046511104) (hT : Tab w) : Calls Tryd.prog 3 #[.int .i64 x, .slice oa on oc] w fun e w' => e = .returned (.bool true) ∧ Below w.heap.size w w' := by
  obtain ⟨m, hm⟩ : ∃ m : Nat, (max 1 (min x 16)).toNat = m := ⟨_, rfl⟩
  have hm1 : 1 ≤ m := by omega
  have hm16 : m ≤ 16 := by omega
  have HZ : Hid (Calls Tryd.prog 8 #[.int .i64 x] w fun e w' => e = .returned (.int .i64 (m : Int)) ∧ w = w') := (show Calls _ _ _ _ _ from by rw [← hm]; exact size_any x)
  have HO : Hid (RdOps w oa on os) := ho
  have HT : Hid (Tab w) := hT
  have h0B : 0 < w.heap.size := World.block_lt_of_cell? w _ (hT 0 (by omega))
  clear hT hm ho hx
  go_enter Tryd.func3, Tryd.ntmps3
  go_wp2_with fail
  refine HZ.out.mono ?_
  rintro e w' ⟨rfl, rfl⟩
  go_wp2_with fail
  refine (new_ok hm1 hm16).mono ?_
  rintro e w1 ⟨jb, bp, rfl, hj1, hb1⟩
  have HG : Hid (Jg w w1 w.heap.size jb m (jnew jb bp m)) := ⟨hj1, rfl, rfl, hb1, hb1.size⟩
  have HP0 : Hid (∀ s, (jnew jb bp m).ps s = p0) := fun _ => rfl
  generalize jnew jb bp m = J0 at *
  clear hj1 hb1 HZ
  have hmI : (m : Int) - 1 = ((m - 1 : Nat) : Int) := by omega
  go_wp2_with fail
  generalize hV : w1.alloc (.cells #[.int .u8 0, .int .u8 9, .int .u8 0, .int .u8 0, .int .u8 203, .int .u8 244, .int .u8 57, .int .u8 38, .int .u8 49, .int .u8 50, .int .u8 51, .int .u8 52, .int .u8 53, .int .u8 54, .int .u8 55, .int .u8 56, .int .u8 57] 5) = V
  have hbV : Below w1.heap.size w1 V := by rw [← hV]; exact balloc (Below.refl _ w1)
  have HL : Hid (Rd V (some ⟨w1.heap.size, 0, none⟩) 17 17 lit17) := (show Rd _ _ _ _ _ from by
    have h1 : Bk V w1.heap.size lit17 := by rw [← hV]; exact heap_alloc_new w1 _
    exact h1.all 17 (by decide) lit17_by)
  have HGV : Hid (Jg w V w.heap.size jb m J0) := HG.out.still hbV
  have HTk : Hid (Calls Tryd.prog 10 #[.pointer (some ⟨jb, 0, none⟩), .int .i64 ((m - 1 : Nat) : Int), .slice (some ⟨w1.heap.size, 0, none⟩) 17 17] V fun e w' => ∃ (g' : Nat) (J' : Jn), e = .returned (.tuple #[.slice (some ⟨g', 0, none⟩) 9 9, .bool true, .int .i64 0]) ∧ Bk w' g' lit9 ∧ Jg w w' w.heap.size jb m J' ∧ ∀ s, J'.ps s = p0) := (show Calls _ _ _ _ _ from by
    have h1 := take_any HGV.out.ok (k := m - 1) (by rw [HGV.out.n]; omega) HL.out (by decide) (HT.out.low HGV.out.bel h0B) h0B
    rw [HP0.out, take_lit, HGV.out.b] at h1
    refine h1.mono ?_
    rintro e w' ⟨ra, rn, rc, g, he, _, h3, h4, h5, _⟩
    obtain ⟨g', rfl, rfl, rfl, hb, _⟩ := h3 _ rfl
    refine ⟨g', _, he, hb, ⟨h4, HGV.out.b, HGV.out.n, HGV.out.bel.trans (h5.below HGV.out.hB (fun j hj hh => by have := HGV.out.ok.own_lo j hh; omega)), Nat.le_trans HGV.out.hB h5.size⟩, fun s => ?_⟩
    by_cases e : s = m - 1
    · subst e; exact put_at _ _ _ _
    · rw [put_off _ _ _ e]; exact HP0.out s)
  clear hV hbV HG HGV HL HP0
  refine HTk.out.mono ?_
  rintro e w2 ⟨g', J1, rfl, hb9, hg2, hp2⟩
  have HSm : Hid (∀ w', w' = w2.alloc (.cells #[.int .u8 49, .int .u8 50, .int .u8 51, .int .u8 52, .int .u8 53, .int .u8 54, .int .u8 55, .int .u8 56, .int .u8 57] 5 (9, 10)) → Calls Tryd.prog 11 #[.slice (some ⟨g', 0, none⟩) 9 9, .slice (some ⟨w2.heap.size, 0, none⟩) 9 9] w' fun e w'' => e = .returned (.bool true) ∧ w' = w'') := fun w' e => (show Calls _ _ _ _ _ from by
    have h1 : Rd w' (some ⟨w2.heap.size, 0, none⟩) 9 9 lit9 := ⟨rfl, Nat.le_refl _, by simp, .inr ⟨w2.heap.size, 0, rfl, fun i hi => by
      have h9 := World.cell?_alloc_mark w2 (byts lit9).toArray 5 (9, 10) i
      rw [List.getElem?_toArray, byts_at lit9 i hi] at h9
      rw [e, Nat.zero_add]
      exact h9⟩, lit9_by⟩
    have h2 : Bk w' g' lit9 := hb9.still (by rw [e]; exact balloc (Below.refl _ w2))
    exact same_any (h2.all 9 (by decide) lit9_by) h1)
  have HG2 : Hid (Jg w w2 w.heap.size jb m J1) := hg2
  have HP2 : Hid (∀ s, J1.ps s = p0) := hp2
  have hcv := Lib.run_convert_bytes_const (P := Tryd.prog) w2 28 5 #[.int .u8 49, .int .u8 50, .int .u8 51, .int .u8 52, .int .u8 53, .int .u8 54, .int .u8 55, .int .u8 56, .int .u8 57] 9 9 Tryd.underlying28 Tryd.underlying5
  clear hb9 hg2 hp2 HTk
  go_wp2_with (first | (go_at_call 11; refine (HSm.out _ rfl).mono ?_; rintro e w' ⟨rfl, rfl⟩) | fail)
  generalize hV2 : ((w2.alloc (.cells #[.int .u8 49, .int .u8 50, .int .u8 51, .int .u8 52, .int .u8 53, .int .u8 54, .int .u8 55, .int .u8 56, .int .u8 57] 5 (9, 10))).alloc (.cells #[.slice none 0 0, .slice none 0 0, .slice none 0 0, .slice none 0 0, .slice none 0 0, .slice none 0 0, .slice none 0 0, .slice none 0 0, .slice none 0 0, .slice none 0 0, .slice none 0 0, .slice none 0 0, .slice none 0 0, .slice none 0 0, .slice none 0 0, .slice none 0 0] 32)) = V2
  have hbV : Below w2.heap.size w2 V2 := by rw [← hV2]; exact balloc (balloc (Below.refl _ w2))
  have HS : Hid (St w V2 w.heap.size jb m (w2.heap.size + 1) J1 (fun _ => .slice none 0 0) (fun _ => [])) := (show St _ _ _ _ _ _ _ _ _ from by
    have e2 := heap_alloc_new (w2.alloc (.cells #[.int .u8 49, .int .u8 50, .int .u8 51, .int .u8 52, .int .u8 53, .int .u8 54, .int .u8 55, .int .u8 56, .int .u8 57] 5 (9, 10))) (.cells #[.slice none 0 0, .slice none 0 0, .slice none 0 0, .slice none 0 0, .slice none 0 0, .slice none 0 0, .slice none 0 0, .slice none 0 0, .slice none 0 0, .slice none 0 0, .slice none 0 0, .slice none 0 0, .slice none 0 0, .slice none 0 0, .slice none 0 0, .slice none 0 0] 32)
    rw [show (w2.alloc (.cells #[.int .u8 49, .int .u8 50, .int .u8 51, .int .u8 52, .int .u8 53, .int .u8 54, .int .u8 55, .int .u8 56, .int .u8 57] 5 (9, 10))).heap.size = w2.heap.size + 1 from size_al _ _, hV2] at e2
    refine ⟨HG2.out.still hbV, ⟨⟨_, e2, rfl, fun i hi => ?_⟩, fun s hs => own_zero _ _, fun s t g hs ht h1 => by simp [Value.ownBlock] at h1, fun s g hs h1 => by simp [Value.ownBlock] at h1, fun hh => ?_, ?_, fun s hs => by simp, fun s hs => By.nil⟩, fun s hs => .inl (HP2.out s)⟩
    · have : ∀ i : Fin 16, (#[.slice none 0 0, .slice none 0 0, .slice none 0 0, .slice none 0 0, .slice none 0 0, .slice none 0 0, .slice none 0 0, .slice none 0 0, .slice none 0 0, .slice none 0 0, .slice none 0 0, .slice none 0 0, .slice none 0 0, .slice none 0 0, .slice none 0 0, .slice none 0 0] : Array Value)[i.val]? = some (.slice none 0 0) := by intro i; match i with | ⟨0, _⟩ => rfl | ⟨1, _⟩ => rfl | ⟨2, _⟩ => rfl | ⟨3, _⟩ => rfl | ⟨4, _⟩ => rfl | ⟨5, _⟩ => rfl | ⟨6, _⟩ => rfl | ⟨7, _⟩ => rfl | ⟨8, _⟩ => rfl | ⟨9, _⟩ => rfl | ⟨10, _⟩ => rfl | ⟨11, _⟩ => rfl | ⟨12, _⟩ => rfl | ⟨13, _⟩ => rfl | ⟨14, _⟩ => rfl | ⟨15, _⟩ => rfl | ⟨n + 16, h⟩ => omega
      exact this ⟨i, hi⟩
    · have := HG2.out.ok.own_lt _ hh; omega
    · have := HG2.out.hB; omega)
  generalize w2.heap.size + 1 = gT at *
  clear hV2 hbV HG2 HP2 HSm hcv
  go_wp2_with fail
  go_loopw [11] (fun q wr => ∃ (i : Nat) (J : Jn) (v : Nat → Value) (ts : Nat → List Int), i ≤ on ∧ q = .int .i64 (i : Int) ∧ Hid (St w wr w.heap.size jb m gT J v ts)) (fun q _ => on - (intOf q).toNat)
  case atStart => exact ⟨0, _, _, _, Nat.zero_le _, rfl, HS⟩
  case round =>
    clear HS
    obtain ⟨i, J, v, ts, hi, rfl, HS⟩ := hrel
    rename World => wr
    by_cases hlt : i < on
    · obtain ⟨b, off, hoa, x0, x1, x2, hrd, hlm, hs1, hs2⟩ := HO.out.at HS.out.jg.bel hlt
      have Hrw : Hid (Rd w (os i).a (os i).m (os i).c (os i).bs) := (HO.out.2 i hlt).rd
      subst hoa
      generalize (os i).k = qk at *
      generalize (os i).s = qs at *
      generalize (os i).a = qa at *
      generalize (os i).m = qm at *
      generalize (os i).c = qc at *
      generalize (os i).bs = bs at *
      have i1 : (0 : Int) ≤ (i : Int) := Int.natCast_nonneg _
      have i2 : (i : Int) < (on : Int) := by omega
      generalize hV : wr.alloc (.cells #[.int .i64 qk, .int .i64 qs, .slice qa qm qc] 34) = V
      have hbV : Below wr.heap.size wr V := by rw [← hV]; exact balloc (Below.refl _ wr)
      have hbk : V.heap[wr.heap.size]? = some (.cells #[.int .i64 qk, .int .i64 qs, .slice qa qm qc] 34 (0, 0)) := by rw [← hV]; exact heap_alloc_new wr _
      have HV : Hid (St w V w.heap.size jb m gT J v ts) := HS.out.still hbV
      have hrV : Rd V qa qm qc bs := hrd.still hbV
      have hgO : wr.heap.size < V.heap.size := lt_heap hbk
      have hOT : gT < wr.heap.size := HS.out.tm.blk.lt
      have HOj : Hid (∀ j, J.own j → j < wr.heap.size) := HS.out.jg.ok.own_lt
      have HOv : Hid (∀ s g, s < 16 → (v s).ownBlock = some g → g < wr.heap.size) := fun s g hs hg => (HS.out.tm.lt hs hg).2
      have hOB : w.heap.size ≤ wr.heap.size := HS.out.jg.hB
      obtain ⟨gO, hgE⟩ : ∃ gO, wr.heap.size = gO := ⟨_, rfl⟩
      rw [hgE] at hbk hgO hOT HOj HOv hOB
      have u0 : V.cell? ⟨gO, 0, none⟩ = some (.int .i64 qk) := blk_cell hbk 0
      have u1 : V.cell? ⟨gO, 1, none⟩ = some (.int .i64 qs) := blk_cell hbk 1
      have u2 : V.cell? ⟨gO, 2, none⟩ = some (.slice qa qm qc) := blk_cell hbk 2
      clear hrd hbk HS hbV
      by_cases h1 : qk = 1
      · subst h1
        by_cases hin : 0 ≤ qs ∧ qs < (m : Int)
        · obtain ⟨k, rfl⟩ := Int.eq_ofNat_of_zero_le hin.1
          have hkm : k < m := by omega
          have hk16 : k < 16 := by omega
          clear hin
          have hway := take_ways (J.ps k) bs
          rcases hway with hA | hA | hA
          · obtain ⟨hform, hfit, hjlt, htk⟩ := hA
            have hlq := hrV.len
            have hbyb := hrV.by_
            have h8b := hform.len
            have h8 : 8 ≤ qm := by omega
            have hqm : qm ≤ 256 := by have := hform.pc; omega
            have hqc := hrV.cap
            have Hj : Hid (joined (J.ps k) bs = (if pl bs = 0 then [] else ts k) ++ bs.drop 8) := joined_pu HV.out.pu hk16 hfit
            obtain ⟨jl, hjl⟩ : ∃ jl, (joined (J.ps k) bs).length = jl := ⟨_, rfl⟩
            have hjl4 : jl ≤ 4000 := by have := hform.big; omega
            obtain ⟨cb, co, hqa⟩ : ∃ b off, qa = some ⟨b, off, none⟩ := hrV.at_.elim (fun h => by omega) (fun ⟨b, off, e, _⟩ => ⟨b, off, e⟩)
            subst hqa
            have Hjb : Hid (By (joined (J.ps k) bs)) := joined_by (HV.out.jg.ok.ok k) hbyb
            have HTc : Hid (Calls Tryd.prog 10 #[.pointer (some ⟨jb, 0, none⟩), .int .i64 (k : Int), .slice (some ⟨cb, co, none⟩) qm qc] V fun e w' => ∃ (J' : Jn), e = .returned (.tuple #[.slice none 0 0, .bool false, .int .i64 0]) ∧ Jg w w' w.heap.size jb m J' ∧ Tm w' w.heap.size gT J' v ts ∧ Kept V w' J.own ∧ Pu J' (upd ts k (joined (J.ps k) bs)) ∧ J'.ps k = ⟨sz bs, sm bs, joined (J.ps k) bs⟩) := (show Calls _ _ _ _ _ from by
              have h1 := take_any HV.out.jg.ok (k := k) (by rw [HV.out.jg.n]; exact hkm) hrV (by omega) (HT.out.low HV.out.jg.bel h0B) h0B
              rw [HV.out.jg.b, htk] at h1
              refine h1.mono ?_
              rintro e w' ⟨ra, rn, rc, g, he, h2, h3, h4, h5, h6⟩
              have hjg : Jg w w' w.heap.size jb m (J.put k ⟨sz bs, sm bs, joined (J.ps k) bs⟩ g) := ⟨h4, HV.out.jg.b, HV.out.jg.n, HV.out.jg.bel.trans (h5.below HV.out.jg.hB (fun j hj hh => by have := HV.out.jg.ok.own_lo j hh; omega)), Nat.le_trans HV.out.jg.hB h5.size⟩
              obtain ⟨rfl, rfl, rfl⟩ := h2 rfl
              exact ⟨_, he, hjg, HV.out.tm.took h5 h6, h5, HV.out.pu.put (.inr rfl), put_at _ _ _ _⟩)
            clear hrV htk hfit
            have kk1 : (0 : Int) ≤ (k : Int) := Int.natCast_nonneg _
            have kk2 : (k : Int) < (m : Int) := by omega
            have kk3 : (k : Int) < 16 := by omega
            have kk4 : ¬ (k : Int) < 0 := by omega
            have kk5 : ¬ (m : Int) ≤ (k : Int) := by omega
            have g8 : ¬ (qm : Int) < 8 := by omega
            go_wp2_with fail
            clear hV
            refine HTc.out.mono ?_
            rintro e w3 ⟨J', rfl, hj3, ht3, hk3, hpu3, hps3⟩
            have z1 := kept_cell hk3 (fun hh => by have := HOj.out _ hh; omega) u1
            have z2 := kept_cell hk3 (fun hh => by have := HOj.out _ hh; omega) u2
            have HJ3 : Hid (Jg w w3 w.heap.size jb m J') := hj3
            have HT3 : Hid (Tm w3 w.heap.size gT J' v ts) := ht3
            have HP3 : Hid (Pu J' (upd ts k (joined (J.ps k) bs))) := hpu3
            have Hps : Hid (J'.ps k = ⟨sz bs, sm bs, joined (J.ps k) bs⟩) := hps3
            have HrX : Hid (Rd w3 (some ⟨cb, co, none⟩) qm qc bs) := Hrw.out.still hj3.bel
            obtain ⟨_, _, hq1, hcc⟩ := HrX.out.at_.elim (fun h => by omega) id
            cases hq1
            have p1 := hcc 2 (by omega)
            have p2 := hcc 3 (by omega)
            have j2 : (2 : Int) < (qm : Int) := by omega
            have j3 : (3 : Int) < (qm : Int) := by omega
            have f0 : w3.frozen? ⟨gT, k, none⟩ = false := ht3.blk.fz k
            have z3 : w3.cell? ⟨gT, k, none⟩ = some (v k) := ht3.blk.cell k hk16
            clear u0 u1 u2 x0 x1 x2 hk3 hj3 ht3 hpu3 hps3 HTc hcc
            have hpl := pl_zero hbyb h8b
            by_cases d2 : bs.getD 2 0 = 0
            · by_cases d3 : bs.getD 3 0 = 0
              · as_aux_lemma =>
                  have Hjt : Hid (upd ts k [] k ++ bs.drop 8 = joined (J.ps k) bs) := (show _ = _ from by rw [Hj.out, if_pos (hpl.2 ⟨d2, d3⟩), upd_same])
                  rw [d2] at p1
                  rw [d3] at p2
                  clear d2 d3 hpl Hj
                  have Hts : Hid (∀ X, upd (upd ts k []) k X = upd ts k X) := fun X => upd_twice _ _ _ _
                  have HT4 : Hid (Tm (w3.setCell ⟨gT, k, none⟩ (.slice none 0 0)) w.heap.size gT J' (upd v k (.slice none 0 0)) (upd ts k [])) := HT3.out.nil hk16
                  have HJ4 : Hid (Jg w (w3.setCell ⟨gT, k, none⟩ (.slice none 0 0)) w.heap.size jb m J') := HT3.out.jset HJ3.out k _
                  have HK4 : Hid (Kept w3 (w3.setCell ⟨gT, k, none⟩ (.slice none 0 0)) (fun q => q = gT)) := kset _ _ _ _ rfl
                  have HOv1 : Hid (∀ q, (upd v k (.slice none 0 0) k).ownBlock = some q → q < gO) := fun q hq => by rw [upd_same] at hq; simp [Value.ownBlock] at hq
                  go_wp2_with fail
                  have a1 := kept_cell HK4.out (by omega) z1
                  generalize w3.setCell ⟨gT, k, none⟩ (.slice none 0 0) = w4 at *
                  generalize upd v k (.slice none 0 0) = v1 at *
                  generalize upd ts k [] = ts1 at *
                  clear HK4 z1 z2 z3 p1 p2 f0 HT3 HJ3 HrX
                  obtain ⟨ad, had⟩ : ∃ ad, (if qc = 8 then some (⟨cb, co, none⟩ : Addr) else some ⟨cb, co + 8, none⟩) = some ad := by by_cases e : qc = 8 <;> simp [e]
                  have HRt : Hid (∀ w', Below w.heap.size w w' → Rd w' (some ad) (qm - 8) (qc - 8) (bs.drop 8)) := fun w' hb => by rw [← had]; exact rd_tail (Hrw.out.still hb) h8
                  have q8 : (8 : Int) ≤ (qc : Int) := by omega
                  have q9 : (8 : Int) ≤ (qm : Int) := by omega
                  have t3 : w4.cell? ⟨gT, k, none⟩ = some (v1 k) := HT4.out.blk.cell k hk16
                  have HT4d : Hid (Tm w4.drew w.heap.size gT J' v1 ts1) := HT4.out.still (Below.refl _ _).drew
                  have HJ4d : Hid (Jg w w4.drew w.heap.size jb m J') := HJ4.out.still (Below.refl _ _).drew
                  refine wp_region_held_drew (S := (fun w' => w'.cell? ⟨gO, 1, none⟩ = some (.int .i64 (k : Int)))) (by kernel_rfl) (below_at (Below.refl _ _).drew a1) (fun hHeld => ?_)
                  simp only [Act.put, List.size_toArray, List.length_cons, List.length_nil, Nat.zero_add]
                  refine wpAnyH_take (i := 0) (v := .pointer (some ⟨gO, 1, none⟩)) rfl (by kernel_rfl) (by kernel_rfl) (by kernel_rfl) (fun _ _ _ h => h) (Or.inl ⟨by rfl, fun w' hS => by go_simp⟩) hHeld ?_
                  simp only [Act.put, List.getElem_toArray, List.getElem_cons_zero, List.getElem_cons_succ, List.setIfInBounds_toArray, List.set_cons_zero, List.set_cons_succ]
                  refine wpAnyH_take (i := 1) (v := .int .i64 (k : Int)) rfl (by kernel_rfl) (by kernel_rfl) (by kernel_rfl) (fun _ _ _ h => h) (Or.inl ⟨by rfl, fun w' hS => by go_simp⟩) hHeld ?_
                  simp only [Act.put, List.getElem_toArray, List.getElem_cons_zero, List.getElem_cons_succ, List.setIfInBounds_toArray, List.set_cons_zero, List.set_cons_succ]
                  refine wpAnyH_take (i := 2) (v := .pointer (some ⟨gO, 1, none⟩)) rfl (by kernel_rfl) (by kernel_rfl) (by kernel_rfl) (fun _ _ _ h => h) (Or.inl ⟨by rfl, fun w' hS => by go_simp⟩) hHeld ?_
                  simp only [Act.put, List.getElem_toArray, List.getElem_cons_zero, List.getElem_cons_succ, List.setIfInBounds_toArray, List.set_cons_zero, List.set_cons_succ]
                  refine wpAnyH_take (i := 3) (v := .int .i64 (k : Int)) rfl (by kernel_rfl) (by kernel_rfl) (by kernel_rfl) (fun _ _ _ h => h) (Or.inl ⟨by rfl, fun w' hS => by go_simp⟩) hHeld ?_
                  simp only [Act.put, List.getElem_toArray, List.getElem_cons_zero, List.getElem_cons_succ, List.setIfInBounds_toArray, List.set_cons_zero, List.set_cons_succ]
                  refine wpAnyH_take (i := 4) (v := .pointer (some ⟨gT, k, none⟩)) rfl (by kernel_rfl) (by kernel_rfl) (by kernel_rfl) (fun _ _ _ h => h) (Or.inl ⟨by rfl, fun w' hS => by go_simp⟩) hHeld ?_
                  simp only [Act.put, List.getElem_toArray, List.getElem_cons_zero, List.getElem_cons_succ, List.setIfInBounds_toArray, List.set_cons_zero, List.set_cons_succ]
                  refine wpAnyH_take (i := 6) (v := .slice (some ⟨cb, co, none⟩) qm qc) rfl (by kernel_rfl) (by kernel_rfl) (by kernel_rfl) (fun _ _ _ h => h) (Or.inl ⟨by rfl, fun w' hS => by go_simp⟩) hHeld ?_
                  simp only [Act.put, List.getElem_toArray, List.getElem_cons_zero, List.getElem_cons_succ, List.setIfInBounds_toArray, List.set_cons_zero, List.set_cons_succ]
                  refine wpAnyH_take (i := 7) (v := .slice (some ad) (qm - 8) (qc - 8)) rfl (by kernel_rfl) (by kernel_rfl) (by kernel_rfl) (fun _ _ _ h => h) (Or.inl ⟨by rfl, fun w' hS => by go_simp⟩) hHeld ?_
                  simp only [Act.put, List.getElem_toArray, List.getElem_cons_zero, List.getElem_cons_succ, List.setIfInBounds_toArray, List.set_cons_zero, List.set_cons_succ]
                  refine wpAnyH_ready (rs := [5]) (by kernel_rfl) (by simp) ?_
                  refine AllReadyH.cons rfl (fun K hK => ?_) AllReadyH.nil
                  go_simp
                  refine hK.out _ _ hHeld (fun hHeld => ?_)
                  clear hK K
                  refine wpAnyH_ready (rs := [8]) (by kernel_rfl) (by simp) ?_
                  refine AllReadyH.cons rfl (fun K hK => ?_) AllReadyH.nil
                  refine step_append_rd (by rfl) _ _ (by rfl) HT4d.out HJ4d.out.hB hk16 (by rfl) ad (qm - 8) (qc - 8) (bs.drop 8) (by rfl) (HRt.out _ HJ4d.out.bel) (by omega) ?_
                  intro y w5 hGr
                  obtain ⟨ya, yc, hy, _⟩ := hGr.own.shape
                  rw [Hjt.out, hjl] at hy
                  subst hy
                  have a5 := kept_cell hGr.gr (fun e => by have := HOv1.out _ e.symm; omega) (below_at (Below.refl _ _).drew a1)
                  have HGr : Hid (Grew w4.drew w5 w.heap.size gT J' v1 ts1 k (.slice ya jl yc) (bs.drop 8)) := hGr
                  refine hK.out _ _ a5 (fun hHeld => ?_)
                  clear hK K hGr
                  have f5 : w5.frozen? ⟨gT, k, none⟩ = false := (HGr.out.keepB HT4d.out hk16).fz k
                  have t5 : w5.cell? ⟨gT, k, none⟩ = some (v1 k) := (HGr.out.keepB HT4d.out hk16).cell k hk16
                  refine wpAnyH_take (i := 9) (v := .pointer (some ⟨gT, k, none⟩)) rfl (by kernel_rfl) (by kernel_rfl) (by kernel_rfl) (fun _ _ _ h => h) (Or.inl ⟨by rfl, fun w' hS => by go_simp⟩) hHeld ?_
                  simp only [Act.put, List.getElem_toArray, List.getElem_cons_zero, List.getElem_cons_succ, List.setIfInBounds_toArray, List.set_cons_zero, List.set_cons_succ]
                  have HK6 : Hid (Kept w5 (w5.setCell ⟨gT, k, none⟩ (.slice ya jl yc)) (fun q => q = gT)) := kset _ _ _ _ rfl
                  have a6 := kept_cell HK6.out (by omega) a5
                  refine wpAnyH_ready (rs := [10]) (by kernel_rfl) (by simp) ?_
                  refine AllReadyH.cons rfl (fun K hK => ?_) AllReadyH.nil
                  go_simp
                  refine hK.out _ _ a6 (fun hHeld => ?_)
                  clear hK K
                  refine wpAnyH_done (by kernel_rfl) ?_ _
                  clear hHeld
                  have HS6 : Hid (St w (w5.setCell ⟨gT, k, none⟩ (.slice ya jl yc)) w.heap.size jb m gT J' (upd v1 k (.slice ya jl yc)) (upd ts1 k (ts1 k ++ bs.drop 8))) := ⟨HT4d.out.jset (HGr.out.jg HT4d.out HJ4d.out hk16) k _, HGr.out.set HT4d.out HJ4d.out.ok hk16 (by rw [Hjt.out, hjl]; exact hjl4) (hbyb.drop 8), by rw [Hts.out, Hjt.out]; exact HP3.out⟩
                  clear HGr HK6 HT4 HJ4 HT4d HJ4d t3 t5 f5 a1 a5 HRt had q8 q9
                  generalize w5.setCell ⟨gT, k, none⟩ (.slice ya jl yc) = w6 at *
                  have t6 : w6.cell? ⟨gT, k, none⟩ = some (.slice ya jl yc) := by have := HS6.out.tm.blk.cell k hk16; rw [upd_same] at this; exact this
                  have f6 : w6.frozen? ⟨gT, k, none⟩ = false := HS6.out.tm.blk.fz k
                  have HHd : Hid (∀ w', Below w6.heap.size w6 w' → Calls Tryd.prog 12 #[.pointer (some ⟨jb, 0, none⟩), .int .i64 (k : Int)] w' fun e w2 => e = .returned (.int .i64 (jl : Int)) ∧ w2 = w') := fun w' hb => (show Calls _ _ _ _ _ from by
                    have hh := held_any (HS6.out.jg.still hb).ok (k : Int)
                    rw [HS6.out.jg.b, HS6.out.jg.n, if_pos (by omega), Int.toNat_natCast, Hps.out] at hh
                    refine hh.mono fun e w2 h => ⟨?_, h.2.symm⟩
                    rw [h.1]
                    show _ = Ending.returned (.int .i64 (jl : Int)); rw [← hjl])
                  clear Hps HP3 Hjt Hts hjlt
                  go_wp2_with fail
                  go_quiet ((go_at_call 12; exact Calls.quiet_of_same (HHd.out _ (by repeat (first | exact Below.refl _ _ | apply below_drewN | apply Below.drew)))))
                  go_wp2
                  go_roundw
                  case rel => exact ⟨i + 1, J', _, _, by omega, by go_num, HS6.out.still (by repeat (first | exact Below.refl _ _ | apply below_drewN | apply Below.drew))⟩
                  case measure => simp [intOf]; omega
              · as_aux_lemma =>
                  have Hjt : Hid (ts k ++ bs.drop 8 = joined (J.ps k) bs) := (show _ = _ from by rw [Hj.out, if_neg (fun e => d3 (hpl.1 e).2)])
                  have e3 : (bs.getD 3 0 == 0) = false := by rw [beq_eq_false_iff_ne]; exact d3
                  rw [d2] at p1
                  clear d2 d3 hpl Hj
                  generalize bs.getD 3 0 = b3 at *
                  have Hts : Hid True := trivial
                  have HOv1 : Hid (∀ q, (v k).ownBlock = some q → q < gO) := fun q hq => HOv.out k q hk16 hq
                  have HT4 : Hid (Tm w3 w.heap.size gT J' v ts) := HT3
                  have HJ4 : Hid (Jg w w3 w.heap.size jb m J') := HJ3
                  go_wp2_with fail
                  have a1 := z1
                  clear z1 z2 z3 p1 p2 f0 HT3 HJ3 HrX
                  obtain ⟨ad, had⟩ : ∃ ad, (if qc = 8 then some (⟨cb, co, none⟩ : Addr) else some ⟨cb, co + 8, none⟩) = some ad := by by_cases e : qc = 8 <;> simp [e]
                  have HRt : Hid (∀ w', Below w.heap.size w w' → Rd w' (some ad) (qm - 8) (qc - 8) (bs.drop 8)) := fun w' hb => by rw [← had]; exact rd_tail (Hrw.out.still hb) h8
                  have q8 : (8 : Int) ≤ (qc : Int) := by omega
                  have q9 : (8 : Int) ≤ (qm : Int) := by omega
                  have t3 : w3.cell? ⟨gT, k, none⟩ = some (v k) := HT4.out.blk.cell k hk16
                  have HT4d : Hid (Tm w3.drew w.heap.size gT J' v ts) := HT4.out.still (Below.refl _ _).drew
                  have HJ4d : Hid (Jg w w3.drew w.heap.size jb m J') := HJ4.out.still (Below.refl _ _).drew
                  refine wp_region_held_drew (S := (fun w' => w'.cell? ⟨gO, 1, none⟩ = some (.int .i64 (k : Int)))) (by kernel_rfl) (below_at (Below.refl _ _).drew a1) (fun hHeld => ?_)
                  simp only [Act.put, List.size_toArray, List.length_cons, List.length_nil, Nat.zero_add]
                  refine wpAnyH_take (i := 0) (v := .pointer (some ⟨gO, 1, none⟩)) rfl (by kernel_rfl) (by kernel_rfl) (by kernel_rfl) (fun _ _ _ h => h) (Or.inl ⟨by rfl, fun w' hS => by go_simp⟩) hHeld ?_
                  simp only [Act.put, List.getElem_toArray, List.getElem_cons_zero, List.getElem_cons_succ, List.setIfInBounds_toArray, List.set_cons_zero, List.set_cons_succ]
                  refine wpAnyH_take (i := 1) (v := .int .i64 (k : Int)) rfl (by kernel_rfl) (by kernel_rfl) (by kernel_rfl) (fun _ _ _ h => h) (Or.inl ⟨by rfl, fun w' hS => by go_simp⟩) hHeld ?_
                  simp only [Act.put, List.getElem_toArray, List.getElem_cons_zero, List.getElem_cons_succ, List.setIfInBounds_toArray, List.set_cons_zero, List.set_cons_succ]
                  refine wpAnyH_take (i := 2) (v := .pointer (some ⟨gO, 1, none⟩)) rfl (by kernel_rfl) (by kernel_rfl) (by kernel_rfl) (fun _ _ _ h => h) (Or.inl ⟨by rfl, fun w' hS => by go_simp⟩) hHeld ?_
                  simp only [Act.put, List.getElem_toArray, List.getElem_cons_zero, List.getElem_cons_succ, List.setIfInBounds_toArray, List.set_cons_zero, List.set_cons_succ]
                  refine wpAnyH_take (i := 3) (v := .int .i64 (k : Int)) rfl (by kernel_rfl) (by kernel_rfl) (by kernel_rfl) (fun _ _ _ h => h) (Or.inl ⟨by rfl, fun w' hS => by go_simp⟩) hHeld ?_
                  simp only [Act.put, List.getElem_toArray, List.getElem_cons_zero, List.getElem_cons_succ, List.setIfInBounds_toArray, List.set_cons_zero, List.set_cons_succ]
                  refine wpAnyH_take (i := 4) (v := .pointer (some ⟨gT, k, none⟩)) rfl (by kernel_rfl) (by kernel_rfl) (by kernel_rfl) (fun _ _ _ h => h) (Or.inl ⟨by rfl, fun w' hS => by go_simp⟩) hHeld ?_
                  simp only [Act.put, List.getElem_toArray, List.getElem_cons_zero, List.getElem_cons_succ, List.setIfInBounds_toArray, List.set_cons_zero, List.set_cons_succ]
                  refine wpAnyH_take (i := 6) (v := .slice (some ⟨cb, co, none⟩) qm qc) rfl (by kernel_rfl) (by kernel_rfl) (by kernel_rfl) (fun _ _ _ h => h) (Or.inl ⟨by rfl, fun w' hS => by go_simp⟩) hHeld ?_
                  simp only [Act.put, List.getElem_toArray, List.getElem_cons_zero, List.getElem_cons_succ, List.setIfInBounds_toArray, List.set_cons_zero, List.set_cons_succ]
                  refine wpAnyH_take (i := 7) (v := .slice (some ad) (qm - 8) (qc - 8)) rfl (by kernel_rfl) (by kernel_rfl) (by kernel_rfl) (fun _ _ _ h => h) (Or.inl ⟨by rfl, fun w' hS => by go_simp⟩) hHeld ?_
                  simp only [Act.put, List.getElem_toArray, List.getElem_cons_zero, List.getElem_cons_succ, List.setIfInBounds_toArray, List.set_cons_zero, List.set_cons_succ]
                  refine wpAnyH_ready (rs := [5]) (by kernel_rfl) (by simp) ?_
                  refine AllReadyH.cons rfl (fun K hK => ?_) AllReadyH.nil
                  go_simp
                  refine hK.out _ _ hHeld (fun hHeld => ?_)
                  clear hK K
                  refine wpAnyH_ready (rs := [8]) (by kernel_rfl) (by simp) ?_
                  refine AllReadyH.cons rfl (fun K hK => ?_) AllReadyH.nil
                  refine step_append_rd (by rfl) _ _ (by rfl) HT4d.out HJ4d.out.hB hk16 (by rfl) ad (qm - 8) (qc - 8) (bs.drop 8) (by rfl) (HRt.out _ HJ4d.out.bel) (by omega) ?_
                  intro y w5 hGr
                  obtain ⟨ya, yc, hy, _⟩ := hGr.own.shape
                  rw [Hjt.out, hjl] at hy
                  subst hy
                  have a5 := kept_cell hGr.gr (fun e => by have := HOv1.out _ e.symm; omega) (below_at (Below.refl _ _).drew a1)
                  have HGr : Hid (Grew w3.drew w5 w.heap.size gT J' v ts k (.slice ya jl yc) (bs.drop 8)) := hGr
                  refine hK.out _ _ a5 (fun hHeld => ?_)
                  clear hK K hGr
                  have f5 : w5.frozen? ⟨gT, k, none⟩ = false := (HGr.out.keepB HT4d.out hk16).fz k
                  have t5 : w5.cell? ⟨gT, k, none⟩ = some (v k) := (HGr.out.keepB HT4d.out hk16).cell k hk16
                  refine wpAnyH_take (i := 9) (v := .pointer (some ⟨gT, k, none⟩)) rfl (by kernel_rfl) (by kernel_rfl) (by kernel_rfl) (fun _ _ _ h => h) (Or.inl ⟨by rfl, fun w' hS => by go_simp⟩) hHeld ?_
                  simp only [Act.put, List.getElem_toArray, List.getElem_cons_zero, List.getElem_cons_succ, List.setIfInBounds_toArray, List.set_cons_zero, List.set_cons_succ]
                  have HK6 : Hid (Kept w5 (w5.setCell ⟨gT, k, none⟩ (.slice ya jl yc)) (fun q => q = gT)) := kset _ _ _ _ rfl
                  have a6 := kept_cell HK6.out (by omega) a5
                  refine wpAnyH_ready (rs := [10]) (by kernel_rfl) (by simp) ?_
                  refine AllReadyH.cons rfl (fun K hK => ?_) AllReadyH.nil
                  go_simp
                  refine hK.out _ _ a6 (fun hHeld => ?_)
                  clear hK K
                  refine wpAnyH_done (by kernel_rfl) ?_ _
                  clear hHeld
                  have HS6 : Hid (St w (w5.setCell ⟨gT, k, none⟩ (.slice ya jl yc)) w.heap.size jb m gT J' (upd v k (.slice ya jl yc)) (upd ts k (ts k ++ bs.drop 8))) := ⟨HT4d.out.jset (HGr.out.jg HT4d.out HJ4d.out hk16) k _, HGr.out.set HT4d.out HJ4d.out.ok hk16 (by rw [Hjt.out, hjl]; exact hjl4) (hbyb.drop 8), by rw [Hjt.out]; exact HP3.out⟩
                  clear HGr HK6 HT4 HJ4 HT4d HJ4d t3 t5 f5 a1 a5 HRt had q8 q9
                  generalize w5.setCell ⟨gT, k, none⟩ (.slice ya jl yc) = w6 at *
                  have t6 : w6.cell? ⟨gT, k, none⟩ = some (.slice ya jl yc) := by have := HS6.out.tm.blk.cell k hk16; rw [upd_same] at this; exact this
                  have f6 : w6.frozen? ⟨gT, k, none⟩ = false := HS6.out.tm.blk.fz k
                  have HHd : Hid (∀ w', Below w6.heap.size w6 w' → Calls Tryd.prog 12 #[.pointer (some ⟨jb, 0, none⟩), .int .i64 (k : Int)] w' fun e w2 => e = .returned (.int .i64 (jl : Int)) ∧ w2 = w') := fun w' hb => (show Calls _ _ _ _ _ from by
                    have hh := held_any (HS6.out.jg.still hb).ok (k : Int)
                    rw [HS6.out.jg.b, HS6.out.jg.n, if_pos (by omega), Int.toNat_natCast, Hps.out] at hh
                    refine hh.mono fun e w2 h => ⟨?_, h.2.symm⟩
                    rw [h.1]
                    show _ = Ending.returned (.int .i64 (jl : Int)); rw [← hjl])
                  clear Hps HP3 Hjt Hts hjlt
                  go_wp2_with fail
                  go_quiet ((go_at_call 12; exact Calls.quiet_of_same (HHd.out _ (by repeat (first | exact Below.refl _ _ | apply below_drewN | apply Below.drew)))))
                  go_wp2
                  go_roundw
                  case rel => exact ⟨i + 1, J', _, _, by omega, by go_num, HS6.out.still (by repeat (first | exact Below.refl _ _ | apply below_drewN | apply Below.drew))⟩
                  case measure => simp [intOf]; omega
            · as_aux_lemma =>
                have Hjt : Hid (ts k ++ bs.drop 8 = joined (J.ps k) bs) := (show _ = _ from by rw [Hj.out, if_neg (fun e => d2 (hpl.1 e).1)])
                have e2 : (bs.getD 2 0 == 0) = false := by rw [beq_eq_false_iff_ne]; exact d2
                clear d2 hpl Hj
                generalize bs.getD 2 0 = b2 at *
                have Hts : Hid True := trivial
                have HOv1 : Hid (∀ q, (v k).ownBlock = some q → q < gO) := fun q hq => HOv.out k q hk16 hq
                have HT4 : Hid (Tm w3 w.heap.size gT J' v ts) := HT3
                have HJ4 : Hid (Jg w w3 w.heap.size jb m J') := HJ3
                go_wp2_with fail
                have a1 := z1
                clear z1 z2 z3 p1 p2 f0 HT3 HJ3 HrX
                obtain ⟨ad, had⟩ : ∃ ad, (if qc = 8 then some (⟨cb, co, none⟩ : Addr) else some ⟨cb, co + 8, none⟩) = some ad := by by_cases e : qc = 8 <;> simp [e]
                have HRt : Hid (∀ w', Below w.heap.size w w' → Rd w' (some ad) (qm - 8) (qc - 8) (bs.drop 8)) := fun w' hb => by rw [← had]; exact rd_tail (Hrw.out.still hb) h8
                have q8 : (8 : Int) ≤ (qc : Int) := by omega
                have q9 : (8 : Int) ≤ (qm : Int) := by omega
                have t3 : w3.cell? ⟨gT, k, none⟩ = some (v k) := HT4.out.blk.cell k hk16
                have HT4d : Hid (Tm w3.drew w.heap.size gT J' v ts) := HT4.out.still (Below.refl _ _).drew
                have HJ4d : Hid (Jg w w3.drew w.heap.size jb m J') := HJ4.out.still (Below.refl _ _).drew
                refine wp_region_held_drew (S := (fun w' => w'.cell? ⟨gO, 1, none⟩ = some (.int .i64 (k : Int)))) (by kernel_rfl) (below_at (Below.refl _ _).drew a1) (fun hHeld => ?_)
                simp only [Act.put, List.size_toArray, List.length_cons, List.length_nil, Nat.zero_add]
                refine wpAnyH_take (i := 0) (v := .pointer (some ⟨gO, 1, none⟩)) rfl (by kernel_rfl) (by kernel_rfl) (by kernel_rfl) (fun _ _ _ h => h) (Or.inl ⟨by rfl, fun w' hS => by go_simp⟩) hHeld ?_
                simp only [Act.put, List.getElem_toArray, List.getElem_cons_zero, List.getElem_cons_succ, List.setIfInBounds_toArray, List.set_cons_zero, List.set_cons_succ]
                refine wpAnyH_take (i := 1) (v := .int .i64 (k : Int)) rfl (by kernel_rfl) (by kernel_rfl) (by kernel_rfl) (fun _ _ _ h => h) (Or.inl ⟨by rfl, fun w' hS => by go_simp⟩) hHeld ?_
                simp only [Act.put, List.getElem_toArray, List.getElem_cons_zero, List.getElem_cons_succ, List.setIfInBounds_toArray, List.set_cons_zero, List.set_cons_succ]
                refine wpAnyH_take (i := 2) (v := .pointer (some ⟨gO, 1, none⟩)) rfl (by kernel_rfl) (by kernel_rfl) (by kernel_rfl) (fun _ _ _ h => h) (Or.inl ⟨by rfl, fun w' hS => by go_simp⟩) hHeld ?_
                simp only [Act.put, List.getElem_toArray, List.getElem_cons_zero, List.getElem_cons_succ, List.setIfInBounds_toArray, List.set_cons_zero, List.set_cons_succ]
                refine wpAnyH_take (i := 3) (v := .int .i64 (k : Int)) rfl (by kernel_rfl) (by kernel_rfl) (by kernel_rfl) (fun _ _ _ h => h) (Or.inl ⟨by rfl, fun w' hS => by go_simp⟩) hHeld ?_
                simp only [Act.put, List.getElem_toArray, List.getElem_cons_zero, List.getElem_cons_succ, List.setIfInBounds_toArray, List.set_cons_zero, List.set_cons_succ]
                refine wpAnyH_take (i := 4) (v := .pointer (some ⟨gT, k, none⟩)) rfl (by kernel_rfl) (by kernel_rfl) (by kernel_rfl) (fun _ _ _ h => h) (Or.inl ⟨by rfl, fun w' hS => by go_simp⟩) hHeld ?_
                simp only [Act.put, List.getElem_toArray, List.getElem_cons_zero, List.getElem_cons_succ, List.setIfInBounds_toArray, List.set_cons_zero, List.set_cons_succ]
                refine wpAnyH_take (i := 6) (v := .slice (some ⟨cb, co, none⟩) qm qc) rfl (by kernel_rfl) (by kernel_rfl) (by kernel_rfl) (fun _ _ _ h => h) (Or.inl ⟨by rfl, fun w' hS => by go_simp⟩) hHeld ?_
                simp only [Act.put, List.getElem_toArray, List.getElem_cons_zero, List.getElem_cons_succ, List.setIfInBounds_toArray, List.set_cons_zero, List.set_cons_succ]
                refine wpAnyH_take (i := 7) (v := .slice (some ad) (qm - 8) (qc - 8)) rfl (by kernel_rfl) (by kernel_rfl) (by kernel_rfl) (fun _ _ _ h => h) (Or.inl ⟨by rfl, fun w' hS => by go_simp⟩) hHeld ?_
                simp only [Act.put, List.getElem_toArray, List.getElem_cons_zero, List.getElem_cons_succ, List.setIfInBounds_toArray, List.set_cons_zero, List.set_cons_succ]
                refine wpAnyH_ready (rs := [5]) (by kernel_rfl) (by simp) ?_
                refine AllReadyH.cons rfl (fun K hK => ?_) AllReadyH.nil
                go_simp
                refine hK.out _ _ hHeld (fun hHeld => ?_)
                clear hK K
                refine wpAnyH_ready (rs := [8]) (by kernel_rfl) (by simp) ?_
                refine AllReadyH.cons rfl (fun K hK => ?_) AllReadyH.nil
                refine step_append_rd (by rfl) _ _ (by rfl) HT4d.out HJ4d.out.hB hk16 (by rfl) ad (qm - 8) (qc - 8) (bs.drop 8) (by rfl) (HRt.out _ HJ4d.out.bel) (by omega) ?_
                intro y w5 hGr
                obtain ⟨ya, yc, hy, _⟩ := hGr.own.shape
                rw [Hjt.out, hjl] at hy
                subst hy
                have a5 := kept_cell hGr.gr (fun e => by have := HOv1.out _ e.symm; omega) (below_at (Below.refl _ _).drew a1)
                have HGr : Hid (Grew w3.drew w5 w.heap.size gT J' v ts k (.slice ya jl yc) (bs.drop 8)) := hGr
                refine hK.out _ _ a5 (fun hHeld => ?_)
                clear hK K hGr
                have f5 : w5.frozen? ⟨gT, k, none⟩ = false := (HGr.out.keepB HT4d.out hk16).fz k
                have t5 : w5.cell? ⟨gT, k, none⟩ = some (v k) := (HGr.out.keepB HT4d.out hk16).cell k hk16
                refine wpAnyH_take (i := 9) (v := .pointer (some ⟨gT, k, none⟩)) rfl (by kernel_rfl) (by kernel_rfl) (by kernel_rfl) (fun _ _ _ h => h) (Or.inl ⟨by rfl, fun w' hS => by go_simp⟩) hHeld ?_
                simp only [Act.put, List.getElem_toArray, List.getElem_cons_zero, List.getElem_cons_succ, List.setIfInBounds_toArray, List.set_cons_zero, List.set_cons_succ]
                have HK6 : Hid (Kept w5 (w5.setCell ⟨gT, k, none⟩ (.slice ya jl yc)) (fun q => q = gT)) := kset _ _ _ _ rfl
                have a6 := kept_cell HK6.out (by omega) a5
                refine wpAnyH_ready (rs := [10]) (by kernel_rfl) (by simp) ?_
                refine AllReadyH.cons rfl (fun K hK => ?_) AllReadyH.nil
                go_simp
                refine hK.out _ _ a6 (fun hHeld => ?_)
                clear hK K
                refine wpAnyH_done (by kernel_rfl) ?_ _
                clear hHeld
                have HS6 : Hid (St w (w5.setCell ⟨gT, k, none⟩ (.slice ya jl yc)) w.heap.size jb m gT J' (upd v k (.slice ya jl yc)) (upd ts k (ts k ++ bs.drop 8))) := ⟨HT4d.out.jset (HGr.out.jg HT4d.out HJ4d.out hk16) k _, HGr.out.set HT4d.out HJ4d.out.ok hk16 (by rw [Hjt.out, hjl]; exact hjl4) (hbyb.drop 8), by rw [Hjt.out]; exact HP3.out⟩
                clear HGr HK6 HT4 HJ4 HT4d HJ4d t3 t5 f5 a1 a5 HRt had q8 q9
                generalize w5.setCell ⟨gT, k, none⟩ (.slice ya jl yc) = w6 at *
                have t6 : w6.cell? ⟨gT, k, none⟩ = some (.slice ya jl yc) := by have := HS6.out.tm.blk.cell k hk16; rw [upd_same] at this; exact this
                have f6 : w6.frozen? ⟨gT, k, none⟩ = false := HS6.out.tm.blk.fz k
                have HHd : Hid (∀ w', Below w6.heap.size w6 w' → Calls Tryd.prog 12 #[.pointer (some ⟨jb, 0, none⟩), .int .i64 (k : Int)] w' fun e w2 => e = .returned (.int .i64 (jl : Int)) ∧ w2 = w') := fun w' hb => (show Calls _ _ _ _ _ from by
                  have hh := held_any (HS6.out.jg.still hb).ok (k : Int)
                  rw [HS6.out.jg.b, HS6.out.jg.n, if_pos (by omega), Int.toNat_natCast, Hps.out] at hh
                  refine hh.mono fun e w2 h => ⟨?_, h.2.symm⟩
                  rw [h.1]
                  show _ = Ending.returned (.int .i64 (jl : Int)); rw [← hjl])
                clear Hps HP3 Hjt Hts hjlt
                go_wp2_with fail
                go_quiet ((go_at_call 12; exact Calls.quiet_of_same (HHd.out _ (by repeat (first | exact Below.refl _ _ | apply below_drewN | apply Below.drew)))))
                go_wp2
                go_roundw
                case rel => exact ⟨i + 1, J', _, _, by omega, by go_num, HS6.out.still (by repeat (first | exact Below.refl _ _ | apply below_drewN | apply Below.drew))⟩
                case measure => simp [intOf]; omega
          · obtain ⟨hform, hfit, hjs, hcr, htk⟩ := hA
            have hlq := hrV.len
            have hbyb := hrV.by_
            have h8b := hform.len
            have h8 : 8 ≤ qm := by omega
            have hqm : qm ≤ 256 := by have := hform.pc; omega
            have hqc := hrV.cap
            have Hj : Hid (joined (J.ps k) bs = (if pl bs = 0 then [] else ts k) ++ bs.drop 8) := joined_pu HV.out.pu hk16 hfit
            obtain ⟨jl, hjl⟩ : ∃ jl, (joined (J.ps k) bs).length = jl := ⟨_, rfl⟩
            have hjl4 : jl ≤ 4000 := by have := hform.big; omega
            obtain ⟨cb, co, hqa⟩ : ∃ b off, qa = some ⟨b, off, none⟩ := hrV.at_.elim (fun h => by omega) (fun ⟨b, off, e, _⟩ => ⟨b, off, e⟩)
            subst hqa
            have Hjb : Hid (By (joined (J.ps k) bs)) := joined_by (HV.out.jg.ok.ok k) hbyb
            have HTc : Hid (Calls Tryd.prog 10 #[.pointer (some ⟨jb, 0, none⟩), .int .i64 (k : Int), .slice (some ⟨cb, co, none⟩) qm qc] V fun e w' => ∃ (J' : Jn) (g2 : Nat), e = .returned (.tuple #[.slice (some ⟨g2, 0, none⟩) jl jl, .bool true, .int .i64 0]) ∧ Jg w w' w.heap.size jb m J' ∧ Tm w' w.heap.size gT J' v ts ∧ Kept V w' J.own ∧ Pu J' (upd ts k (joined (J.ps k) bs)) ∧ J'.ps k = p0 ∧ Bk w' g2 (joined (J.ps k) bs) ∧ g2 ≠ gT ∧ ∀ q, (v k).ownBlock = some q → q ≠ g2) := (show Calls _ _ _ _ _ from by
              have h1 := take_any HV.out.jg.ok (k := k) (by rw [HV.out.jg.n]; exact hkm) hrV (by omega) (HT.out.low HV.out.jg.bel h0B) h0B
              rw [HV.out.jg.b, htk] at h1
              refine h1.mono ?_
              rintro e w' ⟨ra, rn, rc, g, he, h2, h3, h4, h5, h6⟩
              have hjg : Jg w w' w.heap.size jb m (J.put k p0 g) := ⟨h4, HV.out.jg.b, HV.out.jg.n, HV.out.jg.bel.trans (h5.below HV.out.jg.hB (fun j hj hh => by have := HV.out.jg.ok.own_lo j hh; omega)), Nat.le_trans HV.out.jg.hB h5.size⟩
              obtain ⟨g2, rfl, rfl, rfl, hb2, _, _, _, hg2⟩ := h3 _ rfl
              rw [hjl] at he
              refine ⟨_, g2, he, hjg, HV.out.tm.took h5 h6, h5, HV.out.pu.put (.inl rfl), put_at _ _ _ _, hb2, fun e => ?_, fun q hq e => ?_⟩
              · rcases hg2 with hh | hh
                · exact HV.out.tm.nt (e ▸ hh)
                · have := HV.out.tm.blk.lt; omega
              · rcases hg2 with hh | hh
                · exact (HV.out.tm.nj k q hk16 hq).1 (e ▸ hh)
                · have := (HV.out.tm.lt hk16 hq).2; omega)
            clear hrV htk hfit
            have kk1 : (0 : Int) ≤ (k : Int) := Int.natCast_nonneg _
            have kk2 : (k : Int) < (m : Int) := by omega
            have kk3 : (k : Int) < 16 := by omega
            have kk4 : ¬ (k : Int) < 0 := by omega
            have kk5 : ¬ (m : Int) ≤ (k : Int) := by omega
            have g8 : ¬ (qm : Int) < 8 := by omega
            go_wp2_with fail
            clear hV
            refine HTc.out.mono ?_
            rintro e w3 ⟨J', g2, rfl, hj3, ht3, hk3, hpu3, hps3, hb3, hg2T, hg2v⟩
            have z1 := kept_cell hk3 (fun hh => by have := HOj.out _ hh; omega) u1
            have z2 := kept_cell hk3 (fun hh => by have := HOj.out _ hh; omega) u2
            have HJ3 : Hid (Jg w w3 w.heap.size jb m J') := hj3
            have HT3 : Hid (Tm w3 w.heap.size gT J' v ts) := ht3
            have HP3 : Hid (Pu J' (upd ts k (joined (J.ps k) bs))) := hpu3
            have Hps : Hid (J'.ps k = p0) := hps3
            have HB3 : Hid (Bk w3 g2 (joined (J.ps k) bs) ∧ g2 ≠ gT ∧ ∀ q, (v k).ownBlock = some q → q ≠ g2) := ⟨hb3, hg2T, hg2v⟩
            clear hb3 hg2T hg2v
            have HrX : Hid (Rd w3 (some ⟨cb, co, none⟩) qm qc bs) := Hrw.out.still hj3.bel
            obtain ⟨_, _, hq1, hcc⟩ := HrX.out.at_.elim (fun h => by omega) id
            cases hq1
            have p1 := hcc 2 (by omega)
            have p2 := hcc 3 (by omega)
            have j2 : (2 : Int) < (qm : Int) := by omega
            have j3 : (3 : Int) < (qm : Int) := by omega
            have f0 : w3.frozen? ⟨gT, k, none⟩ = false := ht3.blk.fz k
            have z3 : w3.cell? ⟨gT, k, none⟩ = some (v k) := ht3.blk.cell k hk16
            clear u0 u1 u2 x0 x1 x2 hk3 hj3 ht3 hpu3 hps3 HTc hcc
            have hpl := pl_zero hbyb h8b
            by_cases d2 : bs.getD 2 0 = 0
            · by_cases d3 : bs.getD 3 0 = 0
              · as_aux_lemma =>
                  have Hjt : Hid (upd ts k [] k ++ bs.drop 8 = joined (J.ps k) bs) := (show _ = _ from by rw [Hj.out, if_pos (hpl.2 ⟨d2, d3⟩), upd_same])
                  rw [d2] at p1
                  rw [d3] at p2
                  clear d2 d3 hpl Hj
                  have Hts : Hid (∀ X, upd (upd ts k []) k X = upd ts k X) := fun X => upd_twice _ _ _ _
                  have HT4 : Hid (Tm (w3.setCell ⟨gT, k, none⟩ (.slice none 0 0)) w.heap.size gT J' (upd v k (.slice none 0 0)) (upd ts k [])) := HT3.out.nil hk16
                  have HJ4 : Hid (Jg w (w3.setCell ⟨gT, k, none⟩ (.slice none 0 0)) w.heap.size jb m J') := HT3.out.jset HJ3.out k _
                  have HK4 : Hid (Kept w3 (w3.setCell ⟨gT, k, none⟩ (.slice none 0 0)) (fun q => q = gT)) := kset _ _ _ _ rfl
                  have HOv1 : Hid (∀ q, (upd v k (.slice none 0 0) k).ownBlock = some q → q < gO ∧ q ≠ g2) := fun q hq => by rw [upd_same] at hq; simp [Value.ownBlock] at hq
                  go_wp2_with fail
                  have a1 := kept_cell HK4.out (by omega) z1
                  have HB4 : Hid (Bk (w3.setCell ⟨gT, k, none⟩ (.slice none 0 0)) g2 (joined (J.ps k) bs)) := HB3.out.1.keep HK4.out HB3.out.2.1
                  generalize w3.setCell ⟨gT, k, none⟩ (.slice none 0 0) = w4 at *
                  generalize upd v k (.slice none 0 0) = v1 at *
                  generalize upd ts k [] = ts1 at *
                  clear HK4 z1 z2 z3 p1 p2 f0 HT3 HJ3 HrX
                  obtain ⟨ad, had⟩ : ∃ ad, (if qc = 8 then some (⟨cb, co, none⟩ : Addr) else some ⟨cb, co + 8, none⟩) = some ad := by by_cases e : qc = 8 <;> simp [e]
                  have HRt : Hid (∀ w', Below w.heap.size w w' → Rd w' (some ad) (qm - 8) (qc - 8) (bs.drop 8)) := fun w' hb => by rw [← had]; exact rd_tail (Hrw.out.still hb) h8
                  have q8 : (8 : Int) ≤ (qc : Int) := by omega
                  have q9 : (8 : Int) ≤ (qm : Int) := by omega
                  have t3 : w4.cell? ⟨gT, k, none⟩ = some (v1 k) := HT4.out.blk.cell k hk16
                  have HT4d : Hid (Tm w4.drew w.heap.size gT J' v1 ts1) := HT4.out.still (Below.refl _ _).drew
                  have HJ4d : Hid (Jg w w4.drew w.heap.size jb m J') := HJ4.out.still (Below.refl _ _).drew
                  refine wp_region_held_drew (S := (fun w' => w'.cell? ⟨gO, 1, none⟩ = some (.int .i64 (k : Int)))) (by kernel_rfl) (below_at (Below.refl _ _).drew a1) (fun hHeld => ?_)
                  simp only [Act.put, List.size_toArray, List.length_cons, List.length_nil, Nat.zero_add]
                  refine wpAnyH_take (i := 0) (v := .pointer (some ⟨gO, 1, none⟩)) rfl (by kernel_rfl) (by kernel_rfl) (by kernel_rfl) (fun _ _ _ h => h) (Or.inl ⟨by rfl, fun w' hS => by go_simp⟩) hHeld ?_
                  simp only [Act.put, List.getElem_toArray, List.getElem_cons_zero, List.getElem_cons_succ, List.setIfInBounds_toArray, List.set_cons_zero, List.set_cons_succ]
                  refine wpAnyH_take (i := 1) (v := .int .i64 (k : Int)) rfl (by kernel_rfl) (by kernel_rfl) (by kernel_rfl) (fun _ _ _ h => h) (Or.inl ⟨by rfl, fun w' hS => by go_simp⟩) hHeld ?_
                  simp only [Act.put, List.getElem_toArray, List.getElem_cons_zero, List.getElem_cons_succ, List.setIfInBounds_toArray, List.set_cons_zero, List.set_cons_succ]
                  refine wpAnyH_take (i := 2) (v := .pointer (some ⟨gO, 1, none⟩)) rfl (by kernel_rfl) (by kernel_rfl) (by kernel_rfl) (fun _ _ _ h => h) (Or.inl ⟨by rfl, fun w' hS => by go_simp⟩) hHeld ?_
                  simp only [Act.put, List.getElem_toArray, List.getElem_cons_zero, List.getElem_cons_succ, List.setIfInBounds_toArray, List.set_cons_zero, List.set_cons_succ]
                  refine wpAnyH_take (i := 3) (v := .int .i64 (k : Int)) rfl (by kernel_rfl) (by kernel_rfl) (by kernel_rfl) (fun _ _ _ h => h) (Or.inl ⟨by rfl, fun w' hS => by go_simp⟩) hHeld ?_
                  simp only [Act.put, List.getElem_toArray, List.getElem_cons_zero, List.getElem_cons_succ, List.setIfInBounds_toArray, List.set_cons_zero, List.set_cons_succ]
                  refine wpAnyH_take (i := 4) (v := .pointer (some ⟨gT, k, none⟩)) rfl (by kernel_rfl) (by kernel_rfl) (by kernel_rfl) (fun _ _ _ h => h) (Or.inl ⟨by rfl, fun w' hS => by go_simp⟩) hHeld ?_
                  simp only [Act.put, List.getElem_toArray, List.getElem_cons_zero, List.getElem_cons_succ, List.setIfInBounds_toArray, List.set_cons_zero, List.set_cons_succ]
                  refine wpAnyH_take (i := 6) (v := .slice (some ⟨cb, co, none⟩) qm qc) rfl (by kernel_rfl) (by kernel_rfl) (by kernel_rfl) (fun _ _ _ h => h) (Or.inl ⟨by rfl, fun w' hS => by go_simp⟩) hHeld ?_
                  simp only [Act.put, List.getElem_toArray, List.getElem_cons_zero, List.getElem_cons_succ, List.setIfInBounds_toArray, List.set_cons_zero, List.set_cons_succ]
                  refine wpAnyH_take (i := 7) (v := .slice (some ad) (qm - 8) (qc - 8)) rfl (by kernel_rfl) (by kernel_rfl) (by kernel_rfl) (fun _ _ _ h => h) (Or.inl ⟨by rfl, fun w' hS => by go_simp⟩) hHeld ?_
                  simp only [Act.put, List.getElem_toArray, List.getElem_cons_zero, List.getElem_cons_succ, List.setIfInBounds_toArray, List.set_cons_zero, List.set_cons_succ]
                  refine wpAnyH_ready (rs := [5]) (by kernel_rfl) (by simp) ?_
                  refine AllReadyH.cons rfl (fun K hK => ?_) AllReadyH.nil
                  go_simp
                  refine hK.out _ _ hHeld (fun hHeld => ?_)
                  clear hK K
                  refine wpAnyH_ready (rs := [8]) (by kernel_rfl) (by simp) ?_
                  refine AllReadyH.cons rfl (fun K hK => ?_) AllReadyH.nil
                  refine step_append_rd (by rfl) _ _ (by rfl) HT4d.out HJ4d.out.hB hk16 (by rfl) ad (qm - 8) (qc - 8) (bs.drop 8) (by rfl) (HRt.out _ HJ4d.out.bel) (by omega) ?_
                  intro y w5 hGr
                  obtain ⟨ya, yc, hy, _⟩ := hGr.own.shape
                  rw [Hjt.out, hjl] at hy
                  subst hy
                  have a5 := kept_cell hGr.gr (fun e => by have := HOv1.out _ e.symm; omega) (below_at (Below.refl _ _).drew a1)
                  have HGr : Hid (Grew w4.drew w5 w.heap.size gT J' v1 ts1 k (.slice ya jl yc) (bs.drop 8)) := hGr
                  refine hK.out _ _ a5 (fun hHeld => ?_)
                  clear hK K hGr
                  have f5 : w5.frozen? ⟨gT, k, none⟩ = false := (HGr.out.keepB HT4d.out hk16).fz k
                  have t5 : w5.cell? ⟨gT, k, none⟩ = some (v1 k) := (HGr.out.keepB HT4d.out hk16).cell k hk16
                  refine wpAnyH_take (i := 9) (v := .pointer (some ⟨gT, k, none⟩)) rfl (by kernel_rfl) (by kernel_rfl) (by kernel_rfl) (fun _ _ _ h => h) (Or.inl ⟨by rfl, fun w' hS => by go_simp⟩) hHeld ?_
                  simp only [Act.put, List.getElem_toArray, List.getElem_cons_zero, List.getElem_cons_succ, List.setIfInBounds_toArray, List.set_cons_zero, List.set_cons_succ]
                  have HK6 : Hid (Kept w5 (w5.setCell ⟨gT, k, none⟩ (.slice ya jl yc)) (fun q => q = gT)) := kset _ _ _ _ rfl
                  have a6 := kept_cell HK6.out (by omega) a5
                  refine wpAnyH_ready (rs := [10]) (by kernel_rfl) (by simp) ?_
                  refine AllReadyH.cons rfl (fun K hK => ?_) AllReadyH.nil
                  go_simp
                  refine hK.out _ _ a6 (fun hHeld => ?_)
                  clear hK K
                  refine wpAnyH_done (by kernel_rfl) ?_ _
                  clear hHeld
                  have HS6 : Hid (St w (w5.setCell ⟨gT, k, none⟩ (.slice ya jl yc)) w.heap.size jb m gT J' (upd v1 k (.slice ya jl yc)) (upd ts1 k (ts1 k ++ bs.drop 8))) := ⟨HT4d.out.jset (HGr.out.jg HT4d.out HJ4d.out hk16) k _, HGr.out.set HT4d.out HJ4d.out.ok hk16 (by rw [Hjt.out, hjl]; exact hjl4) (hbyb.drop 8), by rw [Hts.out, Hjt.out]; exact HP3.out⟩
                  have HB6 : Hid (Bk (w5.setCell ⟨gT, k, none⟩ (.slice ya jl yc)) g2 (joined (J.ps k) bs)) := ((HB4.out.still (Below.refl _ _).drew).keep HGr.out.gr (fun e => (HOv1.out _ e.symm).2 rfl)).keep HK6.out HB3.out.2.1
                  clear HGr HK6 HT4 HJ4 HT4d HJ4d t3 t5 f5 a1 a5 HRt had q8 q9 HB4
                  generalize w5.setCell ⟨gT, k, none⟩ (.slice ya jl yc) = w6 at *
                  have t6 : w6.cell? ⟨gT, k, none⟩ = some (.slice ya jl yc) := by have := HS6.out.tm.blk.cell k hk16; rw [upd_same] at this; exact this
                  have f6 : w6.frozen? ⟨gT, k, none⟩ = false := HS6.out.tm.blk.fz k
                  have HHd : Hid (∀ w', Below w6.heap.size w6 w' → Calls Tryd.prog 12 #[.pointer (some ⟨jb, 0, none⟩), .int .i64 (k : Int)] w' fun e w2 => e = .returned (.int .i64 0) ∧ w2 = w') := fun w' hb => (show Calls _ _ _ _ _ from by
                    have hh := held_any (HS6.out.jg.still hb).ok (k : Int)
                    rw [HS6.out.jg.b, HS6.out.jg.n, if_pos (by omega), Int.toNat_natCast, Hps.out] at hh
                    refine hh.mono fun e w2 h => ⟨?_, h.2.symm⟩
                    rw [h.1]
                    rfl)
                  have HSm : Hid (∀ w', Below w6.heap.size w6 w' → Calls Tryd.prog 11 #[.slice (some ⟨g2, 0, none⟩) jl jl, .slice ya jl yc] w' fun e w2 => e = .returned (.bool true) ∧ w2 = w') := fun w' hb => (show Calls _ _ _ _ _ from by
                    have h1 : Rd w' (some ⟨g2, 0, none⟩) jl jl (joined (J.ps k) bs) := by have := (HB6.out.still hb).all jl (by omega) Hjb.out; rwa [hjl] at this
                    have h2 : Rd w' ya jl yc (joined (J.ps k) bs) := by
                      have h3 := ((HS6.out.tm.still hb).own k hk16)
                      rw [upd_same, upd_same, Hjt.out] at h3
                      exact h3.rd Hjb.out
                    exact (same_any h1 h2).mono fun e w2 h => ⟨h.1, h.2.symm⟩)
                  have HSu : Hid (∀ w', Below w6.heap.size w6 w' → Calls Tryd.prog 13 #[.slice (some ⟨g2, 0, none⟩) jl jl] w' fun e w2 => e = .returned (.int .i64 (sm bs : Int)) ∧ w2 = w') := fun w' hb => (show Calls _ _ _ _ _ from by
                    have h1 : Rd w' (some ⟨g2, 0, none⟩) jl jl (joined (J.ps k) bs) := by have := (HB6.out.still hb).all jl (by omega) Hjb.out; rwa [hjl] at this
                    have h2 := sum_any h1 (by omega) (HT.out.low (HS6.out.jg.still hb).bel h0B)
                    rw [show ((crc (joined (J.ps k) bs) : Nat) : Int) = (sm bs : Int) by rw [hcr]] at h2
                    exact h2.mono fun e w2 h => ⟨h.1, h.2.symm⟩)
                  have HrX : Hid (Rd w6 (some ⟨cb, co, none⟩) qm qc bs) := Hrw.out.still HS6.out.jg.bel
                  obtain ⟨_, _, hq1, hcc⟩ := HrX.out.at_.elim (fun h => by omega) id
                  cases hq1
                  have c0 := hcc 0 (by omega)
                  obtain ⟨x0, hx0⟩ := Int.eq_ofNat_of_zero_le (hbyb 0).1
                  have y0 : x0 < 256 := by have := (hbyb 0).2; omega
                  have m0 : (x0 : Int) ≤ 255 := by omega
                  have l0 : (0 : Int) ≤ (x0 : Int) := Int.natCast_nonneg _
                  rw [hx0] at c0
                  have r0 : (0 : Int) < (qm : Int) := by omega
                  have c1 := hcc 1 (by omega)
                  obtain ⟨x1, hx1⟩ := Int.eq_ofNat_of_zero_le (hbyb 1).1
                  have y1 : x1 < 256 := by have := (hbyb 1).2; omega
                  have m1 : (x1 : Int) ≤ 255 := by omega
                  have l1 : (0 : Int) ≤ (x1 : Int) := Int.natCast_nonneg _
                  rw [hx1] at c1
                  have r1 : (1 : Int) < (qm : Int) := by omega
                  have c4 := hcc 4 (by omega)
                  obtain ⟨x4, hx4⟩ := Int.eq_ofNat_of_zero_le (hbyb 4).1
                  have y4 : x4 < 256 := by have := (hbyb 4).2; omega
                  have m4 : (x4 : Int) ≤ 255 := by omega
                  have l4 : (0 : Int) ≤ (x4 : Int) := Int.natCast_nonneg _
                  rw [hx4] at c4
                  have r4 : (4 : Int) < (qm : Int) := by omega
                  have c5 := hcc 5 (by omega)
                  obtain ⟨x5, hx5⟩ := Int.eq_ofNat_of_zero_le (hbyb 5).1
                  have y5 : x5 < 256 := by have := (hbyb 5).2; omega
                  have m5 : (x5 : Int) ≤ 255 := by omega
                  have l5 : (0 : Int) ≤ (x5 : Int) := Int.natCast_nonneg _
                  rw [hx5] at c5
                  have r5 : (5 : Int) < (qm : Int) := by omega
                  have c6 := hcc 6 (by omega)
                  obtain ⟨x6, hx6⟩ := Int.eq_ofNat_of_zero_le (hbyb 6).1
                  have y6 : x6 < 256 := by have := (hbyb 6).2; omega
                  have m6 : (x6 : Int) ≤ 255 := by omega
                  have l6 : (0 : Int) ≤ (x6 : Int) := Int.natCast_nonneg _
                  rw [hx6] at c6
                  have r6 : (6 : Int) < (qm : Int) := by omega
                  have c7 := hcc 7 (by omega)
                  obtain ⟨x7, hx7⟩ := Int.eq_ofNat_of_zero_le (hbyb 7).1
                  have y7 : x7 < 256 := by have := (hbyb 7).2; omega
                  have m7 : (x7 : Int) ≤ 255 := by omega
                  have l7 : (0 : Int) ≤ (x7 : Int) := Int.natCast_nonneg _
                  rw [hx7] at c7
                  have r7 : (7 : Int) < (qm : Int) := by omega
                  rw [Nat.add_zero] at c0
                  have r0n : 0 < qm := by omega
                  have r0z : ¬ qm = 0 := by omega
                  have hsz := sz_nat h8b
                  rw [hx0, hx1, Int.toNat_natCast, Int.toNat_natCast] at hsz
                  have hsm := sm_nat h8b
                  rw [hx4, hx5, hx6, hx7, Int.toNat_natCast, Int.toNat_natCast, Int.toNat_natCast, Int.toNat_natCast] at hsm
                  have oz : bits .or .i64 ((x0 : Int) * 256) (x1 : Int) = (jl : Int) := by rw [or_sz x0 x1 y0 y1]; omega
                  obtain ⟨s1, hs1'⟩ : ∃ s1 : Nat, s1 = x4 * 16777216 + x5 * 65536 := ⟨_, rfl⟩
                  obtain ⟨s2, hs2'⟩ : ∃ s2 : Nat, s2 = s1 + x6 * 256 := ⟨_, rfl⟩
                  have o1 : bits .or .i64 ((x4 : Int) * 16777216) ((x5 : Int) * 65536) = (s1 : Int) := by rw [or_24 x4 x5 y4 y5, hs1']
                  have o2 : bits .or .i64 (s1 : Int) ((x6 : Int) * 256) = (s2 : Int) := by rw [or_16 s1 x6 (by omega) (by omega) y6, hs2']
                  have o3 : bits .or .i64 (s2 : Int) (x7 : Int) = (sm bs : Int) := by rw [or_8 s2 x7 (by omega) (by omega) y7]; omega
                  clear hcc hx0 hx1 hx4 hx5 hx6 hx7 hsz hsm hs1' hs2' hcr hjs HB6 HB3 Hjt Hts HP3 y0 y1 y4 y5 y6 y7
                  generalize (sm bs : Int) = sI at *
                  go_wp2_with fail
                  go_quiet (fail)
                  go_wp2_with fail
                  refine wp_region_held_drew (S := (fun w' => w'.cell? ⟨cb, co, none⟩ = some (.int .u8 (x0 : Int)) ∧ w'.cell? ⟨cb, co + 1, none⟩ = some (.int .u8 (x1 : Int)) ∧ w'.cell? ⟨gO, 1, none⟩ = some (.int .i64 (k : Int)) ∧ w'.cell? ⟨gT, k, none⟩ = some (.slice ya jl yc) ∧ Below w6.heap.size w6 w')) (by kernel_rfl) ⟨below_at (Below.drew (below_drewN (Below.refl _ _) _)) c0, below_at (Below.drew (below_drewN (Below.refl _ _) _)) c1, below_at (Below.drew (below_drewN (Below.refl _ _) _)) a6, below_at (Below.drew (below_drewN (Below.refl _ _) _)) t6, (Below.drew (below_drewN (Below.refl _ _) _))⟩ (fun hHeld => ?_)
                  simp only [Act.put, List.size_toArray, List.length_cons, List.length_nil, Nat.zero_add]
                  refine wpAnyH_take (i := 0) (v := .slice (some ⟨g2, 0, none⟩) jl jl) rfl (by kernel_rfl) (by kernel_rfl) (by kernel_rfl) (fun _ _ _ h => h) (Or.inl ⟨by rfl, fun w' hS => by go_simp⟩) hHeld ?_
                  simp only [Act.put, List.getElem_toArray, List.getElem_cons_zero, List.getElem_cons_succ, List.setIfInBounds_toArray, List.set_cons_zero, List.set_cons_succ]
                  refine wpAnyH_take (i := 1) (v := .int .i64 (jl : Int)) rfl (by kernel_rfl) (by kernel_rfl) (by kernel_rfl) (fun _ _ _ h => h) (Or.inl ⟨by rfl, fun w' hS => by go_simp⟩) hHeld ?_
                  simp only [Act.put, List.getElem_toArray, List.getElem_cons_zero, List.getElem_cons_succ, List.setIfInBounds_toArray, List.set_cons_zero, List.set_cons_succ]
                  refine wpAnyH_take (i := 2) (v := .slice (some ⟨cb, co, none⟩) qm qc) rfl (by kernel_rfl) (by kernel_rfl) (by kernel_rfl) (fun _ _ _ h => h) (Or.inl ⟨by rfl, fun w' hS => by go_simp⟩) hHeld ?_
                  simp only [Act.put, List.getElem_toArray, List.getElem_cons_zero, List.getElem_cons_succ, List.setIfInBounds_toArray, List.set_cons_zero, List.set_cons_succ]
                  refine wpAnyH_take (i := 3) (v := .pointer (some ⟨cb, co, none⟩)) rfl (by kernel_rfl) (by kernel_rfl) (by kernel_rfl) (fun _ _ _ h => h) (Or.inl ⟨by rfl, fun w' hS => by go_simp⟩) hHeld ?_
                  simp only [Act.put, List.getElem_toArray, List.getElem_cons_zero, List.getElem_cons_succ, List.setIfInBounds_toArray, List.set_cons_zero, List.set_cons_succ]
                  refine wpAnyH_take (i := 4) (v := .int .u8 (x0 : Int)) rfl (by kernel_rfl) (by kernel_rfl) (by kernel_rfl) (fun _ _ _ h => h) (Or.inl ⟨by rfl, fun w' hS => by (obtain ⟨s0, s1, s2, s3, s4⟩ := hS; go_simp)⟩) hHeld ?_
                  simp only [Act.put, List.getElem_toArray, List.getElem_cons_zero, List.getElem_cons_succ, List.setIfInBounds_toArray, List.set_cons_zero, List.set_cons_succ]
                  refine wpAnyH_take (i := 5) (v := .int .i64 (x0 : Int)) rfl (by kernel_rfl) (by kernel_rfl) (by kernel_rfl) (fun _ _ _ h => h) (Or.inl ⟨by rfl, fun w' hS => by (go_simp; exact wrap_id (by omega) (by omega))⟩) hHeld ?_
                  simp only [Act.put, List.getElem_toArray, List.getElem_cons_zero, List.getElem_cons_succ, List.setIfInBounds_toArray, List.set_cons_zero, List.set_cons_succ]
                  refine wpAnyH_take (i := 6) (v := .int .i64 ((x0 : Int) * 256)) rfl (by kernel_rfl) (by kernel_rfl) (by kernel_rfl) (fun _ _ _ h => h) (Or.inl ⟨by rfl, fun w' hS => by (go_simp; exact wrap_id (by omega) (by omega))⟩) hHeld ?_
                  simp only [Act.put, List.getElem_toArray, List.getElem_cons_zero, List.getElem_cons_succ, List.setIfInBounds_toArray, List.set_cons_zero, List.set_cons_succ]
                  refine wpAnyH_take (i := 7) (v := .slice (some ⟨cb, co, none⟩) qm qc) rfl (by kernel_rfl) (by kernel_rfl) (by kernel_rfl) (fun _ _ _ h => h) (Or.inl ⟨by rfl, fun w' hS => by go_simp⟩) hHeld ?_
                  simp only [Act.put, List.getElem_toArray, List.getElem_cons_zero, List.getElem_cons_succ, List.setIfInBounds_toArray, List.set_cons_zero, List.set_cons_succ]
                  refine wpAnyH_take (i := 8) (v := .pointer (some ⟨cb, co + 1, none⟩)) rfl (by kernel_rfl) (by kernel_rfl) (by kernel_rfl) (fun _ _ _ h => h) (Or.inl ⟨by rfl, fun w' hS => by go_simp⟩) hHeld ?_
                  simp only [Act.put, List.getElem_toArray, List.getElem_cons_zero, List.getElem_cons_succ, List.setIfInBounds_toArray, List.set_cons_zero, List.set_cons_succ]
                  refine wpAnyH_take (i := 9) (v := .int .u8 (x1 : Int)) rfl (by kernel_rfl) (by kernel_rfl) (by kernel_rfl) (fun _ _ _ h => h) (Or.inl ⟨by rfl, fun w' hS => by (obtain ⟨s0, s1, s2, s3, s4⟩ := hS; go_simp)⟩) hHeld ?_
                  simp only [Act.put, List.getElem_toArray, List.getElem_cons_zero, List.getElem_cons_succ, List.setIfInBounds_toArray, List.set_cons_zero, List.set_cons_succ]
                  refine wpAnyH_take (i := 10) (v := .int .i64 (x1 : Int)) rfl (by kernel_rfl) (by kernel_rfl) (by kernel_rfl) (fun _ _ _ h => h) (Or.inl ⟨by rfl, fun w' hS => by (go_simp; exact wrap_id (by omega) (by omega))⟩) hHeld ?_
                  simp only [Act.put, List.getElem_toArray, List.getElem_cons_zero, List.getElem_cons_succ, List.setIfInBounds_toArray, List.set_cons_zero, List.set_cons_succ]
                  refine wpAnyH_take (i := 11) (v := .int .i64 (jl : Int)) rfl (by kernel_rfl) (by kernel_rfl) (by kernel_rfl) (fun _ _ _ h => h) (Or.inl ⟨by rfl, fun w' hS => by go_simp⟩) hHeld ?_
                  simp only [Act.put, List.getElem_toArray, List.getElem_cons_zero, List.getElem_cons_succ, List.setIfInBounds_toArray, List.set_cons_zero, List.set_cons_succ]
                  refine wpAnyH_take (i := 12) (v := .bool false) rfl (by kernel_rfl) (by kernel_rfl) (by kernel_rfl) (fun _ _ _ h => h) (Or.inl ⟨by rfl, fun w' hS => by go_simp⟩) hHeld ?_
                  simp only [Act.put, List.getElem_toArray, List.getElem_cons_zero, List.getElem_cons_succ, List.setIfInBounds_toArray, List.set_cons_zero, List.set_cons_succ]
                  refine wpAnyH_take (i := 13) (v := .bool false) rfl (by kernel_rfl) (by kernel_rfl) (by kernel_rfl) (fun _ _ _ h => h) (Or.inl ⟨by rfl, fun w' hS => by go_simp⟩) hHeld ?_
                  simp only [Act.put, List.getElem_toArray, List.getElem_cons_zero, List.getElem_cons_succ, List.setIfInBounds_toArray, List.set_cons_zero, List.set_cons_succ]
                  refine wpAnyH_take (i := 14) (v := .slice (some ⟨g2, 0, none⟩) jl jl) rfl (by kernel_rfl) (by kernel_rfl) (by kernel_rfl) (fun _ _ _ h => h) (Or.inl ⟨by rfl, fun w' hS => by go_simp⟩) hHeld ?_
                  simp only [Act.put, List.getElem_toArray, List.getElem_cons_zero, List.getElem_cons_succ, List.setIfInBounds_toArray, List.set_cons_zero, List.set_cons_succ]
                  refine wpAnyH_take (i := 16) (v := .int .i64 sI) rfl (by kernel_rfl) (by kernel_rfl) (by kernel_rfl) (fun _ _ _ h => h) (Or.inl ⟨by rfl, fun w' hS => by go_simp⟩) hHeld ?_
                  simp only [Act.put, List.getElem_toArray, List.getElem_cons_zero, List.getElem_cons_succ, List.setIfInBounds_toArray, List.set_cons_zero, List.set_cons_succ]
                  refine wpAnyH_ready (rs := [15]) (by kernel_rfl) (by simp) ?_
                  refine AllReadyH.cons rfl (fun K hK => ?_) AllReadyH.nil
                  go_simp
                  refine (HSu.out _ hHeld.2.2.2.2).mono ?_
                  rintro e w7 ⟨rfl, rfl⟩
                  refine hK.out _ _ hHeld (fun hHeld => ?_)
                  clear hK K
                  refine wpAnyH_take (i := 17) (v := .bool false) rfl (by kernel_rfl) (by kernel_rfl) (by kernel_rfl) (fun _ _ _ h => h) (Or.inl ⟨by rfl, fun w' hS => by go_simp⟩) hHeld ?_
                  simp only [Act.put, List.getElem_toArray, List.getElem_cons_zero, List.getElem_cons_succ, List.setIfInBounds_toArray, List.set_cons_zero, List.set_cons_succ]
                  refine wpAnyH_take (i := 18) (v := .bool false) rfl (by kernel_rfl) (by kernel_rfl) (by kernel_rfl) (fun _ _ _ h => h) (Or.inl ⟨by rfl, fun w' hS => by go_simp⟩) hHeld ?_
                  simp only [Act.put, List.getElem_toArray, List.getElem_cons_zero, List.getElem_cons_succ, List.setIfInBounds_toArray, List.set_cons_zero, List.set_cons_succ]
                  refine wpAnyH_take (i := 19) (v := .bool false) rfl (by kernel_rfl) (by kernel_rfl) (by kernel_rfl) (fun _ _ _ h => h) (Or.inl ⟨by rfl, fun w' hS => by go_simp⟩) hHeld ?_
                  simp only [Act.put, List.getElem_toArray, List.getElem_cons_zero, List.getElem_cons_succ, List.setIfInBounds_toArray, List.set_cons_zero, List.set_cons_succ]
                  refine wpAnyH_take (i := 20) (v := .slice (some ⟨g2, 0, none⟩) jl jl) rfl (by kernel_rfl) (by kernel_rfl) (by kernel_rfl) (fun _ _ _ h => h) (Or.inl ⟨by rfl, fun w' hS => by go_simp⟩) hHeld ?_
                  simp only [Act.put, List.getElem_toArray, List.getElem_cons_zero, List.getElem_cons_succ, List.setIfInBounds_toArray, List.set_cons_zero, List.set_cons_succ]
                  refine wpAnyH_take (i := 21) (v := .pointer (some ⟨gO, 1, none⟩)) rfl (by kernel_rfl) (by kernel_rfl) (by kernel_rfl) (fun _ _ _ h => h) (Or.inl ⟨by rfl, fun w' hS => by go_simp⟩) hHeld ?_
                  simp only [Act.put, List.getElem_toArray, List.getElem_cons_zero, List.getElem_cons_succ, List.setIfInBounds_toArray, List.set_cons_zero, List.set_cons_succ]
                  refine wpAnyH_take (i := 22) (v := .int .i64 (k : Int)) rfl (by kernel_rfl) (by kernel_rfl) (by kernel_rfl) (fun _ _ _ h => h) (Or.inl ⟨by rfl, fun w' hS => by (obtain ⟨s0, s1, s2, s3, s4⟩ := hS; go_simp)⟩) hHeld ?_
                  simp only [Act.put, List.getElem_toArray, List.getElem_cons_zero, List.getElem_cons_succ, List.setIfInBounds_toArray, List.set_cons_zero, List.set_cons_succ]
                  refine wpAnyH_take (i := 23) (v := .pointer (some ⟨gT, k, none⟩)) rfl (by kernel_rfl) (by kernel_rfl) (by kernel_rfl) (fun _ _ _ h => h) (Or.inl ⟨by rfl, fun w' hS => by go_simp⟩) hHeld ?_
                  simp only [Act.put, List.getElem_toArray, List.getElem_cons_zero, List.getElem_cons_succ, List.setIfInBounds_toArray, List.set_cons_zero, List.set_cons_succ]
                  refine wpAnyH_take (i := 24) (v := .slice ya jl yc) rfl (by kernel_rfl) (by kernel_rfl) (by kernel_rfl) (fun _ _ _ h => h) (Or.inl ⟨by rfl, fun w' hS => by (obtain ⟨s0, s1, s2, s3, s4⟩ := hS; go_simp)⟩) hHeld ?_
                  simp only [Act.put, List.getElem_toArray, List.getElem_cons_zero, List.getElem_cons_succ, List.setIfInBounds_toArray, List.set_cons_zero, List.set_cons_succ]
                  refine wpAnyH_ready (rs := [25]) (by kernel_rfl) (by simp) ?_
                  refine AllReadyH.cons rfl (fun K hK => ?_) AllReadyH.nil
                  go_simp
                  refine (HSm.out _ hHeld.2.2.2.2).mono ?_
                  rintro e w8 ⟨rfl, rfl⟩
                  refine hK.out _ _ hHeld (fun hHeld => ?_)
                  clear hK K
                  refine wpAnyH_take (i := 26) (v := .bool false) rfl (by kernel_rfl) (by kernel_rfl) (by kernel_rfl) (fun _ _ _ h => h) (Or.inl ⟨by rfl, fun w' hS => by go_simp⟩) hHeld ?_
                  simp only [Act.put, List.getElem_toArray, List.getElem_cons_zero, List.getElem_cons_succ, List.setIfInBounds_toArray, List.set_cons_zero, List.set_cons_succ]
                  refine wpAnyH_take (i := 27) (v := .bool false) rfl (by kernel_rfl) (by kernel_rfl) (by kernel_rfl) (fun _ _ _ h => h) (Or.inl ⟨by rfl, fun w' hS => by go_simp⟩) hHeld ?_
                  simp only [Act.put, List.getElem_toArray, List.getElem_cons_zero, List.getElem_cons_succ, List.setIfInBounds_toArray, List.set_cons_zero, List.set_cons_succ]
                  refine wpAnyH_take (i := 28) (v := .bool false) rfl (by kernel_rfl) (by kernel_rfl) (by kernel_rfl) (fun _ _ _ h => h) (Or.inl ⟨by rfl, fun w' hS => by go_simp⟩) hHeld ?_
                  simp only [Act.put, List.getElem_toArray, List.getElem_cons_zero, List.getElem_cons_succ, List.setIfInBounds_toArray, List.set_cons_zero, List.set_cons_succ]
                  refine wpAnyH_take (i := 29) (v := .pointer (some ⟨jb, 0, none⟩)) rfl (by kernel_rfl) (by kernel_rfl) (by kernel_rfl) (fun _ _ _ h => h) (Or.inl ⟨by rfl, fun w' hS => by go_simp⟩) hHeld ?_
                  simp only [Act.put, List.getElem_toArray, List.getElem_cons_zero, List.getElem_cons_succ, List.setIfInBounds_toArray, List.set_cons_zero, List.set_cons_succ]
                  refine wpAnyH_take (i := 30) (v := .pointer (some ⟨gO, 1, none⟩)) rfl (by kernel_rfl) (by kernel_rfl) (by kernel_rfl) (fun _ _ _ h => h) (Or.inl ⟨by rfl, fun w' hS => by go_simp⟩) hHeld ?_
                  simp only [Act.put, List.getElem_toArray, List.getElem_cons_zero, List.getElem_cons_succ, List.setIfInBounds_toArray, List.set_cons_zero, List.set_cons_succ]
                  refine wpAnyH_take (i := 31) (v := .int .i64 (k : Int)) rfl (by kernel_rfl) (by kernel_rfl) (by kernel_rfl) (fun _ _ _ h => h) (Or.inl ⟨by rfl, fun w' hS => by (obtain ⟨s0, s1, s2, s3, s4⟩ := hS; go_simp)⟩) hHeld ?_
                  simp only [Act.put, List.getElem_toArray, List.getElem_cons_zero, List.getElem_cons_succ, List.setIfInBounds_toArray, List.set_cons_zero, List.set_cons_succ]
                  refine wpAnyH_ready (rs := [32]) (by kernel_rfl) (by simp) ?_
                  refine AllReadyH.cons rfl (fun K hK => ?_) AllReadyH.nil
                  go_simp
                  refine (HHd.out _ hHeld.2.2.2.2).mono ?_
                  rintro e w9 ⟨rfl, rfl⟩
                  refine hK.out _ _ hHeld (fun hHeld => ?_)
                  clear hK K
                  refine wpAnyH_take (i := 33) (v := .bool false) rfl (by kernel_rfl) (by kernel_rfl) (by kernel_rfl) (fun _ _ _ h => h) (Or.inl ⟨by rfl, fun w' hS => by go_simp⟩) hHeld ?_
                  simp only [Act.put, List.getElem_toArray, List.getElem_cons_zero, List.getElem_cons_succ, List.setIfInBounds_toArray, List.set_cons_zero, List.set_cons_succ]
                  refine wpAnyH_take (i := 34) (v := .bool false) rfl (by kernel_rfl) (by kernel_rfl) (by kernel_rfl) (fun _ _ _ h => h) (Or.inl ⟨by rfl, fun w' hS => by go_simp⟩) hHeld ?_
                  simp only [Act.put, List.getElem_toArray, List.getElem_cons_zero, List.getElem_cons_succ, List.setIfInBounds_toArray, List.set_cons_zero, List.set_cons_succ]
                  refine wpAnyH_done (by kernel_rfl) ?_ _
                  clear hHeld
                  go_wp2
                  go_roundw
                  case rel => exact ⟨i + 1, J', _, _, by omega, by go_num, (HS6.out.still (by repeat (first | exact Below.refl _ _ | apply below_drewN | apply Below.drew))).nil hk16 (.inl Hps.out)⟩
                  case measure => simp [intOf]; omega
              · as_aux_lemma =>
                  have Hjt : Hid (ts k ++ bs.drop 8 = joined (J.ps k) bs) := (show _ = _ from by rw [Hj.out, if_neg (fun e => d3 (hpl.1 e).2)])
                  have e3 : (bs.getD 3 0 == 0) = false := by rw [beq_eq_false_iff_ne]; exact d3
                  rw [d2] at p1
                  clear d2 d3 hpl Hj
                  generalize bs.getD 3 0 = b3 at *
                  have Hts : Hid True := trivial
                  have HOv1 : Hid (∀ q, (v k).ownBlock = some q → q < gO ∧ q ≠ g2) := fun q hq => ⟨HOv.out k q hk16 hq, HB3.out.2.2 q hq⟩
                  have HT4 : Hid (Tm w3 w.heap.size gT J' v ts) := HT3
                  have HJ4 : Hid (Jg w w3 w.heap.size jb m J') := HJ3
                  have HB4 : Hid (Bk w3 g2 (joined (J.ps k) bs)) := HB3.out.1
                  go_wp2_with fail
                  have a1 := z1
                  clear z1 z2 z3 p1 p2 f0 HT3 HJ3 HrX
                  obtain ⟨ad, had⟩ : ∃ ad, (if qc = 8 then some (⟨cb, co, none⟩ : Addr) else some ⟨cb, co + 8, none⟩) = some ad := by by_cases e : qc = 8 <;> simp [e]
                  have HRt : Hid (∀ w', Below w.heap.size w w' → Rd w' (some ad) (qm - 8) (qc - 8) (bs.drop 8)) := fun w' hb => by rw [← had]; exact rd_tail (Hrw.out.still hb) h8
                  have q8 : (8 : Int) ≤ (qc : Int) := by omega
                  have q9 : (8 : Int) ≤ (qm : Int) := by omega
                  have t3 : w3.cell? ⟨gT, k, none⟩ = some (v k) := HT4.out.blk.cell k hk16
                  have HT4d : Hid (Tm w3.drew w.heap.size gT J' v ts) := HT4.out.still (Below.refl _ _).drew
                  have HJ4d : Hid (Jg w w3.drew w.heap.size jb m J') := HJ4.out.still (Below.refl _ _).drew
                  refine wp_region_held_drew (S := (fun w' => w'.cell? ⟨gO, 1, none⟩ = some (.int .i64 (k : Int)))) (by kernel_rfl) (below_at (Below.refl _ _).drew a1) (fun hHeld => ?_)
                  simp only [Act.put, List.size_toArray, List.length_cons, List.length_nil, Nat.zero_add]
                  refine wpAnyH_take (i := 0) (v := .pointer (some ⟨gO, 1, none⟩)) rfl (by kernel_rfl) (by kernel_rfl) (by kernel_rfl) (fun _ _ _ h => h) (Or.inl ⟨by rfl, fun w' hS => by go_simp⟩) hHeld ?_
                  simp only [Act.put, List.getElem_toArray, List.getElem_cons_zero, List.getElem_cons_succ, List.setIfInBounds_toArray, List.set_cons_zero, List.set_cons_succ]
                  refine wpAnyH_take (i := 1) (v := .int .i64 (k : Int)) rfl (by kernel_rfl) (by kernel_rfl) (by kernel_rfl) (fun _ _ _ h => h) (Or.inl ⟨by rfl, fun w' hS => by go_simp⟩) hHeld ?_
                  simp only [Act.put, List.getElem_toArray, List.getElem_cons_zero, List.getElem_cons_succ, List.setIfInBounds_toArray, List.set_cons_zero, List.set_cons_succ]
                  refine wpAnyH_take (i := 2) (v := .pointer (some ⟨gO, 1, none⟩)) rfl (by kernel_rfl) (by kernel_rfl) (by kernel_rfl) (fun _ _ _ h => h) (Or.inl ⟨by rfl, fun w' hS => by go_simp⟩) hHeld ?_
                  simp only [Act.put, List.getElem_toArray, List.getElem_cons_zero, List.getElem_cons_succ, List.setIfInBounds_toArray, List.set_cons_zero, List.set_cons_succ]
                  refine wpAnyH_take (i := 3) (v := .int .i64 (k : Int)) rfl (by kernel_rfl) (by kernel_rfl) (by kernel_rfl) (fun _ _ _ h => h) (Or.inl ⟨by rfl, fun w' hS => by go_simp⟩) hHeld ?_
                  simp only [Act.put, List.getElem_toArray, List.getElem_cons_zero, List.getElem_cons_succ, List.setIfInBounds_toArray, List.set_cons_zero, List.set_cons_succ]
                  refine wpAnyH_take (i := 4) (v := .pointer (some ⟨gT, k, none⟩)) rfl (by kernel_rfl) (by kernel_rfl) (by kernel_rfl) (fun _ _ _ h => h) (Or.inl ⟨by rfl, fun w' hS => by go_simp⟩) hHeld ?_
                  simp only [Act.put, List.getElem_toArray, List.getElem_cons_zero, List.getElem_cons_succ, List.setIfInBounds_toArray, List.set_cons_zero, List.set_cons_succ]
                  refine wpAnyH_take (i := 6) (v := .slice (some ⟨cb, co, none⟩) qm qc) rfl (by kernel_rfl) (by kernel_rfl) (by kernel_rfl) (fun _ _ _ h => h) (Or.inl ⟨by rfl, fun w' hS => by go_simp⟩) hHeld ?_
                  simp only [Act.put, List.getElem_toArray, List.getElem_cons_zero, List.getElem_cons_succ, List.setIfInBounds_toArray, List.set_cons_zero, List.set_cons_succ]
                  refine wpAnyH_take (i := 7) (v := .slice (some ad) (qm - 8) (qc - 8)) rfl (by kernel_rfl) (by kernel_rfl) (by kernel_rfl) (fun _ _ _ h => h) (Or.inl ⟨by rfl, fun w' hS => by go_simp⟩) hHeld ?_
                  simp only [Act.put, List.getElem_toArray, List.getElem_cons_zero, List.getElem_cons_succ, List.setIfInBounds_toArray, List.set_cons_zero, List.set_cons_succ]
                  refine wpAnyH_ready (rs := [5]) (by kernel_rfl) (by simp) ?_
                  refine AllReadyH.cons rfl (fun K hK => ?_) AllReadyH.nil
                  go_simp
                  refine hK.out _ _ hHeld (fun hHeld => ?_)
                  clear hK K
                  refine wpAnyH_ready (rs := [8]) (by kernel_rfl) (by simp) ?_
                  refine AllReadyH.cons rfl (fun K hK => ?_) AllReadyH.nil
                  refine step_append_rd (by rfl) _ _ (by rfl) HT4d.out HJ4d.out.hB hk16 (by rfl) ad (qm - 8) (qc - 8) (bs.drop 8) (by rfl) (HRt.out _ HJ4d.out.bel) (by omega) ?_
                  intro y w5 hGr
                  obtain ⟨ya, yc, hy, _⟩ := hGr.own.shape
                  rw [Hjt.out, hjl] at hy
                  subst hy
                  have a5 := kept_cell hGr.gr (fun e => by have := HOv1.out _ e.symm; omega) (below_at (Below.refl _ _).drew a1)
                  have HGr : Hid (Grew w3.drew w5 w.heap.size gT J' v ts k (.slice ya jl yc) (bs.drop 8)) := hGr
                  refine hK.out _ _ a5 (fun hHeld => ?_)
                  clear hK K hGr
                  have f5 : w5.frozen? ⟨gT, k, none⟩ = false := (HGr.out.keepB HT4d.out hk16).fz k
                  have t5 : w5.cell? ⟨gT, k, none⟩ = some (v k) := (HGr.out.keepB HT4d.out hk16).cell k hk16
                  refine wpAnyH_take (i := 9) (v := .pointer (some ⟨gT, k, none⟩)) rfl (by kernel_rfl) (by kernel_rfl) (by kernel_rfl) (fun _ _ _ h => h) (Or.inl ⟨by rfl, fun w' hS => by go_simp⟩) hHeld ?_
                  simp only [Act.put, List.getElem_toArray, List.getElem_cons_zero, List.getElem_cons_succ, List.setIfInBounds_toArray, List.set_cons_zero, List.set_cons_succ]
                  have HK6 : Hid (Kept w5 (w5.setCell ⟨gT, k, none⟩ (.slice ya jl yc)) (fun q => q = gT)) := kset _ _ _ _ rfl
                  have a6 := kept_cell HK6.out (by omega) a5
                  refine wpAnyH_ready (rs := [10]) (by kernel_rfl) (by simp) ?_
                  refine AllReadyH.cons rfl (fun K hK => ?_) AllReadyH.nil
                  go_simp
                  refine hK.out _ _ a6 (fun hHeld => ?_)
                  clear hK K
                  refine wpAnyH_done (by kernel_rfl) ?_ _
                  clear hHeld
                  have HS6 : Hid (St w (w5.setCell ⟨gT, k, none⟩ (.slice ya jl yc)) w.heap.size jb m gT J' (upd v k (.slice ya jl yc)) (upd ts k (ts k ++ bs.drop 8))) := ⟨HT4d.out.jset (HGr.out.jg HT4d.out HJ4d.out hk16) k _, HGr.out.set HT4d.out HJ4d.out.ok hk16 (by rw [Hjt.out, hjl]; exact hjl4) (hbyb.drop 8), by rw [Hjt.out]; exact HP3.out⟩
                  have HB6 : Hid (Bk (w5.setCell ⟨gT, k, none⟩ (.slice ya jl yc)) g2 (joined (J.ps k) bs)) := ((HB4.out.still (Below.refl _ _).drew).keep HGr.out.gr (fun e => (HOv1.out _ e.symm).2 rfl)).keep HK6.out HB3.out.2.1
                  clear HGr HK6 HT4 HJ4 HT4d HJ4d t3 t5 f5 a1 a5 HRt had q8 q9 HB4
                  generalize w5.setCell ⟨gT, k, none⟩ (.slice ya jl yc) = w6 at *
                  have t6 : w6.cell? ⟨gT, k, none⟩ = some (.slice ya jl yc) := by have := HS6.out.tm.blk.cell k hk16; rw [upd_same] at this; exact this
                  have f6 : w6.frozen? ⟨gT, k, none⟩ = false := HS6.out.tm.blk.fz k
                  have HHd : Hid (∀ w', Below w6.heap.size w6 w' → Calls Tryd.prog 12 #[.pointer (some ⟨jb, 0, none⟩), .int .i64 (k : Int)] w' fun e w2 => e = .returned (.int .i64 0) ∧ w2 = w') := fun w' hb => (show Calls _ _ _ _ _ from by
                    have hh := held_any (HS6.out.jg.still hb).ok (k : Int)
                    rw [HS6.out.jg.b, HS6.out.jg.n, if_pos (by omega), Int.toNat_natCast, Hps.out] at hh
                    refine hh.mono fun e w2 h => ⟨?_, h.2.symm⟩
                    rw [h.1]
                    rfl)
                  have HSm : Hid (∀ w', Below w6.heap.size w6 w' → Calls Tryd.prog 11 #[.slice (some ⟨g2, 0, none⟩) jl jl, .slice ya jl yc] w' fun e w2 => e = .returned (.bool true) ∧ w2 = w') := fun w' hb => (show Calls _ _ _ _ _ from by
                    have h1 : Rd w' (some ⟨g2, 0, none⟩) jl jl (joined (J.ps k) bs) := by have := (HB6.out.still hb).all jl (by omega) Hjb.out; rwa [hjl] at this
                    have h2 : Rd w' ya jl yc (joined (J.ps k) bs) := by
                      have h3 := ((HS6.out.tm.still hb).own k hk16)
                      rw [upd_same, upd_same, Hjt.out] at h3
                      exact h3.rd Hjb.out
                    exact (same_any h1 h2).mono fun e w2 h => ⟨h.1, h.2.symm⟩)
                  have HSu : Hid (∀ w', Below w6.heap.size w6 w' → Calls Tryd.prog 13 #[.slice (some ⟨g2, 0, none⟩) jl jl] w' fun e w2 => e = .returned (.int .i64 (sm bs : Int)) ∧ w2 = w') := fun w' hb => (show Calls _ _ _ _ _ from by
                    have h1 : Rd w' (some ⟨g2, 0, none⟩) jl jl (joined (J.ps k) bs) := by have := (HB6.out.still hb).all jl (by omega) Hjb.out; rwa [hjl] at this
                    have h2 := sum_any h1 (by omega) (HT.out.low (HS6.out.jg.still hb).bel h0B)
                    rw [show ((crc (joined (J.ps k) bs) : Nat) : Int) = (sm bs : Int) by rw [hcr]] at h2
                    exact h2.mono fun e w2 h => ⟨h.1, h.2.symm⟩)
                  have HrX : Hid (Rd w6 (some ⟨cb, co, none⟩) qm qc bs) := Hrw.out.still HS6.out.jg.bel
                  obtain ⟨_, _, hq1, hcc⟩ := HrX.out.at_.elim (fun h => by omega) id
                  cases hq1
                  have c0 := hcc 0 (by omega)
                  obtain ⟨x0, hx0⟩ := Int.eq_ofNat_of_zero_le (hbyb 0).1
                  have y0 : x0 < 256 := by have := (hbyb 0).2; omega
                  have m0 : (x0 : Int) ≤ 255 := by omega
                  have l0 : (0 : Int) ≤ (x0 : Int) := Int.natCast_nonneg _
                  rw [hx0] at c0
                  have r0 : (0 : Int) < (qm : Int) := by omega
                  have c1 := hcc 1 (by omega)
                  obtain ⟨x1, hx1⟩ := Int.eq_ofNat_of_zero_le (hbyb 1).1
                  have y1 : x1 < 256 := by have := (hbyb 1).2; omega
                  have m1 : (x1 : Int) ≤ 255 := by omega
                  have l1 : (0 : Int) ≤ (x1 : Int) := Int.natCast_nonneg _
                  rw [hx1] at c1
                  have r1 : (1 : Int) < (qm : Int) := by omega
                  have c4 := hcc 4 (by omega)
                  obtain ⟨x4, hx4⟩ := Int.eq_ofNat_of_zero_le (hbyb 4).1
                  have y4 : x4 < 256 := by have := (hbyb 4).2; omega
                  have m4 : (x4 : Int) ≤ 255 := by omega
                  have l4 : (0 : Int) ≤ (x4 : Int) := Int.natCast_nonneg _
                  rw [hx4] at c4
                  have r4 : (4 : Int) < (qm : Int) := by omega
                  have c5 := hcc 5 (by omega)
                  obtain ⟨x5, hx5⟩ := Int.eq_ofNat_of_zero_le (hbyb 5).1
                  have y5 : x5 < 256 := by have := (hbyb 5).2; omega
                  have m5 : (x5 : Int) ≤ 255 := by omega
                  have l5 : (0 : Int) ≤ (x5 : Int) := Int.natCast_nonneg _
                  rw [hx5] at c5
                  have r5 : (5 : Int) < (qm : Int) := by omega
                  have c6 := hcc 6 (by omega)
                  obtain ⟨x6, hx6⟩ := Int.eq_ofNat_of_zero_le (hbyb 6).1
                  have y6 : x6 < 256 := by have := (hbyb 6).2; omega
                  have m6 : (x6 : Int) ≤ 255 := by omega
                  have l6 : (0 : Int) ≤ (x6 : Int) := Int.natCast_nonneg _
                  rw [hx6] at c6
                  have r6 : (6 : Int) < (qm : Int) := by omega
                  have c7 := hcc 7 (by omega)
                  obtain ⟨x7, hx7⟩ := Int.eq_ofNat_of_zero_le (hbyb 7).1
                  have y7 : x7 < 256 := by have := (hbyb 7).2; omega
                  have m7 : (x7 : Int) ≤ 255 := by omega
                  have l7 : (0 : Int) ≤ (x7 : Int) := Int.natCast_nonneg _
                  rw [hx7] at c7
                  have r7 : (7 : Int) < (qm : Int) := by omega
                  rw [Nat.add_zero] at c0
                  have r0n : 0 < qm := by omega
                  have r0z : ¬ qm = 0 := by omega
                  have hsz := sz_nat h8b
                  rw [hx0, hx1, Int.toNat_natCast, Int.toNat_natCast] at hsz
                  have hsm := sm_nat h8b
                  rw [hx4, hx5, hx6, hx7, Int.toNat_natCast, Int.toNat_natCast, Int.toNat_natCast, Int.toNat_natCast] at hsm
                  have oz : bits .or .i64 ((x0 : Int) * 256) (x1 : Int) = (jl : Int) := by rw [or_sz x0 x1 y0 y1]; omega
                  obtain ⟨s1, hs1'⟩ : ∃ s1 : Nat, s1 = x4 * 16777216 + x5 * 65536 := ⟨_, rfl⟩
                  obtain ⟨s2, hs2'⟩ : ∃ s2 : Nat, s2 = s1 + x6 * 256 := ⟨_, rfl⟩
                  have o1 : bits .or .i64 ((x4 : Int) * 16777216) ((x5 : Int) * 65536) = (s1 : Int) := by rw [or_24 x4 x5 y4 y5, hs1']
                  have o2 : bits .or .i64 (s1 : Int) ((x6 : Int) * 256) = (s2 : Int) := by rw [or_16 s1 x6 (by omega) (by omega) y6, hs2']
                  have o3 : bits .or .i64 (s2 : Int) (x7 : Int) = (sm bs : Int) := by rw [or_8 s2 x7 (by omega) (by omega) y7]; omega
                  clear hcc hx0 hx1 hx4 hx5 hx6 hx7 hsz hsm hs1' hs2' hcr hjs HB6 HB3 Hjt Hts HP3 y0 y1 y4 y5 y6 y7
                  generalize (sm bs : Int) = sI at *
                  go_wp2_with fail
                  go_quiet (fail)
                  go_wp2_with fail
                  refine wp_region_held_drew (S := (fun w' => w'.cell? ⟨cb, co, none⟩ = some (.int .u8 (x0 : Int)) ∧ w'.cell? ⟨cb, co + 1, none⟩ = some (.int .u8 (x1 : Int)) ∧ w'.cell? ⟨gO, 1, none⟩ = some (.int .i64 (k : Int)) ∧ w'.cell? ⟨gT, k, none⟩ = some (.slice ya jl yc) ∧ Below w6.heap.size w6 w')) (by kernel_rfl) ⟨below_at (Below.drew (below_drewN (Below.refl _ _) _)) c0, below_at (Below.drew (below_drewN (Below.refl _ _) _)) c1, below_at (Below.drew (below_drewN (Below.refl _ _) _)) a6, below_at (Below.drew (below_drewN (Below.refl _ _) _)) t6, (Below.drew (below_drewN (Below.refl _ _) _))⟩ (fun hHeld => ?_)
                  simp only [Act.put, List.size_toArray, List.length_cons, List.length_nil, Nat.zero_add]
                  refine wpAnyH_take (i := 0) (v := .slice (some ⟨g2, 0, none⟩) jl jl) rfl (by kernel_rfl) (by kernel_rfl) (by kernel_rfl) (fun _ _ _ h => h) (Or.inl ⟨by rfl, fun w' hS => by go_simp⟩) hHeld ?_
                  simp only [Act.put, List.getElem_toArray, List.getElem_cons_zero, List.getElem_cons_succ, List.setIfInBounds_toArray, List.set_cons_zero, List.set_cons_succ]
                  refine wpAnyH_take (i := 1) (v := .int .i64 (jl : Int)) rfl (by kernel_rfl) (by kernel_rfl) (by kernel_rfl) (fun _ _ _ h => h) (Or.inl ⟨by rfl, fun w' hS => by go_simp⟩) hHeld ?_
                  simp only [Act.put, List.getElem_toArray, List.getElem_cons_zero, List.getElem_cons_succ, List.setIfInBounds_toArray, List.set_cons_zero, List.set_cons_succ]
                  refine wpAnyH_take (i := 2) (v := .slice (some ⟨cb, co, none⟩) qm qc) rfl (by kernel_rfl) (by kernel_rfl) (by kernel_rfl) (fun _ _ _ h => h) (Or.inl ⟨by rfl, fun w' hS => by go_simp⟩) hHeld ?_
                  simp only [Act.put, List.getElem_toArray, List.getElem_cons_zero, List.getElem_cons_succ, List.setIfInBounds_toArray, List.set_cons_zero, List.set_cons_succ]
                  refine wpAnyH_take (i := 3) (v := .pointer (some ⟨cb, co, none⟩)) rfl (by kernel_rfl) (by kernel_rfl) (by kernel_rfl) (fun _ _ _ h => h) (Or.inl ⟨by rfl, fun w' hS => by go_simp⟩) hHeld ?_
                  simp only [Act.put, List.getElem_toArray, List.getElem_cons_zero, List.getElem_cons_succ, List.setIfInBounds_toArray, List.set_cons_zero, List.set_cons_succ]
                  refine wpAnyH_take (i := 4) (v := .int .u8 (x0 : Int)) rfl (by kernel_rfl) (by kernel_rfl) (by kernel_rfl) (fun _ _ _ h => h) (Or.inl ⟨by rfl, fun w' hS => by (obtain ⟨s0, s1, s2, s3, s4⟩ := hS; go_simp)⟩) hHeld ?_
                  simp only [Act.put, List.getElem_toArray, List.getElem_cons_zero, List.getElem_cons_succ, List.setIfInBounds_toArray, List.set_cons_zero, List.set_cons_succ]
                  refine wpAnyH_take (i := 5) (v := .int .i64 (x0 : Int)) rfl (by kernel_rfl) (by kernel_rfl) (by kernel_rfl) (fun _ _ _ h => h) (Or.inl ⟨by rfl, fun w' hS => by (go_simp; exact wrap_id (by omega) (by omega))⟩) hHeld ?_
                  simp only [Act.put, List.getElem_toArray, List.getElem_cons_zero, List.getElem_cons_succ, List.setIfInBounds_toArray, List.set_cons_zero, List.set_cons_succ]
                  refine wpAnyH_take (i := 6) (v := .int .i64 ((x0 : Int) * 256)) rfl (by kernel_rfl) (by kernel_rfl) (by kernel_rfl) (fun _ _ _ h => h) (Or.inl ⟨by rfl, fun w' hS => by (go_simp; exact wrap_id (by omega) (by omega))⟩) hHeld ?_
                  simp only [Act.put, List.getElem_toArray, List.getElem_cons_zero, List.getElem_cons_succ, List.setIfInBounds_toArray, List.set_cons_zero, List.set_cons_succ]
                  refine wpAnyH_take (i := 7) (v := .slice (some ⟨cb, co, none⟩) qm qc) rfl (by kernel_rfl) (by kernel_rfl) (by kernel_rfl) (fun _ _ _ h => h) (Or.inl ⟨by rfl, fun w' hS => by go_simp⟩) hHeld ?_
                  simp only [Act.put, List.getElem_toArray, List.getElem_cons_zero, List.getElem_cons_succ, List.setIfInBounds_toArray, List.set_cons_zero, List.set_cons_succ]
                  refine wpAnyH_take (i := 8) (v := .pointer (some ⟨cb, co + 1, none⟩)) rfl (by kernel_rfl) (by kernel_rfl) (by kernel_rfl) (fun _ _ _ h => h) (Or.inl ⟨by rfl, fun w' hS => by go_simp⟩) hHeld ?_
                  simp only [Act.put, List.getElem_toArray, List.getElem_cons_zero, List.getElem_cons_succ, List.setIfInBounds_toArray, List.set_cons_zero, List.set_cons_succ]
                  refine wpAnyH_take (i := 9) (v := .int .u8 (x1 : Int)) rfl (by kernel_rfl) (by kernel_rfl) (by kernel_rfl) (fun _ _ _ h => h) (Or.inl ⟨by rfl, fun w' hS => by (obtain ⟨s0, s1, s2, s3, s4⟩ := hS; go_simp)⟩) hHeld ?_
                  simp only [Act.put, List.getElem_toArray, List.getElem_cons_zero, List.getElem_cons_succ, List.setIfInBounds_toArray, List.set_cons_zero, List.set_cons_succ]
                  refine wpAnyH_take (i := 10) (v := .int .i64 (x1 : Int)) rfl (by kernel_rfl) (by kernel_rfl) (by kernel_rfl) (fun _ _ _ h => h) (Or.inl ⟨by rfl, fun w' hS => by (go_simp; exact wrap_id (by omega) (by omega))⟩) hHeld ?_
                  simp only [Act.put, List.getElem_toArray, List.getElem_cons_zero, List.getElem_cons_succ, List.setIfInBounds_toArray, List.set_cons_zero, List.set_cons_succ]
                  refine wpAnyH_take (i := 11) (v := .int .i64 (jl : Int)) rfl (by kernel_rfl) (by kernel_rfl) (by kernel_rfl) (fun _ _ _ h => h) (Or.inl ⟨by rfl, fun w' hS => by go_simp⟩) hHeld ?_
                  simp only [Act.put, List.getElem_toArray, List.getElem_cons_zero, List.getElem_cons_succ, List.setIfInBounds_toArray, List.set_cons_zero, List.set_cons_succ]
                  refine wpAnyH_take (i := 12) (v := .bool false) rfl (by kernel_rfl) (by kernel_rfl) (by kernel_rfl) (fun _ _ _ h => h) (Or.inl ⟨by rfl, fun w' hS => by go_simp⟩) hHeld ?_
                  simp only [Act.put, List.getElem_toArray, List.getElem_cons_zero, List.getElem_cons_succ, List.setIfInBounds_toArray, List.set_cons_zero, List.set_cons_succ]
                  refine wpAnyH_take (i := 13) (v := .bool false) rfl (by kernel_rfl) (by kernel_rfl) (by kernel_rfl) (fun _ _ _ h => h) (Or.inl ⟨by rfl, fun w' hS => by go_simp⟩) hHeld ?_
                  simp only [Act.put, List.getElem_toArray, List.getElem_cons_zero, List.getElem_cons_succ, List.setIfInBounds_toArray, List.set_cons_zero, List.set_cons_succ]
                  refine wpAnyH_take (i := 14) (v := .slice (some ⟨g2, 0, none⟩) jl jl) rfl (by kernel_rfl) (by kernel_rfl) (by kernel_rfl) (fun _ _ _ h => h) (Or.inl ⟨by rfl, fun w' hS => by go_simp⟩) hHeld ?_
                  simp only [Act.put, List.getElem_toArray, List.getElem_cons_zero, List.getElem_cons_succ, List.setIfInBounds_toArray, List.set_cons_zero, List.set_cons_succ]
                  refine wpAnyH_take (i := 16) (v := .int .i64 sI) rfl (by kernel_rfl) (by kernel_rfl) (by kernel_rfl) (fun _ _ _ h => h) (Or.inl ⟨by rfl, fun w' hS => by go_simp⟩) hHeld ?_
                  simp only [Act.put, List.getElem_toArray, List.getElem_cons_zero, List.getElem_cons_succ, List.setIfInBounds_toArray, List.set_cons_zero, List.set_cons_succ]
                  refine wpAnyH_ready (rs := [15]) (by kernel_rfl) (by simp) ?_
                  refine AllReadyH.cons rfl (fun K hK => ?_) AllReadyH.nil
                  go_simp
                  refine (HSu.out _ hHeld.2.2.2.2).mono ?_
                  rintro e w7 ⟨rfl, rfl⟩
                  refine hK.out _ _ hHeld (fun hHeld => ?_)
                  clear hK K
                  refine wpAnyH_take (i := 17) (v := .bool false) rfl (by kernel_rfl) (by kernel_rfl) (by kernel_rfl) (fun _ _ _ h => h) (Or.inl ⟨by rfl, fun w' hS => by go_simp⟩) hHeld ?_
                  simp only [Act.put, List.getElem_toArray, List.getElem_cons_zero, List.getElem_cons_succ, List.setIfInBounds_toArray, List.set_cons_zero, List.set_cons_succ]
                  refine wpAnyH_take (i := 18) (v := .bool false) rfl (by kernel_rfl) (by kernel_rfl) (by kernel_rfl) (fun _ _ _ h => h) (Or.inl ⟨by rfl, fun w' hS => by go_simp⟩) hHeld ?_
                  simp only [Act.put, List.getElem_toArray, List.getElem_cons_zero, List.getElem_cons_succ, List.setIfInBounds_toArray, List.set_cons_zero, List.set_cons_succ]
                  refine wpAnyH_take (i := 19) (v := .bool false) rfl (by kernel_rfl) (by kernel_rfl) (by kernel_rfl) (fun _ _ _ h => h) (Or.inl ⟨by rfl, fun w' hS => by go_simp⟩) hHeld ?_
                  simp only [Act.put, List.getElem_toArray, List.getElem_cons_zero, List.getElem_cons_succ, List.setIfInBounds_toArray, List.set_cons_zero, List.set_cons_succ]
                  refine wpAnyH_take (i := 20) (v := .slice (some ⟨g2, 0, none⟩) jl jl) rfl (by kernel_rfl) (by kernel_rfl) (by kernel_rfl) (fun _ _ _ h => h) (Or.inl ⟨by rfl, fun w' hS => by go_simp⟩) hHeld ?_
                  simp only [Act.put, List.getElem_toArray, List.getElem_cons_zero, List.getElem_cons_succ, List.setIfInBounds_toArray, List.set_cons_zero, List.set_cons_succ]
                  refine wpAnyH_take (i := 21) (v := .pointer (some ⟨gO, 1, none⟩)) rfl (by kernel_rfl) (by kernel_rfl) (by kernel_rfl) (fun _ _ _ h => h) (Or.inl ⟨by rfl, fun w' hS => by go_simp⟩) hHeld ?_
                  simp only [Act.put, List.getElem_toArray, List.getElem_cons_zero, List.getElem_cons_succ, List.setIfInBounds_toArray, List.set_cons_zero, List.set_cons_succ]
                  refine wpAnyH_take (i := 22) (v := .int .i64 (k : Int)) rfl (by kernel_rfl) (by kernel_rfl) (by kernel_rfl) (fun _ _ _ h => h) (Or.inl ⟨by rfl, fun w' hS => by (obtain ⟨s0, s1, s2, s3, s4⟩ := hS; go_simp)⟩) hHeld ?_
                  simp only [Act.put, List.getElem_toArray, List.getElem_cons_zero, List.getElem_cons_succ, List.setIfInBounds_toArray, List.set_cons_zero, List.set_cons_succ]
                  refine wpAnyH_take (i := 23) (v := .pointer (some ⟨gT, k, none⟩)) rfl (by kernel_rfl) (by kernel_rfl) (by kernel_rfl) (fun _ _ _ h => h) (Or.inl ⟨by rfl, fun w' hS => by go_simp⟩) hHeld ?_
                  simp only [Act.put, List.getElem_toArray, List.getElem_cons_zero, List.getElem_cons_succ, List.setIfInBounds_toArray, List.set_cons_zero, List.set_cons_succ]
                  refine wpAnyH_take (i := 24) (v := .slice ya jl yc) rfl (by kernel_rfl) (by kernel_rfl) (by kernel_rfl) (fun _ _ _ h => h) (Or.inl ⟨by rfl, fun w' hS => by (obtain ⟨s0, s1, s2, s3, s4⟩ := hS; go_simp)⟩) hHeld ?_
                  simp only [Act.put, List.getElem_toArray, List.getElem_cons_zero, List.getElem_cons_succ, List.setIfInBounds_toArray, List.set_cons_zero, List.set_cons_succ]
                  refine wpAnyH_ready (rs := [25]) (by kernel_rfl) (by simp) ?_
                  refine AllReadyH.cons rfl (fun K hK => ?_) AllReadyH.nil
                  go_simp
                  refine (HSm.out _ hHeld.2.2.2.2).mono ?_
                  rintro e w8 ⟨rfl, rfl⟩
                  refine hK.out _ _ hHeld (fun hHeld => ?_)
                  clear hK K
                  refine wpAnyH_take (i := 26) (v := .bool false) rfl (by kernel_rfl) (by kernel_rfl) (by kernel_rfl) (fun _ _ _ h => h) (Or.inl ⟨by rfl, fun w' hS => by go_simp⟩) hHeld ?_
                  simp only [Act.put, List.getElem_toArray, List.getElem_cons_zero, List.getElem_cons_succ, List.setIfInBounds_toArray, List.set_cons_zero, List.set_cons_succ]
                  refine wpAnyH_take (i := 27) (v := .bool false) rfl (by kernel_rfl) (by kernel_rfl) (by kernel_rfl) (fun _ _ _ h => h) (Or.inl ⟨by rfl, fun w' hS => by go_simp⟩) hHeld ?_
                  simp only [Act.put, List.getElem_toArray, List.getElem_cons_zero, List.getElem_cons_succ, List.setIfInBounds_toArray, List.set_cons_zero, List.set_cons_succ]
                  refine wpAnyH_take (i := 28) (v := .bool false) rfl (by kernel_rfl) (by kernel_rfl) (by kernel_rfl) (fun _ _ _ h => h) (Or.inl ⟨by rfl, fun w' hS => by go_simp⟩) hHeld ?_
                  simp only [Act.put, List.getElem_toArray, List.getElem_cons_zero, List.getElem_cons_succ, List.setIfInBounds_toArray, List.set_cons_zero, List.set_cons_succ]
                  refine wpAnyH_take (i := 29) (v := .pointer (some ⟨jb, 0, none⟩)) rfl (by kernel_rfl) (by kernel_rfl) (by kernel_rfl) (fun _ _ _ h => h) (Or.inl ⟨by rfl, fun w' hS => by go_simp⟩) hHeld ?_
                  simp only [Act.put, List.getElem_toArray, List.getElem_cons_zero, List.getElem_cons_succ, List.setIfInBounds_toArray, List.set_cons_zero, List.set_cons_succ]
                  refine wpAnyH_take (i := 30) (v := .pointer (some ⟨gO, 1, none⟩)) rfl (by kernel_rfl) (by kernel_rfl) (by kernel_rfl) (fun _ _ _ h => h) (Or.inl ⟨by rfl, fun w' hS => by go_simp⟩) hHeld ?_
                  simp only [Act.put, List.getElem_toArray, List.getElem_cons_zero, List.getElem_cons_succ, List.setIfInBounds_toArray, List.set_cons_zero, List.set_cons_succ]
                  refine wpAnyH_take (i := 31) (v := .int .i64 (k : Int)) rfl (by kernel_rfl) (by kernel_rfl) (by kernel_rfl) (fun _ _ _ h => h) (Or.inl ⟨by rfl, fun w' hS => by (obtain ⟨s0, s1, s2, s3, s4⟩ := hS; go_simp)⟩) hHeld ?_
                  simp only [Act.put, List.getElem_toArray, List.getElem_cons_zero, List.getElem_cons_succ, List.setIfInBounds_toArray, List.set_cons_zero, List.set_cons_succ]
                  refine wpAnyH_ready (rs := [32]) (by kernel_rfl) (by simp) ?_
                  refine AllReadyH.cons rfl (fun K hK => ?_) AllReadyH.nil
                  go_simp
                  refine (HHd.out _ hHeld.2.2.2.2).mono ?_
                  rintro e w9 ⟨rfl, rfl⟩
                  refine hK.out _ _ hHeld (fun hHeld => ?_)
                  clear hK K
                  refine wpAnyH_take (i := 33) (v := .bool false) rfl (by kernel_rfl) (by kernel_rfl) (by kernel_rfl) (fun _ _ _ h => h) (Or.inl ⟨by rfl, fun w' hS => by go_simp⟩) hHeld ?_
                  simp only [Act.put, List.getElem_toArray, List.getElem_cons_zero, List.getElem_cons_succ, List.setIfInBounds_toArray, List.set_cons_zero, List.set_cons_succ]
                  refine wpAnyH_take (i := 34) (v := .bool false) rfl (by kernel_rfl) (by kernel_rfl) (by kernel_rfl) (fun _ _ _ h => h) (Or.inl ⟨by rfl, fun w' hS => by go_simp⟩) hHeld ?_
                  simp only [Act.put, List.getElem_toArray, List.getElem_cons_zero, List.getElem_cons_succ, List.setIfInBounds_toArray, List.set_cons_zero, List.set_cons_succ]
                  refine wpAnyH_done (by kernel_rfl) ?_ _
                  clear hHeld
                  go_wp2
                  go_roundw
                  case rel => exact ⟨i + 1, J', _, _, by omega, by go_num, (HS6.out.still (by repeat (first | exact Below.refl _ _ | apply below_drewN | apply Below.drew))).nil hk16 (.inl Hps.out)⟩
                  case measure => simp [intOf]; omega
            · as_aux_lemma =>
                have Hjt : Hid (ts k ++ bs.drop 8 = joined (J.ps k) bs) := (show _ = _ from by rw [Hj.out, if_neg (fun e => d2 (hpl.1 e).1)])
                have e2 : (bs.getD 2 0 == 0) = false := by rw [beq_eq_false_iff_ne]; exact d2
                clear d2 hpl Hj
                generalize bs.getD 2 0 = b2 at *
                have Hts : Hid True := trivial
                have HOv1 : Hid (∀ q, (v k).ownBlock = some q → q < gO ∧ q ≠ g2) := fun q hq => ⟨HOv.out k q hk16 hq, HB3.out.2.2 q hq⟩
                have HT4 : Hid (Tm w3 w.heap.size gT J' v ts) := HT3
                have HJ4 : Hid (Jg w w3 w.heap.size jb m J') := HJ3
                have HB4 : Hid (Bk w3 g2 (joined (J.ps k) bs)) := HB3.out.1
                go_wp2_with fail
                have a1 := z1
                clear z1 z2 z3 p1 p2 f0 HT3 HJ3 HrX
                obtain ⟨ad, had⟩ : ∃ ad, (if qc = 8 then some (⟨cb, co, none⟩ : Addr) else some ⟨cb, co + 8, none⟩) = some ad := by by_cases e : qc = 8 <;> simp [e]
                have HRt : Hid (∀ w', Below w.heap.size w w' → Rd w' (some ad) (qm - 8) (qc - 8) (bs.drop 8)) := fun w' hb => by rw [← had]; exact rd_tail (Hrw.out.still hb) h8
                have q8 : (8 : Int) ≤ (qc : Int) := by omega
                have q9 : (8 : Int) ≤ (qm : Int) := by omega
                have t3 : w3.cell? ⟨gT, k, none⟩ = some (v k) := HT4.out.blk.cell k hk16
                have HT4d : Hid (Tm w3.drew w.heap.size gT J' v ts) := HT4.out.still (Below.refl _ _).drew
                have HJ4d : Hid (Jg w w3.drew w.heap.size jb m J') := HJ4.out.still (Below.refl _ _).drew
                refine wp_region_held_drew (S := (fun w' => w'.cell? ⟨gO, 1, none⟩ = some (.int .i64 (k : Int)))) (by kernel_rfl) (below_at (Below.refl _ _).drew a1) (fun hHeld => ?_)
                simp only [Act.put, List.size_toArray, List.length_cons, List.length_nil, Nat.zero_add]
                refine wpAnyH_take (i := 0) (v := .pointer (some ⟨gO, 1, none⟩)) rfl (by kernel_rfl) (by kernel_rfl) (by kernel_rfl) (fun _ _ _ h => h) (Or.inl ⟨by rfl, fun w' hS => by go_simp⟩) hHeld ?_
                simp only [Act.put, List.getElem_toArray, List.getElem_cons_zero, List.getElem_cons_succ, List.setIfInBounds_toArray, List.set_cons_zero, List.set_cons_succ]
                refine wpAnyH_take (i := 1) (v := .int .i64 (k : Int)) rfl (by kernel_rfl) (by kernel_rfl) (by kernel_rfl) (fun _ _ _ h => h) (Or.inl ⟨by rfl, fun w' hS => by go_simp⟩) hHeld ?_
                simp only [Act.put, List.getElem_toArray, List.getElem_cons_zero, List.getElem_cons_succ, List.setIfInBounds_toArray, List.set_cons_zero, List.set_cons_succ]
                refine wpAnyH_take (i := 2) (v := .pointer (some ⟨gO, 1, none⟩)) rfl (by kernel_rfl) (by kernel_rfl) (by kernel_rfl) (fun _ _ _ h => h) (Or.inl ⟨by rfl, fun w' hS => by go_simp⟩) hHeld ?_
                simp only [Act.put, List.getElem_toArray, List.getElem_cons_zero, List.getElem_cons_succ, List.setIfInBounds_toArray, List.set_cons_zero, List.set_cons_succ]
                refine wpAnyH_take (i := 3) (v := .int .i64 (k : Int)) rfl (by kernel_rfl) (by kernel_rfl) (by kernel_rfl) (fun _ _ _ h => h) (Or.inl ⟨by rfl, fun w' hS => by go_simp⟩) hHeld ?_
                simp only [Act.put, List.getElem_toArray, List.getElem_cons_zero, List.getElem_cons_succ, List.setIfInBounds_toArray, List.set_cons_zero, List.set_cons_succ]
                refine wpAnyH_take (i := 4) (v := .pointer (some ⟨gT, k, none⟩)) rfl (by kernel_rfl) (by kernel_rfl) (by kernel_rfl) (fun _ _ _ h => h) (Or.inl ⟨by rfl, fun w' hS => by go_simp⟩) hHeld ?_
                simp only [Act.put, List.getElem_toArray, List.getElem_cons_zero, List.getElem_cons_succ, List.setIfInBounds_toArray, List.set_cons_zero, List.set_cons_succ]
                refine wpAnyH_take (i := 6) (v := .slice (some ⟨cb, co, none⟩) qm qc) rfl (by kernel_rfl) (by kernel_rfl) (by kernel_rfl) (fun _ _ _ h => h) (Or.inl ⟨by rfl, fun w' hS => by go_simp⟩) hHeld ?_
                simp only [Act.put, List.getElem_toArray, List.getElem_cons_zero, List.getElem_cons_succ, List.setIfInBounds_toArray, List.set_cons_zero, List.set_cons_succ]
                refine wpAnyH_take (i := 7) (v := .slice (some ad) (qm - 8) (qc - 8)) rfl (by kernel_rfl) (by kernel_rfl) (by kernel_rfl) (fun _ _ _ h => h) (Or.inl ⟨by rfl, fun w' hS => by go_simp⟩) hHeld ?_
                simp only [Act.put, List.getElem_toArray, List.getElem_cons_zero, List.getElem_cons_succ, List.setIfInBounds_toArray, List.set_cons_zero, List.set_cons_succ]
                refine wpAnyH_ready (rs := [5]) (by kernel_rfl) (by simp) ?_
                refine AllReadyH.cons rfl (fun K hK => ?_) AllReadyH.nil
                go_simp
                refine hK.out _ _ hHeld (fun hHeld => ?_)
                clear hK K
                refine wpAnyH_ready (rs := [8]) (by kernel_rfl) (by simp) ?_
                refine AllReadyH.cons rfl (fun K hK => ?_) AllReadyH.nil
                refine step_append_rd (by rfl) _ _ (by rfl) HT4d.out HJ4d.out.hB hk16 (by rfl) ad (qm - 8) (qc - 8) (bs.drop 8) (by rfl) (HRt.out _ HJ4d.out.bel) (by omega) ?_
                intro y w5 hGr
                obtain ⟨ya, yc, hy, _⟩ := hGr.own.shape
                rw [Hjt.out, hjl] at hy
                subst hy
                have a5 := kept_cell hGr.gr (fun e => by have := HOv1.out _ e.symm; omega) (below_at (Below.refl _ _).drew a1)
                have HGr : Hid (Grew w3.drew w5 w.heap.size gT J' v ts k (.slice ya jl yc) (bs.drop 8)) := hGr
                refine hK.out _ _ a5 (fun hHeld => ?_)
                clear hK K hGr
                have f5 : w5.frozen? ⟨gT, k, none⟩ = false := (HGr.out.keepB HT4d.out hk16).fz k
                have t5 : w5.cell? ⟨gT, k, none⟩ = some (v k) := (HGr.out.keepB HT4d.out hk16).cell k hk16
                refine wpAnyH_take (i := 9) (v := .pointer (some ⟨gT, k, none⟩)) rfl (by kernel_rfl) (by kernel_rfl) (by kernel_rfl) (fun _ _ _ h => h) (Or.inl ⟨by rfl, fun w' hS => by go_simp⟩) hHeld ?_
                simp only [Act.put, List.getElem_toArray, List.getElem_cons_zero, List.getElem_cons_succ, List.setIfInBounds_toArray, List.set_cons_zero, List.set_cons_succ]
                have HK6 : Hid (Kept w5 (w5.setCell ⟨gT, k, none⟩ (.slice ya jl yc)) (fun q => q = gT)) := kset _ _ _ _ rfl
                have a6 := kept_cell HK6.out (by omega) a5
                refine wpAnyH_ready (rs := [10]) (by kernel_rfl) (by simp) ?_
                refine AllReadyH.cons rfl (fun K hK => ?_) AllReadyH.nil
                go_simp
                refine hK.out _ _ a6 (fun hHeld => ?_)
                clear hK K
                refine wpAnyH_done (by kernel_rfl) ?_ _
                clear hHeld
                have HS6 : Hid (St w (w5.setCell ⟨gT, k, none⟩ (.slice ya jl yc)) w.heap.size jb m gT J' (upd v k (.slice ya jl yc)) (upd ts k (ts k ++ bs.drop 8))) := ⟨HT4d.out.jset (HGr.out.jg HT4d.out HJ4d.out hk16) k _, HGr.out.set HT4d.out HJ4d.out.ok hk16 (by rw [Hjt.out, hjl]; exact hjl4) (hbyb.drop 8), by rw [Hjt.out]; exact HP3.out⟩
                have HB6 : Hid (Bk (w5.setCell ⟨gT, k, none⟩ (.slice ya jl yc)) g2 (joined (J.ps k) bs)) := ((HB4.out.still (Below.refl _ _).drew).keep HGr.out.gr (fun e => (HOv1.out _ e.symm).2 rfl)).keep HK6.out HB3.out.2.1
                clear HGr HK6 HT4 HJ4 HT4d HJ4d t3 t5 f5 a1 a5 HRt had q8 q9 HB4
                generalize w5.setCell ⟨gT, k, none⟩ (.slice ya jl yc) = w6 at *
                have t6 : w6.cell? ⟨gT, k, none⟩ = some (.slice ya jl yc) := by have := HS6.out.tm.blk.cell k hk16; rw [upd_same] at this; exact this
                have f6 : w6.frozen? ⟨gT, k, none⟩ = false := HS6.out.tm.blk.fz k
                have HHd : Hid (∀ w', Below w6.heap.size w6 w' → Calls Tryd.prog 12 #[.pointer (some ⟨jb, 0, none⟩), .int .i64 (k : Int)] w' fun e w2 => e = .returned (.int .i64 0) ∧ w2 = w') := fun w' hb => (show Calls _ _ _ _ _ from by
                  have hh := held_any (HS6.out.jg.still hb).ok (k : Int)
                  rw [HS6.out.jg.b, HS6.out.jg.n, if_pos (by omega), Int.toNat_natCast, Hps.out] at hh
                  refine hh.mono fun e w2 h => ⟨?_, h.2.symm⟩
                  rw [h.1]
                  rfl)
                have HSm : Hid (∀ w', Below w6.heap.size w6 w' → Calls Tryd.prog 11 #[.slice (some ⟨g2, 0, none⟩) jl jl, .slice ya jl yc] w' fun e w2 => e = .returned (.bool true) ∧ w2 = w') := fun w' hb => (show Calls _ _ _ _ _ from by
                  have h1 : Rd w' (some ⟨g2, 0, none⟩) jl jl (joined (J.ps k) bs) := by have := (HB6.out.still hb).all jl (by omega) Hjb.out; rwa [hjl] at this
                  have h2 : Rd w' ya jl yc (joined (J.ps k) bs) := by
                    have h3 := ((HS6.out.tm.still hb).own k hk16)
                    rw [upd_same, upd_same, Hjt.out] at h3
                    exact h3.rd Hjb.out
                  exact (same_any h1 h2).mono fun e w2 h => ⟨h.1, h.2.symm⟩)
                have HSu : Hid (∀ w', Below w6.heap.size w6 w' → Calls Tryd.prog 13 #[.slice (some ⟨g2, 0, none⟩) jl jl] w' fun e w2 => e = .returned (.int .i64 (sm bs : Int)) ∧ w2 = w') := fun w' hb => (show Calls _ _ _ _ _ from by
                  have h1 : Rd w' (some ⟨g2, 0, none⟩) jl jl (joined (J.ps k) bs) := by have := (HB6.out.still hb).all jl (by omega) Hjb.out; rwa [hjl] at this
                  have h2 := sum_any h1 (by omega) (HT.out.low (HS6.out.jg.still hb).bel h0B)
                  rw [show ((crc (joined (J.ps k) bs) : Nat) : Int) = (sm bs : Int) by rw [hcr]] at h2
                  exact h2.mono fun e w2 h => ⟨h.1, h.2.symm⟩)
                have HrX : Hid (Rd w6 (some ⟨cb, co, none⟩) qm qc bs) := Hrw.out.still HS6.out.jg.bel
                obtain ⟨_, _, hq1, hcc⟩ := HrX.out.at_.elim (fun h => by omega) id
                cases hq1
                have c0 := hcc 0 (by omega)
                obtain ⟨x0, hx0⟩ := Int.eq_ofNat_of_zero_le (hbyb 0).1
                have y0 : x0 < 256 := by have := (hbyb 0).2; omega
                have m0 : (x0 : Int) ≤ 255 := by omega
                have l0 : (0 : Int) ≤ (x0 : Int) := Int.natCast_nonneg _
                rw [hx0] at c0
                have r0 : (0 : Int) < (qm : Int) := by omega
                have c1 := hcc 1 (by omega)
                obtain ⟨x1, hx1⟩ := Int.eq_ofNat_of_zero_le (hbyb 1).1
                have y1 : x1 < 256 := by have := (hbyb 1).2; omega
                have m1 : (x1 : Int) ≤ 255 := by omega
                have l1 : (0 : Int) ≤ (x1 : Int) := Int.natCast_nonneg _
                rw [hx1] at c1
                have r1 : (1 : Int) < (qm : Int) := by omega
                have c4 := hcc 4 (by omega)
                obtain ⟨x4, hx4⟩ := Int.eq_ofNat_of_zero_le (hbyb 4).1
                have y4 : x4 < 256 := by have := (hbyb 4).2; omega
                have m4 : (x4 : Int) ≤ 255 := by omega
                have l4 : (0 : Int) ≤ (x4 : Int) := Int.natCast_nonneg _
                rw [hx4] at c4
                have r4 : (4 : Int) < (qm : Int) := by omega
                have c5 := hcc 5 (by omega)
                obtain ⟨x5, hx5⟩ := Int.eq_ofNat_of_zero_le (hbyb 5).1
                have y5 : x5 < 256 := by have := (hbyb 5).2; omega
                have m5 : (x5 : Int) ≤ 255 := by omega
                have l5 : (0 : Int) ≤ (x5 : Int) := Int.natCast_nonneg _
                rw [hx5] at c5
                have r5 : (5 : Int) < (qm : Int) := by omega
                have c6 := hcc 6 (by omega)
                obtain ⟨x6, hx6⟩ := Int.eq_ofNat_of_zero_le (hbyb 6).1
                have y6 : x6 < 256 := by have := (hbyb 6).2; omega
                have m6 : (x6 : Int) ≤ 255 := by omega
                have l6 : (0 : Int) ≤ (x6 : Int) := Int.natCast_nonneg _
                rw [hx6] at c6
                have r6 : (6 : Int) < (qm : Int) := by omega
                have c7 := hcc 7 (by omega)
                obtain ⟨x7, hx7⟩ := Int.eq_ofNat_of_zero_le (hbyb 7).1
                have y7 : x7 < 256 := by have := (hbyb 7).2; omega
                have m7 : (x7 : Int) ≤ 255 := by omega
                have l7 : (0 : Int) ≤ (x7 : Int) := Int.natCast_nonneg _
                rw [hx7] at c7
                have r7 : (7 : Int) < (qm : Int) := by omega
                rw [Nat.add_zero] at c0
                have r0n : 0 < qm := by omega
                have r0z : ¬ qm = 0 := by omega
                have hsz := sz_nat h8b
                rw [hx0, hx1, Int.toNat_natCast, Int.toNat_natCast] at hsz
                have hsm := sm_nat h8b
                rw [hx4, hx5, hx6, hx7, Int.toNat_natCast, Int.toNat_natCast, Int.toNat_natCast, Int.toNat_natCast] at hsm
                have oz : bits .or .i64 ((x0 : Int) * 256) (x1 : Int) = (jl : Int) := by rw [or_sz x0 x1 y0 y1]; omega
                obtain ⟨s1, hs1'⟩ : ∃ s1 : Nat, s1 = x4 * 16777216 + x5 * 65536 := ⟨_, rfl⟩
                obtain ⟨s2, hs2'⟩ : ∃ s2 : Nat, s2 = s1 + x6 * 256 := ⟨_, rfl⟩
                have o1 : bits .or .i64 ((x4 : Int) * 16777216) ((x5 : Int) * 65536) = (s1 : Int) := by rw [or_24 x4 x5 y4 y5, hs1']
                have o2 : bits .or .i64 (s1 : Int) ((x6 : Int) * 256) = (s2 : Int) := by rw [or_16 s1 x6 (by omega) (by omega) y6, hs2']
                have o3 : bits .or .i64 (s2 : Int) (x7 : Int) = (sm bs : Int) := by rw [or_8 s2 x7 (by omega) (by omega) y7]; omega
                clear hcc hx0 hx1 hx4 hx5 hx6 hx7 hsz hsm hs1' hs2' hcr hjs HB6 HB3 Hjt Hts HP3 y0 y1 y4 y5 y6 y7
                generalize (sm bs : Int) = sI at *
                go_wp2_with fail
                go_quiet (fail)
                go_wp2_with fail
                refine wp_region_held_drew (S := (fun w' => w'.cell? ⟨cb, co, none⟩ = some (.int .u8 (x0 : Int)) ∧ w'.cell? ⟨cb, co + 1, none⟩ = some (.int .u8 (x1 : Int)) ∧ w'.cell? ⟨gO, 1, none⟩ = some (.int .i64 (k : Int)) ∧ w'.cell? ⟨gT, k, none⟩ = some (.slice ya jl yc) ∧ Below w6.heap.size w6 w')) (by kernel_rfl) ⟨below_at (Below.drew (below_drewN (Below.refl _ _) _)) c0, below_at (Below.drew (below_drewN (Below.refl _ _) _)) c1, below_at (Below.drew (below_drewN (Below.refl _ _) _)) a6, below_at (Below.drew (below_drewN (Below.refl _ _) _)) t6, (Below.drew (below_drewN (Below.refl _ _) _))⟩ (fun hHeld => ?_)
                simp only [Act.put, List.size_toArray, List.length_cons, List.length_nil, Nat.zero_add]
                refine wpAnyH_take (i := 0) (v := .slice (some ⟨g2, 0, none⟩) jl jl) rfl (by kernel_rfl) (by kernel_rfl) (by kernel_rfl) (fun _ _ _ h => h) (Or.inl ⟨by rfl, fun w' hS => by go_simp⟩) hHeld ?_
                simp only [Act.put, List.getElem_toArray, List.getElem_cons_zero, List.getElem_cons_succ, List.setIfInBounds_toArray, List.set_cons_zero, List.set_cons_succ]
                refine wpAnyH_take (i := 1) (v := .int .i64 (jl : Int)) rfl (by kernel_rfl) (by kernel_rfl) (by kernel_rfl) (fun _ _ _ h => h) (Or.inl ⟨by rfl, fun w' hS => by go_simp⟩) hHeld ?_
                simp only [Act.put, List.getElem_toArray, List.getElem_cons_zero, List.getElem_cons_succ, List.setIfInBounds_toArray, List.set_cons_zero, List.set_cons_succ]
                refine wpAnyH_take (i := 2) (v := .slice (some ⟨cb, co, none⟩) qm qc) rfl (by kernel_rfl) (by kernel_rfl) (by kernel_rfl) (fun _ _ _ h => h) (Or.inl ⟨by rfl, fun w' hS => by go_simp⟩) hHeld ?_
                simp only [Act.put, List.getElem_toArray, List.getElem_cons_zero, List.getElem_cons_succ, List.setIfInBounds_toArray, List.set_cons_zero, List.set_cons_succ]
                refine wpAnyH_take (i := 3) (v := .pointer (some ⟨cb, co, none⟩)) rfl (by kernel_rfl) (by kernel_rfl) (by kernel_rfl) (fun _ _ _ h => h) (Or.inl ⟨by rfl, fun w' hS => by go_simp⟩) hHeld ?_
                simp only [Act.put, List.getElem_toArray, List.getElem_cons_zero, List.getElem_cons_succ, List.setIfInBounds_toArray, List.set_cons_zero, List.set_cons_succ]
                refine wpAnyH_take (i := 4) (v := .int .u8 (x0 : Int)) rfl (by kernel_rfl) (by kernel_rfl) (by kernel_rfl) (fun _ _ _ h => h) (Or.inl ⟨by rfl, fun w' hS => by (obtain ⟨s0, s1, s2, s3, s4⟩ := hS; go_simp)⟩) hHeld ?_
                simp only [Act.put, List.getElem_toArray, List.getElem_cons_zero, List.getElem_cons_succ, List.setIfInBounds_toArray, List.set_cons_zero, List.set_cons_succ]
                refine wpAnyH_take (i := 5) (v := .int .i64 (x0 : Int)) rfl (by kernel_rfl) (by kernel_rfl) (by kernel_rfl) (fun _ _ _ h => h) (Or.inl ⟨by rfl, fun w' hS => by (go_simp; exact wrap_id (by omega) (by omega))⟩) hHeld ?_
                simp only [Act.put, List.getElem_toArray, List.getElem_cons_zero, List.getElem_cons_succ, List.setIfInBounds_toArray, List.set_cons_zero, List.set_cons_succ]
                refine wpAnyH_take (i := 6) (v := .int .i64 ((x0 : Int) * 256)) rfl (by kernel_rfl) (by kernel_rfl) (by kernel_rfl) (fun _ _ _ h => h) (Or.inl ⟨by rfl, fun w' hS => by (go_simp; exact wrap_id (by omega) (by omega))⟩) hHeld ?_
                simp only [Act.put, List.getElem_toArray, List.getElem_cons_zero, List.getElem_cons_succ, List.setIfInBounds_toArray, List.set_cons_zero, List.set_cons_succ]
                refine wpAnyH_take (i := 7) (v := .slice (some ⟨cb, co, none⟩) qm qc) rfl (by kernel_rfl) (by kernel_rfl) (by kernel_rfl) (fun _ _ _ h => h) (Or.inl ⟨by rfl, fun w' hS => by go_simp⟩) hHeld ?_
                simp only [Act.put, List.getElem_toArray, List.getElem_cons_zero, List.getElem_cons_succ, List.setIfInBounds_toArray, List.set_cons_zero, List.set_cons_succ]
                refine wpAnyH_take (i := 8) (v := .pointer (some ⟨cb, co + 1, none⟩)) rfl (by kernel_rfl) (by kernel_rfl) (by kernel_rfl) (fun _ _ _ h => h) (Or.inl ⟨by rfl, fun w' hS => by go_simp⟩) hHeld ?_
                simp only [Act.put, List.getElem_toArray, List.getElem_cons_zero, List.getElem_cons_succ, List.setIfInBounds_toArray, List.set_cons_zero, List.set_cons_succ]
                refine wpAnyH_take (i := 9) (v := .int .u8 (x1 : Int)) rfl (by kernel_rfl) (by kernel_rfl) (by kernel_rfl) (fun _ _ _ h => h) (Or.inl ⟨by rfl, fun w' hS => by (obtain ⟨s0, s1, s2, s3, s4⟩ := hS; go_simp)⟩) hHeld ?_
                simp only [Act.put, List.getElem_toArray, List.getElem_cons_zero, List.getElem_cons_succ, List.setIfInBounds_toArray, List.set_cons_zero, List.set_cons_succ]
                refine wpAnyH_take (i := 10) (v := .int .i64 (x1 : Int)) rfl (by kernel_rfl) (by kernel_rfl) (by kernel_rfl) (fun _ _ _ h => h) (Or.inl ⟨by rfl, fun w' hS => by (go_simp; exact wrap_id (by omega) (by omega))⟩) hHeld ?_
                simp only [Act.put, List.getElem_toArray, List.getElem_cons_zero, List.getElem_cons_succ, List.setIfInBounds_toArray, List.set_cons_zero, List.set_cons_succ]
                refine wpAnyH_take (i := 11) (v := .int .i64 (jl : Int)) rfl (by kernel_rfl) (by kernel_rfl) (by kernel_rfl) (fun _ _ _ h => h) (Or.inl ⟨by rfl, fun w' hS => by go_simp⟩) hHeld ?_
                simp only [Act.put, List.getElem_toArray, List.getElem_cons_zero, List.getElem_cons_succ, List.setIfInBounds_toArray, List.set_cons_zero, List.set_cons_succ]
                refine wpAnyH_take (i := 12) (v := .bool false) rfl (by kernel_rfl) (by kernel_rfl) (by kernel_rfl) (fun _ _ _ h => h) (Or.inl ⟨by rfl, fun w' hS => by go_simp⟩) hHeld ?_
                simp only [Act.put, List.getElem_toArray, List.getElem_cons_zero, List.getElem_cons_succ, List.setIfInBounds_toArray, List.set_cons_zero, List.set_cons_succ]
                refine wpAnyH_take (i := 13) (v := .bool false) rfl (by kernel_rfl) (by kernel_rfl) (by kernel_rfl) (fun _ _ _ h => h) (Or.inl ⟨by rfl, fun w' hS => by go_simp⟩) hHeld ?_
                simp only [Act.put, List.getElem_toArray, List.getElem_cons_zero, List.getElem_cons_succ, List.setIfInBounds_toArray, List.set_cons_zero, List.set_cons_succ]
                refine wpAnyH_take (i := 14) (v := .slice (some ⟨g2, 0, none⟩) jl jl) rfl (by kernel_rfl) (by kernel_rfl) (by kernel_rfl) (fun _ _ _ h => h) (Or.inl ⟨by rfl, fun w' hS => by go_simp⟩) hHeld ?_
                simp only [Act.put, List.getElem_toArray, List.getElem_cons_zero, List.getElem_cons_succ, List.setIfInBounds_toArray, List.set_cons_zero, List.set_cons_succ]
                refine wpAnyH_take (i := 16) (v := .int .i64 sI) rfl (by kernel_rfl) (by kernel_rfl) (by kernel_rfl) (fun _ _ _ h => h) (Or.inl ⟨by rfl, fun w' hS => by go_simp⟩) hHeld ?_
                simp only [Act.put, List.getElem_toArray, List.getElem_cons_zero, List.getElem_cons_succ, List.setIfInBounds_toArray, List.set_cons_zero, List.set_cons_succ]
                refine wpAnyH_ready (rs := [15]) (by kernel_rfl) (by simp) ?_
                refine AllReadyH.cons rfl (fun K hK => ?_) AllReadyH.nil
                go_simp
                refine (HSu.out _ hHeld.2.2.2.2).mono ?_
                rintro e w7 ⟨rfl, rfl⟩
                refine hK.out _ _ hHeld (fun hHeld => ?_)
                clear hK K
                refine wpAnyH_take (i := 17) (v := .bool false) rfl (by kernel_rfl) (by kernel_rfl) (by kernel_rfl) (fun _ _ _ h => h) (Or.inl ⟨by rfl, fun w' hS => by go_simp⟩) hHeld ?_
                simp only [Act.put, List.getElem_toArray, List.getElem_cons_zero, List.getElem_cons_succ, List.setIfInBounds_toArray, List.set_cons_zero, List.set_cons_succ]
                refine wpAnyH_take (i := 18) (v := .bool false) rfl (by kernel_rfl) (by kernel_rfl) (by kernel_rfl) (fun _ _ _ h => h) (Or.inl ⟨by rfl, fun w' hS => by go_simp⟩) hHeld ?_
                simp only [Act.put, List.getElem_toArray, List.getElem_cons_zero, List.getElem_cons_succ, List.setIfInBounds_toArray, List.set_cons_zero, List.set_cons_succ]
                refine wpAnyH_take (i := 19) (v := .bool false) rfl (by kernel_rfl) (by kernel_rfl) (by kernel_rfl) (fun _ _ _ h => h) (Or.inl ⟨by rfl, fun w' hS => by go_simp⟩) hHeld ?_
                simp only [Act.put, List.getElem_toArray, List.getElem_cons_zero, List.getElem_cons_succ, List.setIfInBounds_toArray, List.set_cons_zero, List.set_cons_succ]
                refine wpAnyH_take (i := 20) (v := .slice (some ⟨g2, 0, none⟩) jl jl) rfl (by kernel_rfl) (by kernel_rfl) (by kernel_rfl) (fun _ _ _ h => h) (Or.inl ⟨by rfl, fun w' hS => by go_simp⟩) hHeld ?_
                simp only [Act.put, List.getElem_toArray, List.getElem_cons_zero, List.getElem_cons_succ, List.setIfInBounds_toArray, List.set_cons_zero, List.set_cons_succ]
                refine wpAnyH_take (i := 21) (v := .pointer (some ⟨gO, 1, none⟩)) rfl (by kernel_rfl) (by kernel_rfl) (by kernel_rfl) (fun _ _ _ h => h) (Or.inl ⟨by rfl, fun w' hS => by go_simp⟩) hHeld ?_
                simp only [Act.put, List.getElem_toArray, List.getElem_cons_zero, List.getElem_cons_succ, List.setIfInBounds_toArray, List.set_cons_zero, List.set_cons_succ]
                refine wpAnyH_take (i := 22) (v := .int .i64 (k : Int)) rfl (by kernel_rfl) (by kernel_rfl) (by kernel_rfl) (fun _ _ _ h => h) (Or.inl ⟨by rfl, fun w' hS => by (obtain ⟨s0, s1, s2, s3, s4⟩ := hS; go_simp)⟩) hHeld ?_
                simp only [Act.put, List.getElem_toArray, List.getElem_cons_zero, List.getElem_cons_succ, List.setIfInBounds_toArray, List.set_cons_zero, List.set_cons_succ]
                refine wpAnyH_take (i := 23) (v := .pointer (some ⟨gT, k, none⟩)) rfl (by kernel_rfl) (by kernel_rfl) (by kernel_rfl) (fun _ _ _ h => h) (Or.inl ⟨by rfl, fun w' hS => by go_simp⟩) hHeld ?_
                simp only [Act.put, List.getElem_toArray, List.getElem_cons_zero, List.getElem_cons_succ, List.setIfInBounds_toArray, List.set_cons_zero, List.set_cons_succ]
                refine wpAnyH_take (i := 24) (v := .slice ya jl yc) rfl (by kernel_rfl) (by kernel_rfl) (by kernel_rfl) (fun _ _ _ h => h) (Or.inl ⟨by rfl, fun w' hS => by (obtain ⟨s0, s1, s2, s3, s4⟩ := hS; go_simp)⟩) hHeld ?_
                simp only [Act.put, List.getElem_toArray, List.getElem_cons_zero, List.getElem_cons_succ, List.setIfInBounds_toArray, List.set_cons_zero, List.set_cons_succ]
                refine wpAnyH_ready (rs := [25]) (by kernel_rfl) (by simp) ?_
                refine AllReadyH.cons rfl (fun K hK => ?_) AllReadyH.nil
                go_simp
                refine (HSm.out _ hHeld.2.2.2.2).mono ?_
                rintro e w8 ⟨rfl, rfl⟩
                refine hK.out _ _ hHeld (fun hHeld => ?_)
                clear hK K
                refine wpAnyH_take (i := 26) (v := .bool false) rfl (by kernel_rfl) (by kernel_rfl) (by kernel_rfl) (fun _ _ _ h => h) (Or.inl ⟨by rfl, fun w' hS => by go_simp⟩) hHeld ?_
                simp only [Act.put, List.getElem_toArray, List.getElem_cons_zero, List.getElem_cons_succ, List.setIfInBounds_toArray, List.set_cons_zero, List.set_cons_succ]
                refine wpAnyH_take (i := 27) (v := .bool false) rfl (by kernel_rfl) (by kernel_rfl) (by kernel_rfl) (fun _ _ _ h => h) (Or.inl ⟨by rfl, fun w' hS => by go_simp⟩) hHeld ?_
                simp only [Act.put, List.getElem_toArray, List.getElem_cons_zero, List.getElem_cons_succ, List.setIfInBounds_toArray, List.set_cons_zero, List.set_cons_succ]
                refine wpAnyH_take (i := 28) (v := .bool false) rfl (by kernel_rfl) (by kernel_rfl) (by kernel_rfl) (fun _ _ _ h => h) (Or.inl ⟨by rfl, fun w' hS => by go_simp⟩) hHeld ?_
                simp only [Act.put, List.getElem_toArray, List.getElem_cons_zero, List.getElem_cons_succ, List.setIfInBounds_toArray, List.set_cons_zero, List.set_cons_succ]
                refine wpAnyH_take (i := 29) (v := .pointer (some ⟨jb, 0, none⟩)) rfl (by kernel_rfl) (by kernel_rfl) (by kernel_rfl) (fun _ _ _ h => h) (Or.inl ⟨by rfl, fun w' hS => by go_simp⟩) hHeld ?_
                simp only [Act.put, List.getElem_toArray, List.getElem_cons_zero, List.getElem_cons_succ, List.setIfInBounds_toArray, List.set_cons_zero, List.set_cons_succ]
                refine wpAnyH_take (i := 30) (v := .pointer (some ⟨gO, 1, none⟩)) rfl (by kernel_rfl) (by kernel_rfl) (by kernel_rfl) (fun _ _ _ h => h) (Or.inl ⟨by rfl, fun w' hS => by go_simp⟩) hHeld ?_
                simp only [Act.put, List.getElem_toArray, List.getElem_cons_zero, List.getElem_cons_succ, List.setIfInBounds_toArray, List.set_cons_zero, List.set_cons_succ]
                refine wpAnyH_take (i := 31) (v := .int .i64 (k : Int)) rfl (by kernel_rfl) (by kernel_rfl) (by kernel_rfl) (fun _ _ _ h => h) (Or.inl ⟨by rfl, fun w' hS => by (obtain ⟨s0, s1, s2, s3, s4⟩ := hS; go_simp)⟩) hHeld ?_
                simp only [Act.put, List.getElem_toArray, List.getElem_cons_zero, List.getElem_cons_succ, List.setIfInBounds_toArray, List.set_cons_zero, List.set_cons_succ]
                refine wpAnyH_ready (rs := [32]) (by kernel_rfl) (by simp) ?_
                refine AllReadyH.cons rfl (fun K hK => ?_) AllReadyH.nil
                go_simp
                refine (HHd.out _ hHeld.2.2.2.2).mono ?_
                rintro e w9 ⟨rfl, rfl⟩
                refine hK.out _ _ hHeld (fun hHeld => ?_)
                clear hK K
                refine wpAnyH_take (i := 33) (v := .bool false) rfl (by kernel_rfl) (by kernel_rfl) (by kernel_rfl) (fun _ _ _ h => h) (Or.inl ⟨by rfl, fun w' hS => by go_simp⟩) hHeld ?_
                simp only [Act.put, List.getElem_toArray, List.getElem_cons_zero, List.getElem_cons_succ, List.setIfInBounds_toArray, List.set_cons_zero, List.set_cons_succ]
                refine wpAnyH_take (i := 34) (v := .bool false) rfl (by kernel_rfl) (by kernel_rfl) (by kernel_rfl) (fun _ _ _ h => h) (Or.inl ⟨by rfl, fun w' hS => by go_simp⟩) hHeld ?_
                simp only [Act.put, List.getElem_toArray, List.getElem_cons_zero, List.getElem_cons_succ, List.setIfInBounds_toArray, List.set_cons_zero, List.set_cons_succ]
                refine wpAnyH_done (by kernel_rfl) ?_ _
                clear hHeld
                go_wp2
                go_roundw
                case rel => exact ⟨i + 1, J', _, _, by omega, by go_num, (HS6.out.still (by repeat (first | exact Below.refl _ _ | apply below_drewN | apply Below.drew))).nil hk16 (.inl Hps.out)⟩
                case measure => simp [intOf]; omega
          · have Hno : Hid (take (J.ps k) bs = ⟨p0, none, 91⟩ ∨ take (J.ps k) bs = ⟨J.ps k, none, 91⟩) := hA
            clear hA
            have HTk : Hid (∀ a n c, Rd V a n c bs → n ≤ 140737488351232 → Calls Tryd.prog 10 #[.pointer (some ⟨jb, 0, none⟩), .int .i64 (k : Int), .slice a n c] V fun e w' => ∃ J', e = .returned (.tuple #[.slice none 0 0, .bool false, .int .i64 91]) ∧ St w w' w.heap.size jb m gT J' v ts ∧ Kept V w' J.own) := fun a n c hr hn => (show Calls _ _ _ _ _ from by
              have h1 := take_any HV.out.jg.ok (k := k) (by rw [HV.out.jg.n]; exact hkm) hr (by omega) (HT.out.low HV.out.jg.bel h0B) h0B
              rw [HV.out.jg.b] at h1
              refine h1.mono ?_
              rintro e w' ⟨ra, rn, rc, g, he, h2, _, h4, h5, h6⟩
              have hjg : Jg w w' w.heap.size jb m (J.put k (take (J.ps k) bs).p g) := ⟨h4, HV.out.jg.b, HV.out.jg.n, HV.out.jg.bel.trans (h5.below HV.out.jg.hB (fun j hj hh => by have := HV.out.jg.ok.own_lo j hh; omega)), Nat.le_trans HV.out.jg.hB h5.size⟩
              rcases Hno.out with e1 | e1
              · rw [e1] at he h2 hjg h6
                obtain ⟨rfl, rfl, rfl⟩ := h2 rfl
                exact ⟨_, he, ⟨hjg, HV.out.tm.took h5 h6, HV.out.pu.put' (.inl rfl)⟩, h5⟩
              · rw [e1] at he h2 hjg h6
                obtain ⟨rfl, rfl, rfl⟩ := h2 rfl
                exact ⟨_, he, ⟨hjg, HV.out.tm.took h5 h6, HV.out.pu.put' (HV.out.pu k hk16)⟩, h5⟩)
            have HrX0 : Hid (Rd V qa qm qc bs) := hrV
            have HTc : Hid (Calls Tryd.prog 10 #[.pointer (some ⟨jb, 0, none⟩), .int .i64 (k : Int), .slice qa qm qc] V fun e w' => ∃ J', e = .returned (.tuple #[.slice none 0 0, .bool false, .int .i64 91]) ∧ St w w' w.heap.size jb m gT J' v ts ∧ Kept V w' J.own) := HTk.out _ _ _ hrV hlm
            clear hrV HTk
            go_wp2_with fail
            clear hV
            refine HTc.out.mono ?_
            rintro e w3 ⟨J', rfl, hS3, hk3⟩
            have z1 := kept_cell hk3 (fun hh => by have := HOj.out _ hh; omega) u1
            have z2 := kept_cell hk3 (fun hh => by have := HOj.out _ hh; omega) u2
            have HS3 : Hid (St w w3 w.heap.size jb m gT J' v ts) := hS3
            have HrX : Hid (Rd w3 qa qm qc bs) := Hrw.out.still hS3.jg.bel
            clear u0 u1 u2 x0 x1 x2 hk3 hS3 HTc
            by_cases h8 : qm < 8
            · have g8 : ¬ (8 : Int) ≤ (qm : Int) := by omega
              as_aux_lemma =>
                go_wp2
                go_roundw
                case rel => exact ⟨i + 1, J', v, ts, by omega, by go_num, HS3⟩
                case measure => simp [intOf]; omega
            · have g8 : (8 : Int) ≤ (qm : Int) := by omega
              obtain ⟨cb, co, hqa, hcc⟩ : ∃ b off, qa = some ⟨b, off, none⟩ ∧ ∀ i, i < qm → w3.cell? ⟨b, off + i, none⟩ = some (.int .u8 (bs.getD i 0)) := HrX.out.at_.elim (fun h => by omega) id
              have p1 := hcc 2 (by omega)
              have p2 := hcc 3 (by omega)
              have j2 : (2 : Int) < (qm : Int) := by omega
              have j3 : (3 : Int) < (qm : Int) := by omega
              subst hqa
              clear hcc
              by_cases d2 : bs.getD 2 0 = 0
              · rw [d2] at p1
                by_cases d3 : bs.getD 3 0 = 0
                · rw [d3] at p2
                  have HHd : Hid (Calls Tryd.prog 12 #[.pointer (some ⟨jb, 0, none⟩), .int .i64 (k : Int)] w3 fun e w' => e = .returned (.int .i64 ((J'.ps k).bs.length : Int)) ∧ w3 = w') := (show Calls _ _ _ _ _ from by
                    have hh := held_any HS3.out.jg.ok (k : Int)
                    rw [HS3.out.jg.b, HS3.out.jg.n, if_pos (by omega), Int.toNat_natCast] at hh
                    exact hh)
                  have f0 : w3.frozen? ⟨gT, k, none⟩ = false := HS3.out.tm.blk.fz k
                  have z3 : w3.cell? ⟨gT, k, none⟩ = some (v k) := HS3.out.tm.blk.cell k hk16
                  have kk1 : (0 : Int) ≤ (k : Int) := Int.natCast_nonneg _
                  have kk2 : (k : Int) < (m : Int) := by omega
                  have kk3 : (k : Int) < 16 := by omega
                  have kk4 : ¬ (k : Int) < 0 := by omega
                  have kk5 : ¬ (m : Int) ≤ (k : Int) := by omega
                  by_cases hz : (J'.ps k).bs = []
                  · have HN : Hid _ := HS3.out.nil hk16 (.inr hz)
                    have hz0 : ((J'.ps k).bs.length : Int) = 0 := by rw [hz]; rfl
                    rw [hz0] at HHd
                    clear hz hz0
                    as_aux_lemma =>
                      go_wp2_with (first | (go_at_call 12; refine HHd.out.mono ?_; rintro e w' ⟨rfl, rfl⟩) | fail)
                      go_roundw
                      case rel => exact ⟨i + 1, J', _, _, by omega, by go_num, HN⟩
                      case measure => simp [intOf]; omega
                  · have hz1 : (((J'.ps k).bs.length : Int) == 0) = false := by
                      rw [beq_eq_false_iff_ne]
                      intro e
                      exact hz (List.eq_nil_of_length_eq_zero (by omega))
                    clear hz
                    generalize ((J'.ps k).bs.length : Int) = hl at *
                    as_aux_lemma =>
                      go_wp2_with (first | (go_at_call 12; refine HHd.out.mono ?_; rintro e w' ⟨rfl, rfl⟩) | fail)
                      go_roundw
                      case rel => exact ⟨i + 1, J', v, ts, by omega, by go_num, HS3⟩
                      case measure => simp [intOf]; omega
                · have e3 : (bs.getD 3 0 == 0) = false := by rw [beq_eq_false_iff_ne]; exact d3
                  generalize bs.getD 3 0 = b3 at *
                  as_aux_lemma =>
                    go_wp2
                    go_roundw
                    case rel => exact ⟨i + 1, J', v, ts, by omega, by go_num, HS3⟩
                    case measure => simp [intOf]; omega
              · have e2 : (bs.getD 2 0 == 0) = false := by rw [beq_eq_false_iff_ne]; exact d2
                generalize bs.getD 2 0 = b2 at *
                as_aux_lemma =>
                  go_wp2
                  go_roundw
                  case rel => exact ⟨i + 1, J', v, ts, by omega, by go_num, HS3⟩
                  case measure => simp [intOf]; omega
        · have HTk : Hid (∀ a n c, Calls Tryd.prog 10 #[.pointer (some ⟨jb, 0, none⟩), .int .i64 qs, .slice a n c] V fun e w' => e = .returned (.tuple #[.slice none 0 0, .bool false, .int .i64 1]) ∧ V = w') := fun a n c => (show Calls _ _ _ _ _ from by
            have h1 := take_arg HV.out.jg.ok (x := qs) (by rw [HV.out.jg.n]; exact hin) (ao := a) (n := n) (c := c)
            rw [HV.out.jg.b] at h1
            exact h1)
          have HrX : Hid (Rd V qa qm qc bs) := hrV
          clear hrV Hrw
          by_cases h8 : qm < 8
          · have g8 : ¬ (8 : Int) ≤ (qm : Int) := by omega
            as_aux_lemma =>
              clear hin
              go_wp2_with (first | (go_at_call 10; refine (HTk.out _ _ _).mono ?_; rintro e w' ⟨rfl, rfl⟩) | fail)
              go_roundw
              case rel => exact ⟨i + 1, J, v, ts, by omega, by go_num, HV⟩
              case measure => simp [intOf]; omega
          · have g8 : (8 : Int) ≤ (qm : Int) := by omega
            obtain ⟨cb, co, hqa, hcc⟩ : ∃ b off, qa = some ⟨b, off, none⟩ ∧ ∀ i, i < qm → V.cell? ⟨b, off + i, none⟩ = some (.int .u8 (bs.getD i 0)) := HrX.out.at_.elim (fun h => by omega) id
            have p1 := hcc 2 (by omega)
            have p2 := hcc 3 (by omega)
            have j2 : (2 : Int) < (qm : Int) := by omega
            have j3 : (3 : Int) < (qm : Int) := by omega
            subst hqa
            clear hcc
            by_cases d2 : bs.getD 2 0 = 0
            · rw [d2] at p1
              by_cases d3 : bs.getD 3 0 = 0
              · rw [d3] at p2
                by_cases hneg : qs < 0
                · as_aux_lemma =>
                    clear hin
                    go_wp2_with (first | (go_at_call 10; refine (HTk.out _ _ _).mono ?_; rintro e w' ⟨rfl, rfl⟩) | fail)
                    go_roundw
                    case rel => exact ⟨i + 1, J, v, ts, by omega, by go_num, HV⟩
                    case measure => simp [intOf]; omega
                · have hge : (m : Int) ≤ qs := by omega
                  as_aux_lemma =>
                    clear hin
                    go_wp2_with (first | (go_at_call 10; refine (HTk.out _ _ _).mono ?_; rintro e w' ⟨rfl, rfl⟩) | fail)
                    go_roundw
                    case rel => exact ⟨i + 1, J, v, ts, by omega, by go_num, HV⟩
                    case measure => simp [intOf]; omega
              · have e3 : (bs.getD 3 0 == 0) = false := by rw [beq_eq_false_iff_ne]; exact d3
                generalize bs.getD 3 0 = b3 at *
                as_aux_lemma =>
                  clear hin
                  go_wp2_with (first | (go_at_call 10; refine (HTk.out _ _ _).mono ?_; rintro e w' ⟨rfl, rfl⟩) | fail)
                  go_roundw
                  case rel => exact ⟨i + 1, J, v, ts, by omega, by go_num, HV⟩
                  case measure => simp [intOf]; omega
            · have e2 : (bs.getD 2 0 == 0) = false := by rw [beq_eq_false_iff_ne]; exact d2
              generalize bs.getD 2 0 = b2 at *
              as_aux_lemma =>
                clear hin
                go_wp2_with (first | (go_at_call 10; refine (HTk.out _ _ _).mono ?_; rintro e w' ⟨rfl, rfl⟩) | fail)
                go_roundw
                case rel => exact ⟨i + 1, J, v, ts, by omega, by go_num, HV⟩
                case measure => simp [intOf]; omega
      · by_cases h3 : qk = 3
        · subst h3
          have HRs : Hid (Calls Tryd.prog 14 #[.pointer (some ⟨jb, 0, none⟩)] V fun e w' => ∃ J', e = .returned (.tuple #[]) ∧ St w w' w.heap.size jb m gT J' v ts ∧ ∀ s, J'.ps s = p0) := HV.out.reset
          go_wp2_with fail
          refine HRs.out.mono ?_
          rintro e w3 ⟨J', rfl, hS3, hp3⟩
          have HS3 : Hid (St w w3 w.heap.size jb m gT J' v ts) := hS3
          have HP3 : Hid (∀ s, J'.ps s = p0) := hp3
          clear hS3 hp3 HRs HV hrV hV u0 u1 u2 x0 x1 x2 HOj HOv
          go_wp2_with fail
          go_loopw [18] (fun q w5 => ∃ (s : Nat) (v5 : Nat → Value) (ts5 : Nat → List Int), s ≤ 16 ∧ q = .int .i64 (s : Int) ∧ Hid (St w w5 w.heap.size jb m gT J' v5 ts5)) (fun q _ => 16 - (intOf q).toNat)
          case atStart => exact ⟨0, _, _, by omega, rfl, HS3⟩
          case round =>
            clear HS3
            obtain ⟨s, v5, ts5, hs, rfl, HS5⟩ := hrel
            rename World => w5
            by_cases hl5 : s < 16
            · have f0 : w5.frozen? ⟨gT, s, none⟩ = false := HS5.out.tm.blk.fz s
              have z0 : w5.cell? ⟨gT, s, none⟩ = some (v5 s) := HS5.out.tm.blk.cell s hl5
              have k1 : (0 : Int) ≤ (s : Int) := Int.natCast_nonneg _
              have k2 : (s : Int) < 16 := by omega
              have HN : Hid _ := HS5.out.nil hl5 (.inl (HP3.out s))
              go_wp2
              go_roundw
              case rel => exact ⟨s + 1, _, _, by omega, by go_num, HN⟩
              case measure => simp [intOf]; omega
            · obtain rfl : s = 16 := by omega
              go_wp2
              go_roundw
              case rel => exact ⟨i + 1, J', v5, ts5, by omega, by go_num, HS5⟩
              case measure => simp [intOf]; omega
        · have q1 : (qk == 1) = false := by rw [beq_eq_false_iff_ne]; exact h1
          have q3 : (qk == 3) = false := by rw [beq_eq_false_iff_ne]; exact h3
          clear h1 h3
          go_wp2
          go_roundw
          case rel => exact ⟨i + 1, J, v, ts, by omega, by go_num, HV⟩
          case measure => simp [intOf]; omega
    · obtain rfl : i = on := by omega
      go_wp2
      go_ret
      exact ⟨rfl, HS.out.jg.bel⟩
end
end Go.Proofs.YtmphabgpabbbjaaDoor.Fg
