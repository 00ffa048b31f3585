import Derived.Test.YtmphabgpabbbjaaDoorUt
import Derived.Test.YtmphabgpabbbjaaDoorUs0
namespace Go.Proofs.YtmphabgpabbbjaaDoor.Fg
open Go.RowKit Mb
set_option linter.unusedVariables false
set_option maxRecDepth 100000
set_option linter.unusedSimpArgs false
section
variable {w w' W : World} {B : Nat}
def sg (x y : Nat) : Int := bits .xor .u8 (((x : Int) + 1) % 256) (53 * ((y : Int) % 3))
theorem sign_any (x y : Nat) (hx : x ≤ 1000000) (hy : y ≤ 1000000) : Calls Tryd.prog 24 #[.int .i64 (x : Int), .int .i64 (y : Int)] w fun e w' => e = .returned (.int .u8 (sg x y)) ∧ w = w' := by
  go_enter Tryd.func24, Tryd.ntmps24
  go_wp2
  go_ret
  exact ⟨rfl, rfl⟩
structure RQ (w : World) (a : Option Addr) (N : Nat) (cs : Nat → List Int) (F : Nat → Prop) : Prop where
  at_ : ∃ g, a = some ⟨g, 0, none⟩ ∧ F g ∧ ∀ i, i < N → ∃ ai mi ci, w.cell? ⟨g, i, none⟩ = some (.slice ai mi ci) ∧ Rd w ai mi ci (cs i) ∧ In ai F
theorem RQ.keep {P F : Nat → Prop} {a : Option Addr} {N : Nat} {cs : Nat → List Int} (h : RQ w a N cs F) (k : Kept w w' P) (hp : ∀ q, F q → ¬ P q) : RQ w' a N cs F := by
  obtain ⟨g, h1, h2, h3⟩ := h.at_
  refine ⟨g, h1, h2, fun i hi => ?_⟩
  obtain ⟨ai, mi, ci, h4, h5, h6⟩ := h3 i hi
  exact ⟨ai, mi, ci, kept_cell k (hp _ h2) h4, h5.keep k (fun b off e => hp _ (h6 b off e)), h6⟩
theorem RQ.still {F : Nat → Prop} {a : Option Addr} {N : Nat} {cs : Nat → List Int} (h : RQ w a N cs F) (hb : Below w.heap.size w w') : RQ w' a N cs F := h.keep (Kept.ofBelow hb (fun _ => False)) (fun _ _ => id)
theorem put_ps' {J : Jn} {k : Nat} {p : Pt} {g : Option Nat} : (J.put k p g).ps k = p := upd_same _ _ _
structure Gv (w wr : World) (B : Nat) (J0 J : Jn) (k : Nat) : Prop where
  ok : J.Ok wr B
  b : J.b = J0.b
  n : J.n = J0.n
  bp : J.bp = J0.bp
  kp : Kept w wr J0.own
  nw : ∀ j, J.own j → J0.own j ∨ w.heap.size ≤ j
set_option maxHeartbeats 4000000 in
theorem gives_any {J : Jn} (hJ : J.Ok w B) {k : Nat} (hk : k < J.n) {a : Option Addr} {N c n : Nat} {b : List Int} {cs : Nat → List Int} {F : Nat → Prop} (hq : RQ w a N cs F) (hF : ∀ q, F q → q < w.heap.size ∧ ¬ J.own q) (hcs : ∀ i, i < N → cs i = chunk b i) (hn : n ≤ 4000) (hl : b.length = n) (hN : cnt n = N) (hb : By b) (hT : Tab w) (hB0 : 0 < B) (hBw : B ≤ w.heap.size) :
    Calls Tryd.prog 23 #[.pointer (some ⟨J.b, 0, none⟩), .int .i64 (k : Int), .slice a N c] w fun e w' => ∃ g' J', e = .returned (.tuple #[.slice (some ⟨g', 0, none⟩) n n, .bool true]) ∧ Bk w' g' b ∧ ¬ J'.own g' ∧ (J.own g' ∨ w.heap.size ≤ g') ∧ Gv w w' B J J' k := by
  have hN1 := cnt_pos hn
  have hN17 := cnt_le n
  rw [hN] at hN1 hN17
  obtain ⟨g, rfl, hFg, hrow⟩ := hq.at_
  have HQ : Hid (RQ w (some ⟨g, 0, none⟩) N cs F) := hq
  have HT : Hid (Tab w) := hT
  have HF : Hid (∀ q, F q → q < w.heap.size ∧ ¬ J.own q) := hF
  have HC : Hid (∀ i, i < N → cs i = chunk b i) := hcs
  have HJ : Hid (J.Ok w B) := hJ
  clear hq hT hF hrow hJ hcs
  obtain ⟨jb, hjb⟩ : ∃ jb, J.b = jb := ⟨_, rfl⟩
  rw [hjb]
  go_enter Tryd.func23, Tryd.ntmps23
  go_wp2_with fail
  go_loopw [8] (fun q wr => ∃ (i : Nat) (J' : Jn), i < N ∧ q = .int .i64 (i : Int) ∧ Hid (Gv w wr B J J' k) ∧ Hid (i = 0 ∨ J'.ps k = pre b i)) (fun q _ => N - (intOf q).toNat)
  case atStart => exact ⟨0, J, by omega, rfl, ⟨HJ.out, rfl, rfl, rfl, Kept.refl _ _, fun j hj => .inl hj⟩, .inl rfl⟩
  case round =>
    obtain ⟨i, J', hi, rfl, HG, HP⟩ := hrel
    have hqr := HQ.out.keep HG.out.kp (fun q hq => (HF.out q hq).2)
    obtain ⟨_, hg1, _, hrow⟩ := hqr.at_
    cases hg1
    obtain ⟨ai, mi, ci, hcell, hrd, hin⟩ := hrow i hi
    rw [HC.out i hi] at hrd
    have hmi := hrd.len
    rw [chunk_len] at hmi
    have HR : Hid (Rd wr ai mi ci (chunk b i)) := hrd
    have HI : Hid (In ai F) := hin
    have i1 : (0 : Int) ≤ (i : Int) := Int.natCast_nonneg _
    have i2 : (i : Int) < (N : Int) := by omega
    clear hrd hin hrow hqr
    have hws := HG.out.kp.size
    go_wp2_with fail
    refine (spare_any HR.out (by omega)).mono ?_
    rintro e w1 ⟨gs, c1, rfl, hc1, hgs, ho1, hb1⟩
    have HO1 : Hid (Own w1 wr.heap.size (.slice (some ⟨gs, 0, none⟩) (mi + 64) c1) (chunk b i ++ marks 64)) := ho1
    have hgl := (own_block_lt ho1).2
    have HTk : Hid (Calls Tryd.prog 10 #[.pointer (some ⟨jb, 0, none⟩), .int .i64 (k : Int), .slice (some ⟨gs, 0, none⟩) mi c1] w1 fun e w' => TkOut w1 w' B J' k (nxt b i) e) := (show Calls _ _ _ _ _ from by
      have h1 := take_any (HG.out.ok.still hb1) (k := k) (by rw [HG.out.n]; exact hk) (HO1.out.rdPre (chunk_by hb i) HR.out.len (by omega)) (by omega) (HT.out.low ((HG.out.kp.below hBw (fun q hq hh => by have := HJ.out.own_lo q hh; omega)).trans (hb1.mono (by omega))) hB0) hB0
      rw [take_nxt hb (by omega) (by rw [hl, hN]; exact hi) HP.out, HG.out.b, hjb] at h1
      exact h1)
    clear ho1
    have hcell1 := below_at hb1 hcell
    go_wp2_with fail
    refine HTk.out.mono ?_
    rintro e w2 ⟨ra, rn, rc, g2, rfl, h2, h3, h4, h5, h6⟩
    have hnx : nxt b i = if i + 1 = N then ⟨p0, some b, 0⟩ else ⟨pre b (i + 1), none, 0⟩ := by unfold nxt; rw [hl, hN]
    have hr2 : Rd w2 ai mi ci (chunk b i) := (HR.out.still hb1).keep h5 (fun q off e => by
      have h7 := HF.out q (HI.out q off e)
      intro hh
      rcases HG.out.nw q hh with h8 | h8
      · exact h7.2 h8
      · omega)
    have ho2 : Own w2 wr.heap.size (.slice (some ⟨gs, 0, none⟩) (mi + 64) c1) (chunk b i ++ marks 64) := HO1.out.keep h5 (fun q hq hh => by
      simp [Value.ownBlock] at hq
      have := HG.out.ok.own_lt q hh
      omega)
    have HIn : Hid (Calls Tryd.prog 19 #[.slice (some ⟨gs, 0, none⟩) mi c1, .slice ai mi ci] w2 fun e w' => e = .returned (.bool true) ∧ w2 = w') := intact_any ho2 hc1 hr2 (by omega)
    have HFu : Hid (Calls Tryd.prog 20 #[.slice (some ⟨gs, 0, none⟩) mi c1, .int .u8 221] w2 fun e w' => e = .returned (.tuple #[]) ∧ Kept w2 w' (fun q => q = gs)) := full_any (own_full ho2 (by omega)) (by omega)
    have hcell2 : w2.cell? ⟨g, i, none⟩ = some (.slice ai mi ci) := kept_cell h5 (fun hh => by
      have h7 := HF.out g hFg
      rcases HG.out.nw g hh with h8 | h8
      · exact h7.2 h8
      · omega) hcell1
    have HG2 : Hid (∀ w3, Kept w2 w3 (fun q => q = gs) → Gv w w3 B J (J'.put k (nxt b i).p g2) k) := fun w3 h7 => by
      refine ⟨h4.keep h7 (fun j hj e => ?_), HG.out.b, HG.out.n, HG.out.bp, ?_, fun j hj => ?_⟩
      · subst e
        rcases h6 _ hj with h8 | h8
        · have := HG.out.ok.own_lt _ h8; omega
        · omega
      · refine (((HG.out.kp.step (Kept.ofBelow hb1 (fun _ => False)) (fun _ h => h.elim)).step h5 (fun j hj => HG.out.nw j hj)).step h7 (fun j e => .inr ?_))
        subst e
        omega
      · rcases h6 j hj with h8 | h8
        · exact HG.out.nw j h8
        · have := hb1.size; exact .inr (by omega)
    clear h4 hcell hcell1 HTk HO1 ho2 hr2
    by_cases hlast : i + 1 = N
    · rw [hnx, if_pos hlast] at h3 HG2
      obtain ⟨g', rfl, rfl, rfl, hbk, _, hBg, hno, hown⟩ := h3 b rfl
      have HB2 : Hid (Bk w2 g' b) := hbk
      have HN2 : Hid (¬ (J'.put k p0 g2).own g' ∧ (J'.own g' ∨ w1.heap.size ≤ g')) := ⟨hno, hown⟩
      have e1 : ((i : Int) == (N : Int) - 1) = true := by rw [beq_iff_eq]; omega
      clear h2 h3 h5 h6 hbk hno hown
      rw [hnx, if_pos hlast, hl]
      clear hnx
      go_wp2_with (first | (go_at_call 19; refine HIn.out.mono ?_; rintro e w' ⟨rfl, rfl⟩) | fail)
      refine HFu.out.mono ?_
      rintro e w3 ⟨rfl, h7⟩
      have HG3 : Hid _ := HG2.out w3 h7
      have hne : g' ≠ gs := fun e => by
        subst e
        rcases HN2.out.2 with h8 | h8
        · have := HG.out.ok.own_lt _ h8; omega
        · omega
      have HB3 : Hid (Bk w3 g' b) := HB2.out.keep h7 hne
      clear h7 HG2 HB2
      go_wp2
      go_ret2
      refine ⟨g', _, rfl, HB3.out, HN2.out.1, ?_, HG3.out⟩
      rcases HN2.out.2 with h8 | h8
      · exact HG.out.nw _ h8
      · have := hb1.size; exact .inr (by omega)
    · rw [hnx, if_neg hlast] at h2 HG2
      obtain ⟨rfl, rfl, rfl⟩ := h2 rfl
      have e1 : ((i : Int) == (N : Int) - 1) = false := by rw [beq_eq_false_iff_ne]; omega
      clear h3 h5 h6
      rw [hnx, if_neg hlast]
      clear hnx
      go_wp2_with (first | (go_at_call 19; refine HIn.out.mono ?_; rintro e w' ⟨rfl, rfl⟩) | fail)
      refine HFu.out.mono ?_
      rintro e w3 ⟨rfl, h7⟩
      have HG3 : Hid _ := HG2.out w3 h7
      clear h7 HG2
      go_wp2
      go_roundw
      case rel => exact ⟨i + 1, _, by omega, by go_num, HG3, .inr put_ps'⟩
      case measure => simp [intOf]; omega
end
end Go.Proofs.YtmphabgpabbbjaaDoor.Fg
