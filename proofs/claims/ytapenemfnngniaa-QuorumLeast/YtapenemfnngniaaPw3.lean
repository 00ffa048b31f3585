import Derived.Test.YtapenemfnngniaaPv3
namespace Go.Proofs.Ytapenemfnngniaa.Qm
open Go.RowKit Mb
set_option linter.unusedVariables false
set_option maxRecDepth 100000
set_option linter.unusedSimpArgs false
section
variable {w w' W : World} {B : Nat}
theorem row_at {R : Nat} {a : Option Addr} {n c : Nat} {F : List Value} {t : Nat} (h : w.ownsRow R t 1 (.slice a n c) n F) {i : Nat} (hi : i < n) : ∃ g, a = some ⟨g, 0, none⟩ ∧ w.cell? ⟨g, i, none⟩ = some (F.getD i undef) ∧ w.frozen? ⟨g, i, none⟩ = false := by
  obtain ⟨g, c', e⟩ := own_some h (by omega)
  simp only [Value.slice.injEq] at e
  obtain ⟨rfl, -, rfl⟩ := e
  have hl := h.1
  have h2 := World.ownsRow.cellAt h i (by omega)
  refine ⟨g, rfl, ?_, World.ownsRow.frozenAt h i⟩
  rw [h2]
  simp [List.getD, show i < F.length by omega]
theorem getD_v {E : List El} {i : Nat} (hi : i < E.length) : (E.map El.v).getD i undef = (E.getD i el0).v := by simp [List.getD, hi]
theorem ints_getD {ys : List Int} {i : Nat} (hi : i < ys.length) : (ints ys).getD i undef = .int .i64 (ys.getD i 0) := by simp [ints, List.getD, hi]
theorem mk_num (k : Nat) (hk : k ≤ 1000000) : IntKind.i64.wrap (-1000 - (k : Int)) = mkI k := by
  rw [IntKind.wrap_i64]
  unfold mkI
  omega
set_option maxHeartbeats 8000000 in
theorem alone_yes {v : Value} {E : List El} {C : Nat → List Int} (h : Al w B v E C) (hN : E.length ≤ 1000000) (hC : ∀ i, i < E.length → (C i).length ≤ 1000) (hB : B ≤ w.heap.size) : Calls Try.prog 18 #[v] w fun e w' => e = .returned (.bool true) ∧ Kept w w' (inE E) := by
  obtain ⟨ln, hln⟩ : ∃ f : Nat → Nat, (fun i => (C i).length) = f := ⟨_, rfl⟩
  have HS0 : Hid (S1 w B v E ln 0 0 w) := by rw [← hln]; exact S1.start h
  have HC : Hid (∀ i, i < E.length → ln i ≤ 1000) := fun i hi => by rw [← hln]; exact hC i hi
  have HEb : Hid (∀ q, inE E q → q < w.heap.size) := fun q ⟨i, hi, hq⟩ => (World.ownsRow.lt (h.el i hi) q hq).2
  have HVb : Hid (∀ q, v.ownBlock = some q → q < w.heap.size) := fun q hq => (World.ownsRow.lt h.row q hq).2
  obtain ⟨a, c, hv⟩ := own_shape h.row
  obtain ⟨N, hNe⟩ : ∃ N, E.length = N := ⟨_, rfl⟩
  have HNe : Hid (E.length = N) := hNe
  rw [hNe] at hN hv
  clear h hC hln hNe
  subst hv
  go_enter Try.func18, Try.ntmps18
  go_wp2_with (fail)
  go_loopw [3, 4] (fun i j wr => ∃ k : Nat, k ≤ N ∧ i = .int .i64 (k : Int) ∧ Hid (S1 w B (.slice a N c) E ln k 0 wr)) (fun i _ _ => N - (intOf i).toNat)
  case atStart => exact ⟨0, Nat.zero_le _, rfl, HS0.out⟩
  case round =>
  obtain ⟨k, hk, rfl, HI⟩ := hrel
  clear HS0
  by_cases hlt : k < N
  · have i1 : (0 : Int) ≤ (k : Int) := Int.natCast_nonneg _
    have i2 : (k : Int) < (N : Int) := by omega
    go_wp2_with (fail)
    go_loopw [4] (fun j wr => ∃ q : Nat, q ≤ ln k ∧ j = .int .i64 (q : Int) ∧ Hid (S1 w B (.slice a N c) E ln k q wr)) (fun j _ => ln k - (intOf j).toNat)
    case atStart => exact ⟨0, Nat.zero_le _, rfl, HI.out⟩
    case round =>
    obtain ⟨q, hq, rfl, HJ⟩ := hrel
    clear HI
    obtain ⟨C2, hAl, _⟩ := HJ.out.ex
    have hrow := hAl.row
    rw [HNe.out] at hrow
    obtain ⟨g, rfl, u1, -⟩ := row_at hrow hlt
    rw [getD_v (by rw [HNe.out]; exact hlt)] at u1
    obtain ⟨ys, hys, hr2⟩ := HJ.out.row (i := k) (by rw [HNe.out]; exact hlt)
    obtain ⟨xa, xc, hx⟩ := own_shape hr2
    have Hx : Hid ((E.getD k el0).v = .slice xa (ln k) xc) := hx
    rw [hx] at u1 hr2
    clear hx hAl hrow
    obtain ⟨m, hm⟩ : ∃ m, ln k = m := ⟨_, rfl⟩
    have Hm : Hid (ln k = m) := hm
    have hm1 : m ≤ 1000 := by rw [← hm]; exact HC.out k (by rw [HNe.out]; exact hlt)
    rw [hm] at hq u1 hr2 hys ⊢
    clear hm
    by_cases hql : q < m
    · have k1 : (0 : Int) ≤ (q : Int) := Int.natCast_nonneg _
      have k2 : (q : Int) < (m : Int) := by omega
      obtain ⟨g2, rfl, u2, u3⟩ := row_at hr2 hql
      rw [ints_getD (by omega)] at u2
      generalize ys.getD q 0 = y at u2
      have hmk := mk_num k (by omega)
      have HN : Hid (S1 w B (.slice (some ⟨g, 0, none⟩) N c) E ln k (q + 1) (wr.setCell ⟨g2, q, none⟩ (.int .i64 (mkI k)))) := HJ.out.set (by rw [HNe.out]; exact hlt) (by rw [Hm.out]; exact hql) Hx.out
      clear hr2 hys
      go_wp2_with (fail)
      refine ⟨⟨q + 1, by omega, by go_num, ?_⟩, by simp [intOf]; omega⟩
      first | exact HN.out | (simp only [hmk]; exact HN.out)
    · have k2 : ¬ (q : Int) < (m : Int) := by omega
      have HN : Hid (S1 w B (.slice (some ⟨g, 0, none⟩) N c) E ln (k + 1) 0 wr) := HJ.out.turn (by rw [Hm.out]; omega)
      clear hr2 hys
      go_wp2_with (fail)
      exact ⟨⟨k + 1, by omega, by go_num, HN.out⟩, by simp [intOf]; omega⟩
  · have i2 : ¬ (k : Int) < (N : Int) := by omega
    obtain rfl : k = N := by omega
    have HT0 : Hid (S2 wr B (.slice a k c) E ln 0 (.slice none 0 0) wr) := S2.start (HI.out.all (by rw [HNe.out]; exact Nat.le_refl _))
    have HK1 : Hid (Kept w wr (inE E)) := HI.out.kp
    have HEb1 : Hid (∀ q, inE E q → q < wr.heap.size) := fun q hq => Nat.lt_of_lt_of_le (HEb.out q hq) HK1.out.size
    have HVb1 : Hid (∀ q, (Value.slice a k c).ownBlock = some q → q < wr.heap.size) := fun q hq => Nat.lt_of_lt_of_le (HVb.out q hq) HK1.out.size
    have hB1 : B ≤ wr.heap.size := Nat.le_trans hB HK1.out.size
    clear HI HEb HVb hlt i2 hk hB
    have HSt : Hid (∃ w0, w0 = wr) := ⟨_, rfl⟩
    obtain ⟨w0, hw0⟩ := HSt.out
    clear HSt
    rw [← hw0] at HT0 HK1 HEb1 HVb1 hB1 ⊢
    clear hw0
    go_wp2_with (fail)
    go_loopw [5, 6, 7, 8] (fun m i _ _ wr => ∃ (p : Nat) (mv : Value) (w1 : World), p ≤ k ∧ i = .int .i64 (p : Int) ∧ mv = m ∧ w1 = wr ∧ Hid (S2 w0 B (.slice a k c) E ln p mv w1)) (fun _ i _ _ _ => k - (intOf i).toNat)
    case atStart => exact ⟨0, _, _, Nat.zero_le _, rfl, rfl, rfl, HT0.out⟩
    case round =>
    obtain ⟨p, mv, w1, hp, rfl, rfl, rfl, HI⟩ := hrel
    clear HT0
    by_cases hlt : p < k
    · have i1 : (0 : Int) ≤ (p : Int) := Int.natCast_nonneg _
      have i2 : (p : Int) < (k : Int) := by omega
      have hpE : p < E.length := by rw [HNe.out]; exact hlt
      have hrow := HI.out.al.row
      rw [HNe.out] at hrow
      obtain ⟨g, rfl, u1, -⟩ := row_at hrow hlt
      rw [getD_v hpE] at u1
      have hr2 := HI.out.al.el p hpE
      have hcl : (Cm ln p).length = ln p := by unfold Cm; rw [List.length_replicate]
      rw [hcl] at hr2
      obtain ⟨xa, xc, hx⟩ := own_shape hr2
      have Hx : Hid ((E.getD p el0).v = .slice xa (ln p) xc) := hx
      rw [hx] at u1 hr2
      have hm1 : ln p ≤ 1000 := HC.out p hpE
      have HG0 : Hid (Gi w1 B (ln p) (.slice xa (ln p) xc) (Cm ln p) (mkI p) 0 (.slice xa (ln p) xc) w1) := Gi.start hr2
      have HLt : Hid (∀ q, (Value.slice xa (ln p) xc).ownBlock = some q → q < w1.heap.size) := fun q hq => (World.ownsRow.lt hr2 q hq).2
      have hB2 : B ≤ w1.heap.size := Nat.le_trans hB1 HI.out.kp.size
      have Hcl : Hid ((Cm ln p).length = ln p) := hcl
      have HpE : Hid (p < E.length) := hpE
      clear hx hrow hr2 hcl hpE
      obtain ⟨n, hn⟩ : ∃ n, ln p = n := ⟨_, rfl⟩
      have Hn : Hid (ln p = n) := hn
      rw [hn] at hm1 HG0 HLt Hcl u1
      clear hn
      have hmk := mk_num p (by omega)
      go_wp2_with (fail)
      go_loopw [7, 8] (fun g j wr => ∃ q : Nat, q ≤ 64 ∧ j = .int .i64 (q : Int) ∧ Hid (Gi w1 B n (.slice xa n xc) (Cm ln p) (mkI p) q g wr)) (fun _ j _ => 64 - (intOf j).toNat)
      case atStart => exact ⟨0, Nat.zero_le _, rfl, HG0.out⟩
      case round =>
      obtain ⟨q, hq, rfl, HJ⟩ := hrel
      clear HG0
      have hrow := HJ.out.row
      obtain ⟨ga, gc, hg⟩ := own_shape hrow
      rw [hg] at HJ hrow
      rw [hg]
      clear hg
      by_cases hql : q < 64
      · have j2 : (q : Int) < 64 := by omega
        obtain ⟨X1, hX1⟩ : ∃ Y, wr.alloc (.cells #[.int .i64 (mkI p)] 3) = Y := ⟨_, rfl⟩
        have HB1 : Hid (Below wr.heap.size wr X1) := by rw [← hX1]; exact balloc (Below.refl _ _)
        have HG1 : Hid (Gi w1 B n (.slice xa n xc) (Cm ln p) (mkI p) q (.slice ga (n + q) gc) X1) := HJ.out.still HB1.out
        have Hsz : Hid (B ≤ X1.heap.size) := Nat.le_trans hB2 (Nat.le_trans HJ.out.kp.size HB1.out.size)
        have HNw : Hid (∀ j u, [Value.int .i64 (mkI p)][j]? = some u → X1.cell? ((⟨wr.heap.size, 0, none⟩ : Addr).add j) = some u) := by
          rw [← hX1]
          exact cell_one_new wr _ _
        clear hrow
        obtain ⟨i0, hi, hz0, hz1, hz2⟩ := int_info
        subst hX1
        unfold mkI at HNw HG1 Hsz HB1
        go_wp2_with (first
          | (at_builtin; refine wpList_app_keep rfl (.tmp 49) (.tmp 52) 22 rfl B 3 i0 (.int .i64 0) 8 Try.underlying22 hi hz0 hz1 hz2 (by rfl) _ (n + q) (ints (Cm ln p ++ List.replicate q (mkI p))) rfl HG1.out.row ⟨wr.heap.size, 0, none⟩ 1 1 [.int .i64 (mkI p)] rfl rfl HNw.out (by intro u hu; rw [List.mem_singleton.1 hu]; rfl) (by decide) (by unfold maxLen; omega) (by omega) Hsz.out ?_)
          | fail)
        intro v' w2 q1 q2 q3 q4
        have HN : Hid (Gi w1 B n (.slice xa n xc) (Cm ln p) (mkI p) (q + 1) v' w2) := HG1.out.next q1 q2 (by
          rcases q3 with ⟨g, cap, ⟨e1, e2⟩, e3⟩ | e3
          · exact .inl ⟨g, cap, by rw [e1, e2], e3⟩
          · exact .inr (by rw [e3]; simp)) q4 Hcl.out HLt.out
        clear q1 q2 q3 q4
        go_wp2_with (fail)
        exact ⟨⟨q + 1, by omega, by go_num, HN.out⟩, by simp [intOf]; omega⟩
      · have j2 : ¬ (q : Int) < 64 := by omega
        obtain rfl : q = 64 := by omega
        have HJx : Hid (Gi w1 B (ln p) (E.getD p el0).v (Cm ln p) (mkI p) 64 (.slice ga (n + 64) gc) wr) := by
          rw [Hx.out, Hn.out]
          exact HJ.out
        have HS : Hid (S2 w0 B (.slice (some ⟨g, 0, none⟩) k c) E ln p mv wr) := HI.out.grow HEb1.out HpE.out (Nat.le_of_lt HpE.out) HJx.out
        obtain ⟨X1, hX1⟩ : ∃ Y, wr.alloc (.cells #[.slice ga (n + 64) gc] 22) = Y := ⟨_, rfl⟩
        have HB1 : Hid (Below wr.heap.size wr X1) := by rw [← hX1]; exact balloc (Below.refl _ _)
        have HS1 : Hid (S2 w0 B (.slice (some ⟨g, 0, none⟩) k c) E ln p mv X1) := HS.out.still HB1.out
        have HR1 : Hid (X1.ownsRow B 3 1 (.slice ga (n + 64) gc) (ln p + 64) (ints (List.replicate (ln p + 64) (mkI p)))) := by
          have := own_still hrow HB1.out
          unfold Cm at this
          rw [Hn.out, List.replicate_append_replicate] at this
          rw [Hn.out]
          exact this
        have HRb : Hid (∀ q, (Value.slice ga (n + 64) gc).ownBlock = some q → (E.getD p el0).b = some q ∨ w0.heap.size ≤ q) := fun q hq => by
          rcases HJx.out.block q hq with h5 | h5
          · exact .inl h5
          · exact .inr (Nat.le_trans HI.out.kp.size h5)
        have HNw : Hid (∀ j u, [Value.slice ga (n + 64) gc][j]? = some u → X1.cell? ((⟨wr.heap.size, 0, none⟩ : Addr).add j) = some u) := by
          rw [← hX1]
          exact cell_one_new wr _ _
        have Hsz : Hid (w0.heap.size ≤ X1.heap.size) := HS1.out.kp.size
        obtain ⟨F, hF, hFr, hFe⟩ := HS1.out.more
        have HF : Hid (F.length = p) := hF
        have HFr : Hid (X1.ownsRow w0.heap.size 22 1 mv p F) := hFr
        have HFe : Hid (∀ i, i < p → X1.ownsRow B 3 1 (F.getD i undef) (ln i + 64) (ints (List.replicate (ln i + 64) (mkI i))) ∧ ∀ g, (F.getD i undef).ownBlock = some g → (E.getD i el0).b = some g ∨ w0.heap.size ≤ g) := hFe
        obtain ⟨ma, mc, hmv⟩ := own_shape hFr
        rw [hmv] at HS1 HFr
        rw [hmv] at HI HS
        rw [hmv]
        clear hrow hF hFr hFe hmv HI HS HJ HJx
        obtain ⟨i0, hi, hz0, hz1, hz2⟩ := iss_info
        subst hX1
        go_wp2_with (first
          | (at_builtin; refine wpList_append_own _ rfl (.tmp 54) (.tmp 56) 32 rfl w0.heap.size 22 i0 (.slice none 0 0) 1 24 Try.underlying32 hi hz0 hz1 hz2 (by rfl) (by decide) _ p F rfl HFr.out ⟨wr.heap.size, 0, none⟩ 1 1 [.slice ga (n + 64) gc] rfl rfl HNw.out (by intro u hu; rw [List.mem_singleton.1 hu]; rfl) (by unfold maxLen; omega) (by omega) Hsz.out ?_)
          | fail)
        intro v' w2 q1 q2 q3
        have HN : Hid (S2 w0 B (.slice (some ⟨g, 0, none⟩) k c) E ln (p + 1) v' w2) := S2.next F HS1.out HF.out HFr.out HFe.out HVb1.out HR1.out HRb.out q1 q2
        clear q1 q2 q3
        go_wp2_with (fail)
        exact ⟨⟨p + 1, _, _, by omega, by go_num, rfl, rfl, HN.out⟩, by simp [intOf]; omega⟩
    · have i2 : ¬ (p : Int) < (k : Int) := by omega
      obtain rfl : p = k := by omega
      have HKw : Hid (Kept w w1 (inE E)) := HK1.out.trans HI.out.kp
      obtain ⟨F, hF, hFr, hFe⟩ := HI.out.more
      obtain ⟨ma, mc, hmv⟩ := own_shape hFr
      have HF : Hid (∀ i, i < p → w1.ownsRow B 3 1 (F.getD i undef) (ln i + 64) (ints (List.replicate (ln i + 64) (mkI i)))) := fun i hi => (hFe i hi).1
      have HFr : Hid (w1.ownsRow w0.heap.size 22 1 (.slice ma p mc) p F) := by rw [← hmv]; exact hFr
      have HAl : Hid (Al w1 B (.slice a p c) E (Cm ln)) := HI.out.al
      rw [hmv]
      clear hFr hFe hmv HI HEb1 HVb1 HK1 hB1
      go_wp2_with (fail)
      go_loopw [9, 10, 11] (fun i _ _ wr => ∃ z : Nat, z ≤ p ∧ i = .int .i64 (z : Int) ∧ w1 = wr) (fun i _ _ _ => p - (intOf i).toNat)
      case atStart => exact ⟨0, Nat.zero_le _, rfl, rfl⟩
      case round =>
      obtain ⟨z, hz, rfl, rfl⟩ := hrel
      by_cases hlt : z < p
      · have k1 : (0 : Int) ≤ (z : Int) := Int.natCast_nonneg _
        have k2 : (z : Int) < (p : Int) := by omega
        have hzE : z < E.length := by rw [HNe.out]; exact hlt
        have hrow := HAl.out.row
        rw [HNe.out] at hrow
        obtain ⟨g, rfl, u1, -⟩ := row_at hrow hlt
        rw [getD_v hzE] at u1
        have hr2 := HAl.out.el z hzE
        have hcl : (Cm ln z).length = ln z := by unfold Cm; rw [List.length_replicate]
        rw [hcl] at hr2
        obtain ⟨xa, xc, hx⟩ := own_shape hr2
        rw [hx] at u1 hr2
        obtain ⟨mg, rfl, u2, -⟩ := row_at HFr.out hlt
        have hr3 := HF.out z hlt
        obtain ⟨ya, yc, hy⟩ := own_shape hr3
        rw [hy] at u2 hr3
        have hm1 : ln z ≤ 1000 := HC.out z hzE
        unfold Cm at hr2
        clear hx hy hrow hcl
        generalize ln z = n at *
        have HR2 : Hid (w1.ownsRow B 3 1 (.slice xa n xc) n (ints (List.replicate n (mkI z)))) := hr2
        have HR3 : Hid (w1.ownsRow B 3 1 (.slice ya (n + 64) yc) (n + 64) (ints (List.replicate (n + 64) (mkI z)))) := hr3
        have hmk := mk_num z (by omega)
        clear hr2 hr3
        go_wp2_with (fail)
        go_loopw [11] (fun j wr => ∃ q : Nat, q ≤ n + 64 ∧ j = .int .i64 (q : Int) ∧ w1 = wr) (fun j _ => n + 64 - (intOf j).toNat)
        case atStart => exact ⟨0, Nat.zero_le _, rfl, rfl⟩
        case round =>
        obtain ⟨q, hq, rfl, rfl⟩ := hrel
        by_cases hql : q < n + 64
        · have l1 : (0 : Int) ≤ (q : Int) := Int.natCast_nonneg _
          have l2 : (q : Int) < (n : Int) + 64 := by omega
          have l3 : (q : Int) < ((n + 64 : Nat) : Int) := by omega
          obtain ⟨yg, rfl, u3, -⟩ := row_at HR3.out hql
          rw [ints_getD (by rw [List.length_replicate]; exact hql)] at u3
          have e3 : (List.replicate (n + 64) (mkI z)).getD q 0 = -1000 - (z : Int) := by simp [List.getD, List.getElem?_replicate, hql, mkI]
          rw [e3] at u3
          clear e3
          by_cases hqn : q < n
          · have l4 : (q : Int) < (n : Int) := by omega
            obtain ⟨xg, rfl, u4, -⟩ := row_at HR2.out hqn
            rw [ints_getD (by rw [List.length_replicate]; exact hqn)] at u4
            have e4 : (List.replicate n (mkI z)).getD q 0 = -1000 - (z : Int) := by simp [List.getD, List.getElem?_replicate, hqn, mkI]
            rw [e4] at u4
            clear e4
            go_wp2_with (fail)
            exact ⟨⟨q + 1, by omega, by go_num, by first | exact trivial | rfl⟩, by simp [intOf]; omega⟩
          · have l4 : ¬ (q : Int) < (n : Int) := by omega
            go_wp2_with (fail)
            exact ⟨⟨q + 1, by omega, by go_num, by first | exact trivial | rfl⟩, by simp [intOf]; omega⟩
        · have l2 : ¬ (q : Int) < (n : Int) + 64 := by omega
          go_wp2_with (fail)
          exact ⟨⟨z + 1, by omega, by go_num, by first | exact trivial | rfl⟩, by simp [intOf]; omega⟩
      · have k2 : ¬ (z : Int) < (p : Int) := by omega
        go_wp2
        go_ret
        exact ⟨rfl, HKw.out⟩
end
end Go.Proofs.Ytapenemfnngniaa.Qm
