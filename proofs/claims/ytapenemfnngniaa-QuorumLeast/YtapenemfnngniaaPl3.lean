import Derived.Test.YtapenemfnngniaaPk3
import Derived.Deep.DeepCutAuto
namespace Go.Proofs.Ytapenemfnngniaa.Qm
open Go.RowKit Mb
set_option linter.unusedVariables false
set_option maxRecDepth 100000
set_option linter.unusedSimpArgs false
def orL : Nat → List Nat → Nat
  | b, [] => b
  | b, p :: r => orL (b ||| 2 ^ p) r
theorem orL_set (n : Nat) : ∀ (L : List Nat) (t u : Nat), setP n t (zi L) = some u → orL t L = u
  | [], t, u, h => by simp [zi, setP] at h; exact h
  | p :: r, t, u, h => by
      simp only [zi, List.map_cons, setP] at h
      split at h
      · exact orL_set n r _ u h
      · cases h
theorem listN_lt (s : Nat) : ∀ n p, p ∈ listN s n → p < n
  | 0, p, h => by simp [listN] at h
  | k + 1, p, h => by
      simp only [listN] at h
      split at h
      · rcases List.mem_append.1 h with h | h
        · have := listN_lt s k p h; omega
        · have := List.mem_singleton.1 h; omega
      · have := listN_lt s k p h; omega
theorem orL_app : ∀ (L : List Nat) (t : Nat) (M : List Nat), orL t (L ++ M) = orL (orL t L) M
  | [], t, M => rfl
  | p :: r, t, M => orL_app r _ M
theorem orL_lt : ∀ (L : List Nat) (t : Nat), t < 65536 → (∀ p ∈ L, p < 16) → orL t L < 65536
  | [], t, h, _ => h
  | p :: r, t, h, hp => orL_lt r _ (with_lt h (hp p (by simp))) (fun q hq => hp q (by simp [hq]))
theorem orL_take {L : List Nat} {q : Nat} (h : q < L.length) : orL 0 (L.take (q + 1)) = orL 0 (L.take q) ||| 2 ^ (L.getD q 0) := by
  rw [List.take_add_one, orL_app]
  simp [List.getD, h, orL]
theorem and_sub {a s : Nat} : a &&& s = s ↔ s ||| a = a := by
  constructor
  · intro h
    refine bit_sub fun i hi => ?_
    rw [← h, Nat.testBit_and] at hi
    exact (Bool.and_eq_true_iff.1 hi).1
  · intro h
    apply Nat.eq_of_testBit_eq
    intro i
    rw [Nat.testBit_and]
    cases hs : s.testBit i with
    | false => simp
    | true => rw [sub_bit h hs]; rfl
theorem zi_at2 (L : List Nat) (i : Nat) : (zi L).getD i 0 = ((L.getD i 0 : Nat) : Int) := by
  by_cases h : i < L.length
  · simp [zi, List.getD, h]
  · simp [zi, List.getD, List.getElem?_eq_none (show L.length ≤ i by omega)]
theorem getD_mem {L : List Nat} {i : Nat} (h : i < L.length) : L.getD i 0 ∈ L := by simp [List.getD, h]
def FitR (W : World) (x : Value) (wx : World) : Prop := ∃ a m d v, x = .slice a m d ∧ RdI wx a m d (zi v) ∧ Ok v ∧ v.length = m ∧ Below W.heap.size W wx
theorem ground_pure {v S : List Nat} {a : Nat} (ho : Ok v) (hS : S.Perm (ML v (2 ^ v.length))) (ha : a < 2 ^ v.length) : S.any (fun s => decide (a &&& s = s)) = wins v a := by
  rw [Bool.eq_iff_iff, List.any_eq_true]
  constructor
  · rintro ⟨s, hs, hd⟩
    have h1 := ML_mem.1 (hS.mem_iff.1 hs)
    exact wins_sub (mn_wins h1.2) (and_sub.1 (of_decide_eq_true hd))
  · intro hw
    obtain ⟨s, h1, h2, h3⟩ := mn_below ho.1 a a (Nat.le_refl _) ha hw
    exact ⟨s, hS.mem_iff.2 (ML_mem.2 ⟨h3, h1⟩), decide_eq_true (and_sub.2 h2)⟩
theorem anti_pure {v S : List Nat} (ho : Ok v) (hS : S.Perm (ML v (2 ^ v.length))) {i j : Nat} (hi : i < S.length) (hj : j < S.length) (hij : i ≠ j) : ¬ (S.getD i 0 &&& S.getD j 0 = S.getD j 0) := fun h => by
  have h1 := ML_mem.1 (hS.mem_iff.1 (getD_mem hi))
  have h2 := ML_mem.1 (hS.mem_iff.1 (getD_mem hj))
  have e := mn_anti ho.1 h2.2 h1.2 h1.1 (and_sub.1 h)
  have hn : S.Nodup := hS.nodup_iff.2 (ML_nodup v _)
  have e1 : S.getD i 0 = S[i] := by simp [List.getD, hi]
  have e2 : S.getD j 0 = S[j] := by simp [List.getD, hj]
  rw [e1, e2] at e
  rcases Nat.lt_or_gt_of_ne hij with hlt | hlt
  · exact List.pairwise_iff_getElem.1 hn i j hi hj hlt e.symm
  · exact List.pairwise_iff_getElem.1 hn j i hj hi hlt e
section
variable {w w' W : World} {B : Nat}
set_option maxHeartbeats 16000000 in
theorem ground_any {ao : Option Addr} {n c : Nat} {xs : List Int} (x y : Int) (hr : RdI w ao n c xs) : Calls Try.prog 4 #[.agg #[.slice ao n c, .int .i64 x, .int .i64 y]] w fun e w' => e = .returned (.bool true) ∧ Below w.heap.size w w' := by
  generalize hW : w.alloc (.cells #[.slice ao n c, .int .i64 x, .int .i64 y] 31) = W
  have hbW : Below w.heap.size w W := by rw [← hW]; exact balloc (Below.refl _ w)
  have hblk : W.heap[w.heap.size]? = some (.cells #[.slice ao n c, .int .i64 x, .int .i64 y] 31 (0, 0)) := by rw [← hW]; exact heap_alloc_new w _
  have HF : Hid (Calls Try.prog 7 #[.slice ao n c] W fun e w' => ∃ a m d v, e = .returned (.slice a m d) ∧ RdI w' a m d (zi v) ∧ Ok v ∧ v.length = m ∧ Below W.heap.size W w') := fit_any (hr.still hbW)
  have c0 : W.cell? ⟨w.heap.size, 0, none⟩ = some (.slice ao n c) := blk_cell hblk 0
  have HC1 : Hid (W.cell? ⟨w.heap.size, 1, none⟩ = some (.int .i64 x)) := blk_cell hblk 1
  have HBW : Hid (Below w.heap.size w W) := hbW
  clear hr hblk hbW
  go_enter Try.func4, Try.ntmps4
  go_wp2_with (fail)
  refine HF.out.mono ?_
  rintro e w1 ⟨a, m, d, v, rfl, hr1, ho, hl, hb1⟩
  have h16 : m ≤ 16 := by rw [← hl]; exact ho.1
  have hcap : m ≤ d := hr1.cap
  have HR1 : Hid (RdI w1 a m d (zi v)) := hr1
  have HO1 : Hid (Ok v) := ho
  have Hl1 : Hid (v.length = m) := hl
  have HB1 : Hid (Below W.heap.size W w1) := hb1
  clear hr1 ho hl hb1 c0
  go_upto_if 19 with (fail)
  go_cut [3] (fun r wx => Hid (FitR W r wx))
  case first =>
    by_cases h9 : 9 < m
    · have j1 : (m : Int) > 9 := by omega
      have j2 : (9 : Int) < (m : Int) := by omega
      have j3 : (9 : Int) ≤ (d : Int) := by omega
      have HF2 : Hid (Calls Try.prog 7 #[.slice a 9 d] w1 fun e w' => ∃ a m d v, e = .returned (.slice a m d) ∧ RdI w' a m d (zi v) ∧ Ok v ∧ v.length = m ∧ Below w1.heap.size w1 w') := fit_any (RdI.take HR1.out (m := 9) (by omega))
      go_wp2_with (fail)
      refine HF2.out.mono ?_
      rintro e w2 ⟨a2, m2, d2, v2, rfl, hr2, ho2, hl2, hb2⟩
      have HFr : Hid (FitR W (.slice a2 m2 d2) w2) := ⟨a2, m2, d2, v2, rfl, hr2, ho2, hl2, bstep HB1.out hb2⟩
      clear hr2 ho2 hl2 hb2
      go_wp2_with (fail)
      go_meet
      exact HFr.out
    · have j1 : ¬ (m : Int) > 9 := by omega
      have j2 : ¬ (9 : Int) < (m : Int) := by omega
      have HFr : Hid (FitR W (.slice a m d) w1) := ⟨a, m, d, v, rfl, HR1.out, HO1.out, Hl1.out, HB1.out⟩
      go_wp2_with (fail)
      go_meet
      exact HFr.out
  case rest =>
  clear HR1 HO1 Hl1 HB1 h16 hcap HF
  obtain ⟨a, m, d, v, rfl, hr1, ho, hl, hb1⟩ := hcut.out
  have h16 : m ≤ 16 := by rw [← hl]; exact ho.1
  have h2 := two_pow_le m h16
  have hpw := pow_val m h16
  have HR1 : Hid (RdI wc a m d (zi v)) := hr1
  have HO1 : Hid (Ok v) := ho
  have Hl1 : Hid (v.length = m) := hl
  have HB1 : Hid (Below W.heap.size W wc) := hb1
  have HCp : Hid (Calls Try.prog 10 #[.slice a m d] wc fun e w' => e = .returned (.slice (some ⟨wc.heap.size, 0, none⟩) m m) ∧ Rw w' wc.heap.size 3 (zi v) ∧ Below wc.heap.size wc w') := copied_any hr1 (by omega)
  clear hr1 ho hl hb1 hcut
  go_wp2_with (fail)
  refine HCp.out.mono ?_
  rintro e w2 ⟨rfl, hrw2, hb2⟩
  have HMi := minimals_any (Rw.rd hrw2 (n := m) (c := m) (by rw [zi_len]; exact Hl1.out) (Nat.le_refl _)) HO1.out Hl1.out
  have HB2 : Hid (Below wc.heap.size wc w2) := hb2
  clear hrw2 hb2 HCp
  go_wp2_with (fail)
  refine HMi.mono ?_
  rintro e w3 ⟨g, c', E, rfl, hp, hL, hb3⟩
  have HB3 : Hid (Below wc.heap.size wc w3) := bstep HB2.out hb3
  have HLl : Hid (Ll w3 w2.heap.size m (.slice (some ⟨g, 0, none⟩) E.length c') E) := hL
  obtain ⟨S, hSe⟩ : ∃ S, E.map El.s = S := ⟨_, rfl⟩
  rw [hSe] at hp
  have HSe : Hid (E.map El.s = S) := hSe
  have HPm : Hid (S.Perm (ML v (2 ^ v.length))) := by rw [Hl1.out]; exact hp
  have hNe : E.length ≠ 0 := by
    have h1 := ML_ne HO1.out
    rw [Hl1.out, ← hp.length_eq, ← hSe, List.length_map] at h1
    exact h1
  have HSl : Hid (S.length = E.length) := by show _ = _; rw [← hSe, List.length_map]
  have hEl : E.length ≤ 65536 := by
    have h1 := ML_len v (2 ^ m)
    rw [← hp.length_eq, ← hSe, List.length_map] at h1
    omega
  have HEat : Hid (∀ i, i < E.length → ∃ xa xc, w3.cell? ⟨g, i, none⟩ = some (.slice xa (listN (S.getD i 0) m).length xc) ∧ RdI w3 xa (listN (S.getD i 0) m).length xc (zi (listN (S.getD i 0) m)) ∧ S.getD i 0 < 2 ^ m) := fun i hi => by
    have hm := mem_getD hi
    have h1 := hL.el _ hm
    obtain ⟨xa, xc, e1⟩ := own_shape h1
    have h2 := World.ownsRow.cellAt hL.row i (by omega)
    have e3 : (E.map El.v)[i]? = some (E.getD i el0).v := by simp [List.getD, hi]
    have e4 : S.getD i 0 = (E.getD i el0).s := by rw [← hSe]; simp [List.getD, hi]
    rw [e3, e1] at h2
    rw [e1] at h1
    rw [e4]
    refine ⟨xa, xc, h2, own_rd h1, ?_⟩
    rw [← e4]
    have h5 := (ML_mem.1 (hp.mem_iff.1 (getD_mem (L := S) (i := i) (by rw [← hSe, List.length_map]; exact hi)))).1
    exact h5
  have n1 : ((E.length : Int) == 0) = false := by rw [beq_eq_false_iff_ne]; omega
  obtain ⟨N, hN⟩ : ∃ N, E.length = N := ⟨_, rfl⟩
  rw [hN] at HSl hEl HEat n1 hNe
  rw [hN]
  have HBw : Hid (Below w.heap.size w w3) := bstep HBW.out (bstep HB1.out HB3.out)
  clear hp hL hb3 hSe hN HMi HLl HSe HB2
  have HR0 : Hid (w3.ownsRow w3.heap.size 3 1 (.slice none 0 0) 0 (ints (zi []))) := ⟨rfl, .inl ⟨rfl, rfl⟩⟩
  go_wp2_with (fail)
  go_loopw [6, 7, 8, 9, 10] (fun sv i x8 x9 x10 wr => ∃ k : Nat, k ≤ N ∧ i = .int .i64 (k : Int) ∧ Hid (wr.ownsRow w3.heap.size 3 1 sv k (ints (zi (S.take k))) ∧ Below w3.heap.size w3 wr)) (fun _ i _ _ _ _ => N - (intOf i).toNat)
  case atStart => exact ⟨0, Nat.zero_le _, rfl, by simpa using HR0.out, Below.refl _ _⟩
  case round =>
  obtain ⟨k, hk, rfl, HI⟩ := hrel
  obtain ⟨sa, sc, hsv⟩ := own_shape HI.out.1
  rw [hsv] at HI
  rw [hsv]
  clear hsv
  by_cases hlt : k < N
  · have i1 : (0 : Int) ≤ (k : Int) := Int.natCast_nonneg _
    have i2 : (k : Int) < (N : Int) := by omega
    obtain ⟨xa, xc, hce, hrx, hsl⟩ := HEat.out k hlt
    have hce2 := below_at HI.out.2 hce
    obtain ⟨s, hs⟩ : ∃ s, S.getD k 0 = s := ⟨_, rfl⟩
    have Hs : Hid (S.getD k 0 = s) := hs
    rw [hs] at hce2 hrx hsl
    obtain ⟨Ls, hLs⟩ : ∃ L, listN s m = L := ⟨_, rfl⟩
    have HLlt : Hid (∀ p ∈ Ls, p < m) := fun p hp => listN_lt s m p (by rw [hLs]; exact hp)
    have HLor : Hid (orL 0 Ls = s) := by rw [← hLs]; exact orL_set m _ 0 s (setP_of h16 hsl)
    rw [hLs] at hce2 hrx
    have HRx : Hid (RdI wr xa Ls.length xc (zi Ls)) := hrx.still HI.out.2
    have Hsl : Hid (s < 2 ^ m) := hsl
    have hLl : Ls.length ≤ 16 := by have := listN_len s m; rw [hLs] at this; omega
    clear hs hce hrx hLs hsl
    obtain ⟨wO, rfl⟩ : ∃ x : World, x = wr := ⟨_, rfl⟩
    go_wp2_with (fail)
    go_loopw [8, 9] (fun b j wq => ∃ q : Nat, q ≤ Ls.length ∧ j = .int .i64 (q : Int) ∧ b = .int .i64 ((orL 0 (Ls.take q) : Nat) : Int) ∧ wO = wq) (fun _ j _ => Ls.length - (intOf j).toNat)
    case atStart => exact ⟨0, Nat.zero_le _, rfl, rfl, rfl⟩
    case round =>
    obtain ⟨q, hq, rfl, rfl, rfl⟩ := hrel
    by_cases hqlt : q < Ls.length
    · have j1 : (0 : Int) ≤ (q : Int) := Int.natCast_nonneg _
      have j2 : (q : Int) < (Ls.length : Int) := by omega
      obtain ⟨b1, o1, hxa, cx⟩ := HRx.out.at hqlt
      rw [zi_at2] at cx
      have hpm := HLlt.out _ (getD_mem hqlt)
      have hot := orL_take hqlt
      have hob : orL 0 (Ls.take q) < 65536 := orL_lt _ 0 (by decide) (fun p hp => by have := HLlt.out p (List.mem_of_mem_take hp); omega)
      obtain ⟨p, hp⟩ : ∃ p, Ls.getD q 0 = p := ⟨_, rfl⟩
      rw [hp] at cx hpm hot
      have hpv := pow_val p (by omega)
      have hp2 := two_pow_le p (by omega)
      have hor := i64_or_nat (orL 0 (Ls.take q)) (2 ^ p) (by omega) (by omega)
      have Hot : Hid (orL 0 (Ls.take (q + 1)) = orL 0 (Ls.take q) ||| 2 ^ p) := hot
      generalize orL 0 (Ls.take q) = ob at *
      have l1 : ¬ ((p : Int) < 0) := by omega
      have l2 : ¬ ((p : Int) ≥ (m : Int)) := by omega
      have l3 : (p : Int) < (m : Int) := by omega
      obtain ⟨P2, hP2⟩ : ∃ z, 2 ^ p = z := ⟨_, rfl⟩
      rw [hP2] at hpv hor Hot
      generalize ob ||| P2 = oc at *
      have Hxa : Hid (xa = some ⟨b1, o1, none⟩) := hxa
      rw [hxa] at hce2
      clear hxa hot hp hP2 hob
      go_wp2_with (fail)
      refine ⟨⟨q + 1, by omega, by go_num, ?_, (by trivial)⟩, by simp [intOf]; omega⟩
      rw [Hot.out]
    · have j2 : ¬ (q : Int) < (Ls.length : Int) := by omega
      have HqE : Hid (orL 0 (Ls.take q) = s) := by show _ = _; rw [List.take_of_length_le (by omega)]; exact HLor.out
      rw [HqE.out]
      have hs16 : s < 65536 := by have := Hsl.out; omega
      have HRs : Hid (RdI wO sa k sc (zi (S.take k))) := own_rd HI.out.1
      go_wp2_with (fail)
      go_loopw [10] (fun j wq => ∃ q : Nat, q ≤ k ∧ j = .int .i64 (q : Int) ∧ Hid (Below wO.heap.size wO wq)) (fun j _ => k - (intOf j).toNat)
      case atStart => exact ⟨0, Nat.zero_le _, rfl, Below.refl _ _⟩
      case round =>
      obtain ⟨q, hq2, rfl, HBq⟩ := hrel
      by_cases hq3 : q < k
      · have k1 : (0 : Int) ≤ (q : Int) := Int.natCast_nonneg _
        have k2 : (q : Int) < (k : Int) := by omega
        obtain ⟨sb, so, hsa, cs⟩ := (HRs.out.still HBq.out).at hq3
        have et : (S.take k).getD q 0 = S.getD q 0 := by simp [List.getD, List.getElem?_take, hq3]
        rw [zi_at2, et] at cs
        have hN1 := HSl.out
        have h1 := anti_pure HO1.out HPm.out (i := k) (j := q) (by omega) (by omega) (by omega)
        have h2' := anti_pure HO1.out HPm.out (i := q) (j := k) (by omega) (by omega) (by omega)
        have htl : S.getD q 0 < 65536 := by
          have := (ML_mem.1 (HPm.out.mem_iff.1 (getD_mem (L := S) (i := q) (by omega)))).1
          rw [Hl1.out] at this
          omega
        rw [Hs.out] at h1 h2'
        obtain ⟨t, ht⟩ : ∃ t, S.getD q 0 = t := ⟨_, rfl⟩
        rw [ht] at cs h1 h2' htl
        rw [Nat.and_comm] at h2'
        have hand := i64_and_nat s t (by omega) (by omega)
        generalize s &&& t = z at *
        have e1 : ((z : Int) == (t : Int)) = false := by rw [beq_eq_false_iff_ne]; omega
        have e2 : ((z : Int) == (s : Int)) = false := by rw [beq_eq_false_iff_ne]; omega
        have d1 := below_at (Below.refl _ _).drew cs
        rw [hsa]
        clear hsa et h1 h2' ht hN1
        go_wp2_with (fail)
        refine wp_region_held_drew (S := (fun w' => w'.cell? ⟨sb, so + q, none⟩ = some (.int .i64 (t : Int)))) (by kernel_rfl) d1 (fun hHeld => ?_)
        simp only [Act.put, List.size_toArray, List.length_cons, List.length_nil, Nat.zero_add]
        refine wpAnyH_take (i := 0) (v := .int .i64 (s : Int)) rfl (by kernel_rfl) (by kernel_rfl) (by kernel_rfl) (fun _ _ _ h => h) (Or.inl ⟨by rfl, fun w' hS => by go_simp⟩) hHeld ?_
        simp only [Act.put, List.getElem_toArray, List.getElem_cons_zero, List.getElem_cons_succ, List.setIfInBounds_toArray, List.set_cons_zero, List.set_cons_succ]
        refine wpAnyH_take (i := 1) (v := .slice (some ⟨sb, so, none⟩) k sc) rfl (by kernel_rfl) (by kernel_rfl) (by kernel_rfl) (fun _ _ _ h => h) (Or.inl ⟨by rfl, fun w' hS => by go_simp⟩) hHeld ?_
        simp only [Act.put, List.getElem_toArray, List.getElem_cons_zero, List.getElem_cons_succ, List.setIfInBounds_toArray, List.set_cons_zero, List.set_cons_succ]
        refine wpAnyH_take (i := 2) (v := .int .i64 (q : Int)) rfl (by kernel_rfl) (by kernel_rfl) (by kernel_rfl) (fun _ _ _ h => h) (Or.inl ⟨by rfl, fun w' hS => by go_simp⟩) hHeld ?_
        simp only [Act.put, List.getElem_toArray, List.getElem_cons_zero, List.getElem_cons_succ, List.setIfInBounds_toArray, List.set_cons_zero, List.set_cons_succ]
        refine wpAnyH_take (i := 3) (v := .pointer (some ⟨sb, so + q, none⟩)) rfl (by kernel_rfl) (by kernel_rfl) (by kernel_rfl) (fun _ _ _ h => h) (Or.inl ⟨by rfl, fun w' hS => by go_simp⟩) hHeld ?_
        simp only [Act.put, List.getElem_toArray, List.getElem_cons_zero, List.getElem_cons_succ, List.setIfInBounds_toArray, List.set_cons_zero, List.set_cons_succ]
        refine wpAnyH_take (i := 4) (v := .int .i64 (t : Int)) rfl (by kernel_rfl) (by kernel_rfl) (by kernel_rfl) (fun _ _ _ h => h) (Or.inl ⟨by rfl, fun w' hS => by go_simp⟩) hHeld ?_
        simp only [Act.put, List.getElem_toArray, List.getElem_cons_zero, List.getElem_cons_succ, List.setIfInBounds_toArray, List.set_cons_zero, List.set_cons_succ]
        refine wpAnyH_take (i := 5) (v := .int .i64 (z : Int)) rfl (by kernel_rfl) (by kernel_rfl) (by kernel_rfl) (fun _ _ _ h => h) (Or.inl ⟨by rfl, fun w' hS => by go_simp⟩) hHeld ?_
        simp only [Act.put, List.getElem_toArray, List.getElem_cons_zero, List.getElem_cons_succ, List.setIfInBounds_toArray, List.set_cons_zero, List.set_cons_succ]
        refine wpAnyH_take (i := 6) (v := .slice (some ⟨sb, so, none⟩) k sc) rfl (by kernel_rfl) (by kernel_rfl) (by kernel_rfl) (fun _ _ _ h => h) (Or.inl ⟨by rfl, fun w' hS => by go_simp⟩) hHeld ?_
        simp only [Act.put, List.getElem_toArray, List.getElem_cons_zero, List.getElem_cons_succ, List.setIfInBounds_toArray, List.set_cons_zero, List.set_cons_succ]
        refine wpAnyH_take (i := 7) (v := .int .i64 (q : Int)) rfl (by kernel_rfl) (by kernel_rfl) (by kernel_rfl) (fun _ _ _ h => h) (Or.inl ⟨by rfl, fun w' hS => by go_simp⟩) hHeld ?_
        simp only [Act.put, List.getElem_toArray, List.getElem_cons_zero, List.getElem_cons_succ, List.setIfInBounds_toArray, List.set_cons_zero, List.set_cons_succ]
        refine wpAnyH_take (i := 8) (v := .pointer (some ⟨sb, so + q, none⟩)) rfl (by kernel_rfl) (by kernel_rfl) (by kernel_rfl) (fun _ _ _ h => h) (Or.inl ⟨by rfl, fun w' hS => by go_simp⟩) hHeld ?_
        simp only [Act.put, List.getElem_toArray, List.getElem_cons_zero, List.getElem_cons_succ, List.setIfInBounds_toArray, List.set_cons_zero, List.set_cons_succ]
        refine wpAnyH_take (i := 9) (v := .int .i64 (t : Int)) rfl (by kernel_rfl) (by kernel_rfl) (by kernel_rfl) (fun _ _ _ h => h) (Or.inl ⟨by rfl, fun w' hS => by go_simp⟩) hHeld ?_
        simp only [Act.put, List.getElem_toArray, List.getElem_cons_zero, List.getElem_cons_succ, List.setIfInBounds_toArray, List.set_cons_zero, List.set_cons_succ]
        refine wpAnyH_take (i := 10) (v := .bool false) rfl (by kernel_rfl) (by kernel_rfl) (by kernel_rfl) (fun _ _ _ h => h) (Or.inl ⟨by rfl, fun w' hS => by go_simp⟩) hHeld ?_
        simp only [Act.put, List.getElem_toArray, List.getElem_cons_zero, List.getElem_cons_succ, List.setIfInBounds_toArray, List.set_cons_zero, List.set_cons_succ]
        refine wpAnyH_take (i := 11) (v := .bool false) rfl (by kernel_rfl) (by kernel_rfl) (by kernel_rfl) (fun _ _ _ h => h) (Or.inl ⟨by rfl, fun w' hS => by go_simp⟩) hHeld ?_
        simp only [Act.put, List.getElem_toArray, List.getElem_cons_zero, List.getElem_cons_succ, List.setIfInBounds_toArray, List.set_cons_zero, List.set_cons_succ]
        refine wpAnyH_take (i := 12) (v := .int .i64 (s : Int)) rfl (by kernel_rfl) (by kernel_rfl) (by kernel_rfl) (fun _ _ _ h => h) (Or.inl ⟨by rfl, fun w' hS => by go_simp⟩) hHeld ?_
        simp only [Act.put, List.getElem_toArray, List.getElem_cons_zero, List.getElem_cons_succ, List.setIfInBounds_toArray, List.set_cons_zero, List.set_cons_succ]
        refine wpAnyH_take (i := 13) (v := .slice (some ⟨sb, so, none⟩) k sc) rfl (by kernel_rfl) (by kernel_rfl) (by kernel_rfl) (fun _ _ _ h => h) (Or.inl ⟨by rfl, fun w' hS => by go_simp⟩) hHeld ?_
        simp only [Act.put, List.getElem_toArray, List.getElem_cons_zero, List.getElem_cons_succ, List.setIfInBounds_toArray, List.set_cons_zero, List.set_cons_succ]
        refine wpAnyH_take (i := 14) (v := .int .i64 (q : Int)) rfl (by kernel_rfl) (by kernel_rfl) (by kernel_rfl) (fun _ _ _ h => h) (Or.inl ⟨by rfl, fun w' hS => by go_simp⟩) hHeld ?_
        simp only [Act.put, List.getElem_toArray, List.getElem_cons_zero, List.getElem_cons_succ, List.setIfInBounds_toArray, List.set_cons_zero, List.set_cons_succ]
        refine wpAnyH_take (i := 15) (v := .pointer (some ⟨sb, so + q, none⟩)) rfl (by kernel_rfl) (by kernel_rfl) (by kernel_rfl) (fun _ _ _ h => h) (Or.inl ⟨by rfl, fun w' hS => by go_simp⟩) hHeld ?_
        simp only [Act.put, List.getElem_toArray, List.getElem_cons_zero, List.getElem_cons_succ, List.setIfInBounds_toArray, List.set_cons_zero, List.set_cons_succ]
        refine wpAnyH_take (i := 16) (v := .int .i64 (t : Int)) rfl (by kernel_rfl) (by kernel_rfl) (by kernel_rfl) (fun _ _ _ h => h) (Or.inl ⟨by rfl, fun w' hS => by go_simp⟩) hHeld ?_
        simp only [Act.put, List.getElem_toArray, List.getElem_cons_zero, List.getElem_cons_succ, List.setIfInBounds_toArray, List.set_cons_zero, List.set_cons_succ]
        refine wpAnyH_take (i := 17) (v := .int .i64 (z : Int)) rfl (by kernel_rfl) (by kernel_rfl) (by kernel_rfl) (fun _ _ _ h => h) (Or.inl ⟨by rfl, fun w' hS => by go_simp⟩) hHeld ?_
        simp only [Act.put, List.getElem_toArray, List.getElem_cons_zero, List.getElem_cons_succ, List.setIfInBounds_toArray, List.set_cons_zero, List.set_cons_succ]
        refine wpAnyH_take (i := 18) (v := .int .i64 (s : Int)) rfl (by kernel_rfl) (by kernel_rfl) (by kernel_rfl) (fun _ _ _ h => h) (Or.inl ⟨by rfl, fun w' hS => by go_simp⟩) hHeld ?_
        simp only [Act.put, List.getElem_toArray, List.getElem_cons_zero, List.getElem_cons_succ, List.setIfInBounds_toArray, List.set_cons_zero, List.set_cons_succ]
        refine wpAnyH_take (i := 19) (v := .bool false) rfl (by kernel_rfl) (by kernel_rfl) (by kernel_rfl) (fun _ _ _ h => h) (Or.inl ⟨by rfl, fun w' hS => by go_simp⟩) hHeld ?_
        simp only [Act.put, List.getElem_toArray, List.getElem_cons_zero, List.getElem_cons_succ, List.setIfInBounds_toArray, List.set_cons_zero, List.set_cons_succ]
        refine wpAnyH_take (i := 20) (v := .bool false) rfl (by kernel_rfl) (by kernel_rfl) (by kernel_rfl) (fun _ _ _ h => h) (Or.inl ⟨by rfl, fun w' hS => by go_simp⟩) hHeld ?_
        simp only [Act.put, List.getElem_toArray, List.getElem_cons_zero, List.getElem_cons_succ, List.setIfInBounds_toArray, List.set_cons_zero, List.set_cons_succ]
        refine wpAnyH_done (by kernel_rfl) ?_ _
        clear hHeld
        go_wp2_with (fail)
        exact ⟨⟨q + 1, by omega, by go_num, HBq.out.trans ((Below.refl _ _).drew)⟩, by simp [intOf]; omega⟩
      · have k2 : ¬ (q : Int) < (k : Int) := by omega
        have HOw : Hid (wr.ownsRow w3.heap.size 3 1 (.slice sa k sc) k (ints (zi (S.take k)))) := own_still HI.out.1 HBq.out
        have HBx : Hid (Below w3.heap.size w3 wr) := bstep HI.out.2 HBq.out
        have HTk : Hid (S.take (k + 1) = S.take k ++ [s]) := by
          show _ = _
          rw [List.take_add_one, ← Hs.out]
          simp [List.getD, show k < S.length by have := HSl.out; omega]
        go_wp2_with (first
          | (at_builtin; refine app_i (w0 := w3) rfl (.tmp 109) (.tmp 111) rfl (.slice sa k sc) k (zi (S.take k)) rfl (HOw.out.alloc _) (balloc HBx.out) _ 1 1 [(s : Int)] rfl (Rw.rd (blk_one _) rfl (Nat.le_refl _)) (by omega) ?_; intro a2 w5 HO2 HB5)
          | fail)
        refine ⟨⟨k + 1, by omega, by go_num, ?_⟩, by simp [intOf]; omega⟩
        have h3 := HO2.out
        refine ⟨?_, HB5.out⟩
        rw [HTk.out, zi_snoc]
        exact h3
  · have i2 : ¬ (k : Int) < (N : Int) := by omega
    obtain rfl : k = N := by omega
    have HTk : Hid (S.take k = S) := by show _ = _; exact List.take_of_length_le (by rw [HSl.out]; exact Nat.le_refl _)
    have HRs : Hid (RdI wr sa k sc (zi S)) := by have := own_rd HI.out.1; rw [HTk.out] at this; exact this
    have c1 : wr.cell? ⟨w.heap.size, 1, none⟩ = some (.int .i64 x) := below_at HI.out.2 (below_at HB3.out (below_at HB1.out HC1.out))
    obtain ⟨M, hM⟩ : ∃ M, M = 2 ^ m := ⟨_, rfl⟩
    have hM1 : 0 < M := by rw [hM]; exact Nat.two_pow_pos m
    rw [← hM] at hpw h2
    have HAnd := i64_and_int x (M - 1) (by omega)
    have hA1 : (BitVec.ofInt 64 x).toNat &&& (M - 1) ≤ M - 1 := Nat.and_le_right
    generalize (BitVec.ofInt 64 x).toNat &&& (M - 1) = A at *
    have eM : ((M - 1 : Nat) : Int) = (M : Int) - 1 := by omega
    rw [eM] at HAnd
    have HAl : Hid (A < 2 ^ v.length) := by show _ < _; rw [Hl1.out, ← hM]; omega
    have HGr : Hid (S.any (fun s => decide (A &&& s = s)) = wins v A) := ground_pure HO1.out HPm.out HAl.out
    have HWi : Hid (∀ V, Below wr.heap.size wr V → Calls Try.prog 11 #[.slice a m d, .int .i64 (A : Int)] V fun e w' => e = .returned (.bool (wins v A)) ∧ Below V.heap.size V w') := fun V hV => wins_any (((HR1.out.still HB3.out).still HI.out.2).still hV) HO1.out Hl1.out A (by rw [← Hl1.out]; exact HAl.out)
    have HBf : Hid (Below w.heap.size w wr) := bstep HBw.out HI.out.2
    obtain ⟨wO, rfl⟩ : ∃ x : World, x = wr := ⟨_, rfl⟩
    clear hM eM HI HTk HEat
    obtain ⟨N, hNk⟩ : ∃ N, k = N := ⟨_, rfl⟩
    subst hNk
    go_wp2_with (fail)
    go_loopw [12, 13] (fun h j wq => ∃ q : Nat, q ≤ k ∧ j = .int .i64 (q : Int) ∧ h = .bool ((S.take q).any (fun s => decide (A &&& s = s))) ∧ Hid (Below wO.heap.size wO wq)) (fun _ j _ => k - (intOf j).toNat)
    case atStart => exact ⟨0, Nat.zero_le _, rfl, rfl, Below.refl _ _⟩
    case round =>
    obtain ⟨q, hq, rfl, rfl, HBq⟩ := hrel
    by_cases hqk : q < k
    · have k1 : (0 : Int) ≤ (q : Int) := Int.natCast_nonneg _
      have k2 : (q : Int) < (k : Int) := by omega
      obtain ⟨sb, so, hsa, cs⟩ := (HRs.out.still HBq.out).at hqk
      rw [zi_at2] at cs
      have hql : q < S.length := by rw [HSl.out]; exact hqk
      have Hany : Hid ((S.take (q + 1)).any (fun s => decide (A &&& s = s)) = ((S.take q).any (fun s => decide (A &&& s = s)) || decide (A &&& S.getD q 0 = S.getD q 0))) := by
        show _ = _
        rw [List.take_add_one, List.any_append]
        simp [List.getD, hql]
      have htl : S.getD q 0 < 65536 := by
        have := (ML_mem.1 (HPm.out.mem_iff.1 (getD_mem hql))).1
        rw [Hl1.out] at this
        have := two_pow_le m h16
        omega
      generalize S.getD q 0 = t at *
      have hand := i64_and_nat A t (by omega) (by omega)
      generalize A &&& t = z at *
      have d1 := below_at (Below.refl _ _).drew cs
      rw [hsa]
      clear hsa hql
      generalize (S.take q).any (fun s => decide (A &&& s = s)) = hb at *
      cases hb with
      | true =>
        have HN : Hid ((S.take (q + 1)).any (fun s => decide (A &&& s = s)) = true) := by show _ = _; rw [Hany.out]; rfl
        go_wp2_with (fail)
        refine wp_region_held_drew (S := (fun w' => w'.cell? ⟨sb, so + q, none⟩ = some (.int .i64 (t : Int)))) (by kernel_rfl) d1 (fun hHeld => ?_)
        simp only [Act.put, List.size_toArray, List.length_cons, List.length_nil, Nat.zero_add]
        refine wpAnyH_take (i := 0) (v := .bool true) rfl (by kernel_rfl) (by kernel_rfl) (by kernel_rfl) (fun _ _ _ h => h) (Or.inl ⟨by rfl, fun w' hS => by go_simp⟩) hHeld ?_
        simp only [Act.put, List.getElem_toArray, List.getElem_cons_zero, List.getElem_cons_succ, List.setIfInBounds_toArray, List.set_cons_zero, List.set_cons_succ]
        refine wpAnyH_take (i := 1) (v := .bool true) rfl (by kernel_rfl) (by kernel_rfl) (by kernel_rfl) (fun _ _ _ h => h) (Or.inl ⟨by rfl, fun w' hS => by go_simp⟩) hHeld ?_
        simp only [Act.put, List.getElem_toArray, List.getElem_cons_zero, List.getElem_cons_succ, List.setIfInBounds_toArray, List.set_cons_zero, List.set_cons_succ]
        refine wpAnyH_take (i := 2) (v := undef) rfl (by kernel_rfl) (by kernel_rfl) (by kernel_rfl) (fun _ _ _ h => h) (Or.inr ⟨by rfl, rfl⟩) hHeld ?_
        simp only [Act.put, List.getElem_toArray, List.getElem_cons_zero, List.getElem_cons_succ, List.setIfInBounds_toArray, List.set_cons_zero, List.set_cons_succ]
        refine wpAnyH_take (i := 3) (v := undef) rfl (by kernel_rfl) (by kernel_rfl) (by kernel_rfl) (fun _ _ _ h => h) (Or.inr ⟨by rfl, rfl⟩) hHeld ?_
        simp only [Act.put, List.getElem_toArray, List.getElem_cons_zero, List.getElem_cons_succ, List.setIfInBounds_toArray, List.set_cons_zero, List.set_cons_succ]
        refine wpAnyH_take (i := 4) (v := undef) rfl (by kernel_rfl) (by kernel_rfl) (by kernel_rfl) (fun _ _ _ h => h) (Or.inr ⟨by rfl, rfl⟩) hHeld ?_
        simp only [Act.put, List.getElem_toArray, List.getElem_cons_zero, List.getElem_cons_succ, List.setIfInBounds_toArray, List.set_cons_zero, List.set_cons_succ]
        refine wpAnyH_take (i := 5) (v := undef) rfl (by kernel_rfl) (by kernel_rfl) (by kernel_rfl) (fun _ _ _ h => h) (Or.inr ⟨by rfl, rfl⟩) hHeld ?_
        simp only [Act.put, List.getElem_toArray, List.getElem_cons_zero, List.getElem_cons_succ, List.setIfInBounds_toArray, List.set_cons_zero, List.set_cons_succ]
        refine wpAnyH_take (i := 6) (v := undef) rfl (by kernel_rfl) (by kernel_rfl) (by kernel_rfl) (fun _ _ _ h => h) (Or.inr ⟨by rfl, rfl⟩) hHeld ?_
        simp only [Act.put, List.getElem_toArray, List.getElem_cons_zero, List.getElem_cons_succ, List.setIfInBounds_toArray, List.set_cons_zero, List.set_cons_succ]
        refine wpAnyH_take (i := 7) (v := undef) rfl (by kernel_rfl) (by kernel_rfl) (by kernel_rfl) (fun _ _ _ h => h) (Or.inr ⟨by rfl, rfl⟩) hHeld ?_
        simp only [Act.put, List.getElem_toArray, List.getElem_cons_zero, List.getElem_cons_succ, List.setIfInBounds_toArray, List.set_cons_zero, List.set_cons_succ]
        refine wpAnyH_take (i := 8) (v := undef) rfl (by kernel_rfl) (by kernel_rfl) (by kernel_rfl) (fun _ _ _ h => h) (Or.inr ⟨by rfl, rfl⟩) hHeld ?_
        simp only [Act.put, List.getElem_toArray, List.getElem_cons_zero, List.getElem_cons_succ, List.setIfInBounds_toArray, List.set_cons_zero, List.set_cons_succ]
        refine wpAnyH_take (i := 9) (v := undef) rfl (by kernel_rfl) (by kernel_rfl) (by kernel_rfl) (fun _ _ _ h => h) (Or.inr ⟨by rfl, rfl⟩) hHeld ?_
        simp only [Act.put, List.getElem_toArray, List.getElem_cons_zero, List.getElem_cons_succ, List.setIfInBounds_toArray, List.set_cons_zero, List.set_cons_succ]
        refine wpAnyH_take (i := 10) (v := undef) rfl (by kernel_rfl) (by kernel_rfl) (by kernel_rfl) (fun _ _ _ h => h) (Or.inr ⟨by rfl, rfl⟩) hHeld ?_
        simp only [Act.put, List.getElem_toArray, List.getElem_cons_zero, List.getElem_cons_succ, List.setIfInBounds_toArray, List.set_cons_zero, List.set_cons_succ]
        refine wpAnyH_take (i := 11) (v := undef) rfl (by kernel_rfl) (by kernel_rfl) (by kernel_rfl) (fun _ _ _ h => h) (Or.inr ⟨by rfl, rfl⟩) hHeld ?_
        simp only [Act.put, List.getElem_toArray, List.getElem_cons_zero, List.getElem_cons_succ, List.setIfInBounds_toArray, List.set_cons_zero, List.set_cons_succ]
        refine wpAnyH_take (i := 12) (v := undef) rfl (by kernel_rfl) (by kernel_rfl) (by kernel_rfl) (fun _ _ _ h => h) (Or.inr ⟨by rfl, rfl⟩) hHeld ?_
        simp only [Act.put, List.getElem_toArray, List.getElem_cons_zero, List.getElem_cons_succ, List.setIfInBounds_toArray, List.set_cons_zero, List.set_cons_succ]
        refine wpAnyH_take (i := 13) (v := .bool true) rfl (by kernel_rfl) (by kernel_rfl) (by kernel_rfl) (fun _ _ _ h => h) (Or.inl ⟨by rfl, fun w' hS => by go_simp⟩) hHeld ?_
        simp only [Act.put, List.getElem_toArray, List.getElem_cons_zero, List.getElem_cons_succ, List.setIfInBounds_toArray, List.set_cons_zero, List.set_cons_succ]
        refine wpAnyH_take (i := 14) (v := .bool true) rfl (by kernel_rfl) (by kernel_rfl) (by kernel_rfl) (fun _ _ _ h => h) (Or.inl ⟨by rfl, fun w' hS => by go_simp⟩) hHeld ?_
        simp only [Act.put, List.getElem_toArray, List.getElem_cons_zero, List.getElem_cons_succ, List.setIfInBounds_toArray, List.set_cons_zero, List.set_cons_succ]
        refine wpAnyH_done (by kernel_rfl) ?_ _
        clear hHeld
        go_wp2_with (fail)
        refine ⟨⟨q + 1, by omega, by go_num, ?_, HBq.out.trans ((Below.refl _ _).drew)⟩, by simp [intOf]; omega⟩
        rw [HN.out]
      | false =>
        have HN : Hid ((S.take (q + 1)).any (fun s => decide (A &&& s = s)) = decide (z = t)) := by show _ = _; rw [Hany.out]; rfl
        go_wp2_with (fail)
        refine wp_region_held_drew (S := (fun w' => w'.cell? ⟨sb, so + q, none⟩ = some (.int .i64 (t : Int)))) (by kernel_rfl) d1 (fun hHeld => ?_)
        simp only [Act.put, List.size_toArray, List.length_cons, List.length_nil, Nat.zero_add]
        refine wpAnyH_take (i := 0) (v := .bool false) rfl (by kernel_rfl) (by kernel_rfl) (by kernel_rfl) (fun _ _ _ h => h) (Or.inl ⟨by rfl, fun w' hS => by go_simp⟩) hHeld ?_
        simp only [Act.put, List.getElem_toArray, List.getElem_cons_zero, List.getElem_cons_succ, List.setIfInBounds_toArray, List.set_cons_zero, List.set_cons_succ]
        refine wpAnyH_take (i := 1) (v := .bool false) rfl (by kernel_rfl) (by kernel_rfl) (by kernel_rfl) (fun _ _ _ h => h) (Or.inl ⟨by rfl, fun w' hS => by go_simp⟩) hHeld ?_
        simp only [Act.put, List.getElem_toArray, List.getElem_cons_zero, List.getElem_cons_succ, List.setIfInBounds_toArray, List.set_cons_zero, List.set_cons_succ]
        refine wpAnyH_take (i := 2) (v := .int .i64 (A : Int)) rfl (by kernel_rfl) (by kernel_rfl) (by kernel_rfl) (fun _ _ _ h => h) (Or.inl ⟨by rfl, fun w' hS => by go_simp⟩) hHeld ?_
        simp only [Act.put, List.getElem_toArray, List.getElem_cons_zero, List.getElem_cons_succ, List.setIfInBounds_toArray, List.set_cons_zero, List.set_cons_succ]
        refine wpAnyH_take (i := 3) (v := .slice (some ⟨sb, so, none⟩) k sc) rfl (by kernel_rfl) (by kernel_rfl) (by kernel_rfl) (fun _ _ _ h => h) (Or.inl ⟨by rfl, fun w' hS => by go_simp⟩) hHeld ?_
        simp only [Act.put, List.getElem_toArray, List.getElem_cons_zero, List.getElem_cons_succ, List.setIfInBounds_toArray, List.set_cons_zero, List.set_cons_succ]
        refine wpAnyH_take (i := 4) (v := .int .i64 (q : Int)) rfl (by kernel_rfl) (by kernel_rfl) (by kernel_rfl) (fun _ _ _ h => h) (Or.inl ⟨by rfl, fun w' hS => by go_simp⟩) hHeld ?_
        simp only [Act.put, List.getElem_toArray, List.getElem_cons_zero, List.getElem_cons_succ, List.setIfInBounds_toArray, List.set_cons_zero, List.set_cons_succ]
        refine wpAnyH_take (i := 5) (v := .pointer (some ⟨sb, so + q, none⟩)) rfl (by kernel_rfl) (by kernel_rfl) (by kernel_rfl) (fun _ _ _ h => h) (Or.inl ⟨by rfl, fun w' hS => by go_simp⟩) hHeld ?_
        simp only [Act.put, List.getElem_toArray, List.getElem_cons_zero, List.getElem_cons_succ, List.setIfInBounds_toArray, List.set_cons_zero, List.set_cons_succ]
        refine wpAnyH_take (i := 6) (v := .int .i64 (t : Int)) rfl (by kernel_rfl) (by kernel_rfl) (by kernel_rfl) (fun _ _ _ h => h) (Or.inl ⟨by rfl, fun w' hS => by go_simp⟩) hHeld ?_
        simp only [Act.put, List.getElem_toArray, List.getElem_cons_zero, List.getElem_cons_succ, List.setIfInBounds_toArray, List.set_cons_zero, List.set_cons_succ]
        refine wpAnyH_take (i := 7) (v := .int .i64 (z : Int)) rfl (by kernel_rfl) (by kernel_rfl) (by kernel_rfl) (fun _ _ _ h => h) (Or.inl ⟨by rfl, fun w' hS => by go_simp⟩) hHeld ?_
        simp only [Act.put, List.getElem_toArray, List.getElem_cons_zero, List.getElem_cons_succ, List.setIfInBounds_toArray, List.set_cons_zero, List.set_cons_succ]
        refine wpAnyH_take (i := 8) (v := .slice (some ⟨sb, so, none⟩) k sc) rfl (by kernel_rfl) (by kernel_rfl) (by kernel_rfl) (fun _ _ _ h => h) (Or.inl ⟨by rfl, fun w' hS => by go_simp⟩) hHeld ?_
        simp only [Act.put, List.getElem_toArray, List.getElem_cons_zero, List.getElem_cons_succ, List.setIfInBounds_toArray, List.set_cons_zero, List.set_cons_succ]
        refine wpAnyH_take (i := 9) (v := .int .i64 (q : Int)) rfl (by kernel_rfl) (by kernel_rfl) (by kernel_rfl) (fun _ _ _ h => h) (Or.inl ⟨by rfl, fun w' hS => by go_simp⟩) hHeld ?_
        simp only [Act.put, List.getElem_toArray, List.getElem_cons_zero, List.getElem_cons_succ, List.setIfInBounds_toArray, List.set_cons_zero, List.set_cons_succ]
        refine wpAnyH_take (i := 10) (v := .pointer (some ⟨sb, so + q, none⟩)) rfl (by kernel_rfl) (by kernel_rfl) (by kernel_rfl) (fun _ _ _ h => h) (Or.inl ⟨by rfl, fun w' hS => by go_simp⟩) hHeld ?_
        simp only [Act.put, List.getElem_toArray, List.getElem_cons_zero, List.getElem_cons_succ, List.setIfInBounds_toArray, List.set_cons_zero, List.set_cons_succ]
        refine wpAnyH_take (i := 11) (v := .int .i64 (t : Int)) rfl (by kernel_rfl) (by kernel_rfl) (by kernel_rfl) (fun _ _ _ h => h) (Or.inl ⟨by rfl, fun w' hS => by go_simp⟩) hHeld ?_
        simp only [Act.put, List.getElem_toArray, List.getElem_cons_zero, List.getElem_cons_succ, List.setIfInBounds_toArray, List.set_cons_zero, List.set_cons_succ]
        refine wpAnyH_take (i := 12) (v := .bool (decide (z = t))) rfl (by kernel_rfl) (by kernel_rfl) (by kernel_rfl) (fun _ _ _ h => h) (Or.inl ⟨by rfl, fun w' hS => by (go_simp; try (by_cases hzt : z = t <;> simp [hzt] <;> omega))⟩) hHeld ?_
        simp only [Act.put, List.getElem_toArray, List.getElem_cons_zero, List.getElem_cons_succ, List.setIfInBounds_toArray, List.set_cons_zero, List.set_cons_succ]
        refine wpAnyH_take (i := 13) (v := .bool (decide (z = t))) rfl (by kernel_rfl) (by kernel_rfl) (by kernel_rfl) (fun _ _ _ h => h) (Or.inl ⟨by rfl, fun w' hS => by go_simp⟩) hHeld ?_
        simp only [Act.put, List.getElem_toArray, List.getElem_cons_zero, List.getElem_cons_succ, List.setIfInBounds_toArray, List.set_cons_zero, List.set_cons_succ]
        refine wpAnyH_take (i := 14) (v := .bool (decide (z = t))) rfl (by kernel_rfl) (by kernel_rfl) (by kernel_rfl) (fun _ _ _ h => h) (Or.inl ⟨by rfl, fun w' hS => by go_simp⟩) hHeld ?_
        simp only [Act.put, List.getElem_toArray, List.getElem_cons_zero, List.getElem_cons_succ, List.setIfInBounds_toArray, List.set_cons_zero, List.set_cons_succ]
        refine wpAnyH_done (by kernel_rfl) ?_ _
        clear hHeld
        go_wp2_with (fail)
        refine ⟨⟨q + 1, by omega, by go_num, ?_, HBq.out.trans ((Below.refl _ _).drew)⟩, by simp [intOf]; omega⟩
        rw [HN.out]
    · have k2 : ¬ (q : Int) < (k : Int) := by omega
      have Hfin : Hid ((S.take q).any (fun s => decide (A &&& s = s)) = wins v A) := by
        show _ = _
        rw [List.take_of_length_le (by rw [HSl.out]; omega)]
        exact HGr.out
      rw [Hfin.out]
      generalize wins v A = wb at *
      go_wp2_with (fail)
      refine (HWi.out wr HBq.out).mono ?_
      rintro e w6 ⟨rfl, hb6⟩
      have HB6 : Hid (Below w.heap.size w w6) := bstep HBf.out (bstep HBq.out hb6)
      clear hb6
      go_wp2
      go_ret
      exact ⟨by simp, HB6.out⟩
end
end Go.Proofs.Ytapenemfnngniaa.Qm
