import Derived.Test.YtapenemfnngniaaPj3
namespace Go.Proofs.Ytapenemfnngniaa.Qm
open Go.RowKit Mb
set_option linter.unusedVariables false
set_option maxRecDepth 100000
set_option linter.unusedSimpArgs false
def ML (v : List Nat) (k : Nat) : List Nat := (List.range k).filter (mn v)
theorem ML_succ (v : List Nat) (k : Nat) : ML v (k + 1) = if mn v k then ML v k ++ [k] else ML v k := by
  unfold ML
  rw [List.range_succ, List.filter_append]
  simp only [List.filter_cons, List.filter_nil]
  split <;> simp
theorem ML_len (v : List Nat) (k : Nat) : (ML v k).length ≤ k := Nat.le_trans (List.length_filter_le _ _) (by simp)
theorem ML_mem {v : List Nat} {k s : Nat} : s ∈ ML v k ↔ s < k ∧ mn v s = true := by
  unfold ML
  rw [List.mem_filter, List.mem_range]
theorem ML_ne {v : List Nat} (h : Ok v) : (ML v (2 ^ v.length)).length ≠ 0 := fun e => by
  have h2 := Nat.two_pow_pos v.length
  obtain ⟨s, h1, _, h3⟩ := mn_below h.1 (2 ^ v.length - 1) (2 ^ v.length - 1) (Nat.le_refl _) (by omega) (wins_full h.2.2)
  have := ML_mem.2 ⟨h3, h1⟩
  rw [List.eq_nil_of_length_eq_zero e] at this
  cases this
theorem ML_nodup (v : List Nat) (k : Nat) : (ML v k).Nodup := List.Nodup.sublist List.filter_sublist List.nodup_range
section
variable {w w' W : World} {B : Nat}
theorem own_eshape {t s n : Nat} {v : Value} {l : List Value} (h : w.ownsRow B t s v n l) : ∃ a c, v = .slice a n c := own_shape h
structure MlS (w : World) (n : Nat) (v : List Nat) (gb k : Nat) (l : Value) (wr : World) : Prop where
  ex : ∃ E, E.map El.s = ML v k ∧ Ll wr w.heap.size n l E
  bel : Below w.heap.size w wr
  rw_ : Rw wr gb 72 (bl v)
set_option maxHeartbeats 8000000 in
theorem minimals_any2 {ao : Option Addr} {n c : Nat} {v : List Nat} (hr : RdI w ao n c (zi v)) (ho : Ok v) (hl : v.length = n) : Calls Try.prog 9 #[.slice ao n c] w fun e w' => ∃ g c' E, e = .returned (.tuple #[.slice (some ⟨g, 0, none⟩) E.length c', .int .i64 0]) ∧ (E.map El.s).Perm (ML v (2 ^ n)) ∧ Ll w' w.heap.size n (.slice (some ⟨g, 0, none⟩) E.length c') E ∧ Below w.heap.size w w' ∧ (E.map El.s).Pairwise (fun s t => ¬ cmpL (zi (listN t n)) (zi (listN s n)) < 0) := by
  have h16 : n ≤ 16 := by rw [← hl]; exact ho.1
  have h2 := two_pow_le n h16
  have HCt := counted_any hr
  rw [okI_zi ho, nv_zi] at HCt
  have HO : Hid (Ok v) := ho
  have Hl : Hid (v.length = n) := hl
  have HNe : Hid ((ML v (2 ^ n)).length ≠ 0) := by rw [← hl]; exact ML_ne ho
  clear hr ho
  go_enter Try.func9, Try.ntmps9
  go_wp2_with (fail)
  refine HCt.mono ?_
  rintro e w1 ⟨r, rfl, hr19, hrb, hb1⟩
  obtain rfl := hrb trivial
  obtain ⟨A1, V, hA1, HTh, hV, HVr, HVb⟩ := newbal w1 (bl v) hr19
  have HB1 : Hid (Below w.heap.size w w1) := hb1
  have HBal : Hid (Bal V w1.heap.size v) := Rw.bal HVr.out (by rw [Hl.out]; exact h16)
  have HBV : Hid (Below w.heap.size w V) := bstep HB1.out HVb.out
  have Hlo : Hid (w.heap.size ≤ w1.heap.size) := hb1.size
  have HSe : Hid (Calls Try.prog 34 #[.pointer (some ⟨w1.heap.size, 0, none⟩)] V fun e w' => e = .returned (.int .u64 ((2 ^ n : Nat) : Int)) ∧ V = w') := by
    have := sets_any HBal.out (by rw [Hl.out]; exact h16)
    rw [Hl.out] at this
    exact this
  have HS0 : Hid (MlS w n v w1.heap.size 0 (.slice none 0 0) V) := ⟨⟨[], rfl, ⟨rfl, .inl ⟨rfl, rfl⟩⟩, fun e he => by cases he⟩, HBV.out, HVr.out⟩
  clear hb1 hrb HCt
  go_wp2_with (first
    | (refine store_mid 72 (.tmp 4) (.tmp 11) (xs := bl v) HTh.out (info_bl hr19) rfl rfl rfl rfl ?_; rw [hV])
    | fail)
  refine HSe.out.mono ?_
  rintro e w2 ⟨rfl, rfl⟩
  generalize w1.heap.size = gb at *
  obtain ⟨M, hM⟩ : ∃ M, 2 ^ n = M := ⟨_, rfl⟩
  have HM : Hid (2 ^ n = M) := hM
  rw [hM] at h2 HNe
  rw [hM]
  clear hM hV hA1 HTh HVr HVb HBal HBV HSe HB1
  go_wp2_with (fail)
  go_loopw [6, 7, 16] (fun l s i wr => ∃ k : Nat, k ≤ M ∧ i = .int .u64 (k : Int) ∧ Hid (MlS w n v gb k l wr)) (fun _ _ i _ => M - (intOf i).toNat)
  case atStart => exact ⟨0, Nat.zero_le _, rfl, HS0.out⟩
  case round =>
    obtain ⟨k, hk, rfl, HI⟩ := hrel
    by_cases hlt : k < M
    · have i2 : (k : Int) < (M : Int) := by omega
      have i3 : (0 : Int) ≤ (k : Int) := Int.natCast_nonneg _
      have HMn : Hid (Calls Try.prog 35 #[.pointer (some ⟨gb, 0, none⟩), .int .u64 (k : Int)] wr fun e w' => e = .returned (.bool (mn v k)) ∧ wr = w') := minimal_any (Rw.bal HI.out.rw_ (by rw [Hl.out]; exact h16)) HO.out k (by omega)
      have HLi : Hid (Calls Try.prog 36 #[.int .u64 (k : Int)] wr fun e w' => ∃ x, e = .returned x ∧ w'.ownsRow wr.heap.size 3 1 x (listN k n).length (ints (zi (listN k n))) ∧ Below wr.heap.size wr w') := slist_any k n h16 (by rw [HM.out]; exact hlt)
      cases hmn : mn v k with
      | false =>
        rw [hmn] at HMn
        have HN : Hid (MlS w n v gb (k + 1) _ wr) := ⟨(by obtain ⟨E, h1, h2⟩ := HI.out.ex; exact ⟨E, by rw [ML_succ, hmn]; exact h1, h2⟩), HI.out.bel, HI.out.rw_⟩
        go_wp2_with (fail)
        refine HMn.out.mono ?_
        rintro e w2 ⟨rfl, rfl⟩
        go_wp2_with (fail)
        exact ⟨⟨k + 1, by omega, by go_num, HN.out⟩, by simp [intOf]; omega⟩
      | true =>
        rw [hmn] at HMn
        obtain ⟨E, hE, hLl⟩ := HI.out.ex
        have HE : Hid (E.map El.s = ML v k) := hE
        have hEl : E.length ≤ 100000 := by
          have h3 := ML_len v k
          rw [← hE, List.length_map] at h3
          omega
        have HLl : Hid (Ll wr w.heap.size n _ E) := hLl
        clear hE hLl
        go_wp2_with (fail)
        refine HMn.out.mono ?_
        rintro e w2 ⟨rfl, rfl⟩
        go_wp2_with (fail)
        refine HLi.out.mono ?_
        rintro e X1 ⟨x, rfl, hx, hbx⟩
        obtain ⟨xa, xc, rfl⟩ := own_shape hx
        obtain ⟨X2, hX2⟩ : ∃ X, X1.alloc (.cells #[.slice xa (listN k n).length xc] 22) = X := ⟨_, rfl⟩
        have HB2 : Hid (Below X1.heap.size X1 X2) := by rw [← hX2]; exact balloc (Below.refl _ _)
        have HX2b : Hid (X2.heap[X1.heap.size]? = some (.cells #[(⟨xa, (listN k n).length, xc, k⟩ : El).v] 22 (0, 0))) := by rw [← hX2]; exact heap_alloc_new _ _
        have HBx : Hid (Below wr.heap.size wr X2) := bstep hbx HB2.out
        have Hxo : Hid (X2.ownsRow w.heap.size 3 1 (⟨xa, (listN k n).length, xc, k⟩ : El).v (listN k n).length (ints (zi (listN k n)))) := own_still (own_lower hx HI.out.bel.size) HB2.out
        have HLl2 := HLl.out.still HBx.out
        have HLl3 : Hid (Ll X2 w.heap.size n _ E) := HLl2
        have HBw : Hid (Below w.heap.size w X2) := bstep HI.out.bel HBx.out
        clear hx hbx HLl2
        go_wp2_with (first
          | (at_builtin; refine app_ll (w0 := w) rfl (.tmp 21) (.tmp 24) rfl _ E rfl HLl3.out HBw.out X1.heap.size ⟨xa, (listN k n).length, xc, k⟩ rfl HX2b.out Hxo.out hEl ?_)
          | fail)
        intro v2 G HO2 HBg HKg
        have HN : Hid (MlS w n v gb (k + 1) v2 G) := by
          refine ⟨⟨E ++ [⟨xa, (listN k n).length, xc, k⟩], by rw [ML_succ, hmn, List.map_append, HE.out]; rfl, HO2.out⟩, HBg.out, ?_⟩
          have h1 : X2.heap[gb]? = some (.cells (ints (bl v)).toArray 72 (0, 0)) := (HBx.out.block _ (lt_heap HI.out.rw_)).trans HI.out.rw_
          refine HKg.out.obj h1 (fun e => ?_)
          obtain ⟨c3, h4⟩ := own_type HLl3.out.row e.symm
          exact ty_ne h1 h4 (by decide) rfl
        clear hmn
        go_wp2_with (fail)
        exact ⟨⟨k + 1, by omega, by go_num, HN.out⟩, by simp [intOf]; omega⟩
    · have i2 : ¬ (k : Int) < (M : Int) := by omega
      obtain rfl : k = M := by omega
      obtain ⟨E, hE, hLl⟩ := HI.out.ex
      have hEn : E.length ≠ 0 := by
        have := HNe.out
        rw [← hE, List.length_map] at this
        exact this
      have hEl : E.length ≤ 100000 := by
        have h3 := ML_len v k
        rw [← hE, List.length_map] at h3
        omega
      obtain ⟨g, c', hv⟩ := own_some hLl.row hEn
      rw [hv] at hLl
      rw [hv]
      have HSo := sort_any2 hLl hEn hEl h16
      have HE : Hid (E.map El.s = ML v k) := hE
      have Hgl : Hid (w.heap.size ≤ g) := (World.ownsRow.lt hLl.row g rfl).1
      clear hE hv hLl
      go_wp2_with (fail)
      refine HSo.mono ?_
      rintro e G ⟨rfl, E', hp, hL', hkp, hsr⟩
      have HLn : Hid (E'.length = E.length) := hp.length_eq
      go_wp2
      (try simp only [Exit.inBlock, Exit.then])
      refine bodyPost_ret (results_tmp2 rfl _ _ _) rfl ?_
      refine ⟨g, c', E', by rw [HLn.out]; rfl, ?_, hL', HI.out.bel.trans (hkp.below HI.out.bel.size (fun j hj e => by have := Hgl.out; omega)), hsr⟩
      rw [HM.out, ← HE.out]
      exact hp.map _
theorem minimals_any {ao : Option Addr} {n c : Nat} {v : List Nat} (hr : RdI w ao n c (zi v)) (ho : Ok v) (hl : v.length = n) : Calls Try.prog 9 #[.slice ao n c] w fun e w' => ∃ g c' E, e = .returned (.tuple #[.slice (some ⟨g, 0, none⟩) E.length c', .int .i64 0]) ∧ (E.map El.s).Perm (ML v (2 ^ n)) ∧ Ll w' w.heap.size n (.slice (some ⟨g, 0, none⟩) E.length c') E ∧ Below w.heap.size w w' :=
  (minimals_any2 hr ho hl).mono fun e w' ⟨g, c', E, h1, h2, h3, h4, _⟩ => ⟨g, c', E, h1, h2, h3, h4⟩
end
end Go.Proofs.Ytapenemfnngniaa.Qm
