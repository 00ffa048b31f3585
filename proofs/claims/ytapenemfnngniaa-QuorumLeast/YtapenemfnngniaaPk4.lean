import Derived.Test.YtapenemfnngniaaPq3
import Derived.Test.YtapenemfnngniaaPp3
namespace Go.Proofs.Ytapenemfnngniaa.Qm
open Go.RowKit Mb
set_option linter.unusedVariables false
set_option maxRecDepth 100000
set_option linter.unusedSimpArgs false
def El.b (e : El) : Option Nat := e.v.ownBlock
def Ap (E : List El) : Prop := E.Pairwise (fun a b => a.b = b.b → a.b = none)
theorem ap_perm {E E' : List El} (hp : E'.Perm E) (h : Ap E) : Ap E' := (hp.pairwise_iff (R := fun a b : El => a.b = b.b → a.b = none) (fun h1 h2 => h2.trans (h1 h2.symm))).2 h
theorem ap_app {E F : List El} {M : Nat} (h : Ap E) (h' : Ap F) (h1 : ∀ e ∈ E, ∀ g, e.b = some g → g < M) (h2 : ∀ e ∈ F, ∀ g, e.b = some g → M ≤ g) : Ap (E ++ F) := by
  refine List.pairwise_append.2 ⟨h, h', fun a ha b hb e => ?_⟩
  cases hg : a.b with
  | none => rfl
  | some g =>
    have h3 := h1 a ha g hg
    have h4 := h2 b hb g (by rw [← e]; exact hg)
    omega
theorem ap_snoc {E : List El} {x : El} {M : Nat} (h : Ap E) (h1 : ∀ e ∈ E, ∀ g, e.b = some g → g < M) (h2 : ∀ g, x.b = some g → M ≤ g) : Ap (E ++ [x]) :=
  ap_app h (by simp [Ap]) h1 (fun e he => by rw [List.mem_singleton.1 he]; exact h2)
section
variable {w w' W : World} {B : Nat}
structure MlT (w : World) (n : Nat) (v : List Nat) (gb k : Nat) (l : Value) (wr : World) : Prop where
  ex : ∃ E, E.map El.s = ML v k ∧ Ll wr w.heap.size n l E ∧ Ap E
  bel : Below w.heap.size w wr
  rw_ : Rw wr gb 72 (bl v)
set_option maxHeartbeats 8000000 in
theorem minimals_any3 {ao : Option Addr} {n c : Nat} {v : List Nat} (hr : RdI w ao n c (zi v)) (ho : Ok v) (hl : v.length = n) : Calls Try.prog 9 #[.slice ao n c] w fun e w' => ∃ g c' E, e = .returned (.tuple #[.slice (some ⟨g, 0, none⟩) E.length c', .int .i64 0]) ∧ (E.map El.s).Perm (ML v (2 ^ n)) ∧ Ll w' w.heap.size n (.slice (some ⟨g, 0, none⟩) E.length c') E ∧ Below w.heap.size w w' ∧ (E.map El.s).Pairwise (fun s t => ¬ cmpL (zi (listN t n)) (zi (listN s n)) < 0) ∧ Ap E := by
  have h16 : n ≤ 16 := by rw [← hl]; exact ho.1
  have h2 := two_pow_le n h16
  have HCt := counted_any hr
  rw [okI_zi ho, nv_zi] at HCt
  have HO : Hid (Ok v) := ho
  have Hl : Hid (v.length = n) := hl
  have HNe : Hid ((ML v (2 ^ n)).length ≠ 0) := by rw [← hl]; exact ML_ne ho
  clear hr ho
  go_enter Try.func9, Try.ntmps9
  go_wp2_with (fail)
  refine HCt.mono ?_
  rintro e w1 ⟨r, rfl, hr19, hrb, hb1⟩
  obtain rfl := hrb trivial
  obtain ⟨A1, V, hA1, HTh, hV, HVr, HVb⟩ := newbal w1 (bl v) hr19
  have HB1 : Hid (Below w.heap.size w w1) := hb1
  have HBal : Hid (Bal V w1.heap.size v) := Rw.bal HVr.out (by rw [Hl.out]; exact h16)
  have HBV : Hid (Below w.heap.size w V) := bstep HB1.out HVb.out
  have Hlo : Hid (w.heap.size ≤ w1.heap.size) := hb1.size
  have HSe : Hid (Calls Try.prog 34 #[.pointer (some ⟨w1.heap.size, 0, none⟩)] V fun e w' => e = .returned (.int .u64 ((2 ^ n : Nat) : Int)) ∧ V = w') := by
    have := sets_any HBal.out (by rw [Hl.out]; exact h16)
    rw [Hl.out] at this
    exact this
  have HS0 : Hid (MlT w n v w1.heap.size 0 (.slice none 0 0) V) := ⟨⟨[], rfl, ⟨⟨rfl, .inl ⟨rfl, rfl⟩⟩, fun e he => by cases he⟩, List.Pairwise.nil⟩, HBV.out, HVr.out⟩
  clear hb1 hrb HCt
  go_wp2_with (first
    | (refine store_mid 72 (.tmp 4) (.tmp 11) (xs := bl v) HTh.out (info_bl hr19) rfl rfl rfl rfl ?_; rw [hV])
    | fail)
  refine HSe.out.mono ?_
  rintro e w2 ⟨rfl, rfl⟩
  generalize w1.heap.size = gb at *
  obtain ⟨M, hM⟩ : ∃ M, 2 ^ n = M := ⟨_, rfl⟩
  have HM : Hid (2 ^ n = M) := hM
  rw [hM] at h2 HNe
  rw [hM]
  clear hM hV hA1 HTh HVr HVb HBal HBV HSe HB1
  go_wp2_with (fail)
  go_loopw [6, 7, 16] (fun l s i wr => ∃ k : Nat, k ≤ M ∧ i = .int .u64 (k : Int) ∧ Hid (MlT w n v gb k l wr)) (fun _ _ i _ => M - (intOf i).toNat)
  case atStart => exact ⟨0, Nat.zero_le _, rfl, HS0.out⟩
  case round =>
    obtain ⟨k, hk, rfl, HI⟩ := hrel
    by_cases hlt : k < M
    · have i2 : (k : Int) < (M : Int) := by omega
      have i3 : (0 : Int) ≤ (k : Int) := Int.natCast_nonneg _
      have HMn : Hid (Calls Try.prog 35 #[.pointer (some ⟨gb, 0, none⟩), .int .u64 (k : Int)] wr fun e w' => e = .returned (.bool (mn v k)) ∧ wr = w') := minimal_any (Rw.bal HI.out.rw_ (by rw [Hl.out]; exact h16)) HO.out k (by omega)
      have HLi : Hid (Calls Try.prog 36 #[.int .u64 (k : Int)] wr fun e w' => ∃ x, e = .returned x ∧ w'.ownsRow wr.heap.size 3 1 x (listN k n).length (ints (zi (listN k n))) ∧ Below wr.heap.size wr w') := slist_any k n h16 (by rw [HM.out]; exact hlt)
      cases hmn : mn v k with
      | false =>
        rw [hmn] at HMn
        have HN : Hid (MlT w n v gb (k + 1) _ wr) := ⟨(by obtain ⟨E, h1, h2⟩ := HI.out.ex; exact ⟨E, by rw [ML_succ, hmn]; exact h1, h2⟩), HI.out.bel, HI.out.rw_⟩
        go_wp2_with (fail)
        refine HMn.out.mono ?_
        rintro e w2 ⟨rfl, rfl⟩
        go_wp2_with (fail)
        exact ⟨⟨k + 1, by omega, by go_num, HN.out⟩, by simp [intOf]; omega⟩
      | true =>
        rw [hmn] at HMn
        obtain ⟨E, hE, hLl, hAp⟩ := HI.out.ex
        have HE : Hid (E.map El.s = ML v k) := hE
        have hEl : E.length ≤ 100000 := by
          have h3 := ML_len v k
          rw [← hE, List.length_map] at h3
          omega
        have HLl : Hid (Ll wr w.heap.size n _ E) := hLl
        have HAp0 : Hid (Ap E) := hAp
        clear hE hLl hAp
        go_wp2_with (fail)
        refine HMn.out.mono ?_
        rintro e w2 ⟨rfl, rfl⟩
        go_wp2_with (fail)
        refine HLi.out.mono ?_
        rintro e X1 ⟨x, rfl, hx, hbx⟩
        obtain ⟨xa, xc, rfl⟩ := own_shape hx
        obtain ⟨X2, hX2⟩ : ∃ X, X1.alloc (.cells #[.slice xa (listN k n).length xc] 22) = X := ⟨_, rfl⟩
        have HB2 : Hid (Below X1.heap.size X1 X2) := by rw [← hX2]; exact balloc (Below.refl _ _)
        have HX2b : Hid (X2.heap[X1.heap.size]? = some (.cells #[(⟨xa, (listN k n).length, xc, k⟩ : El).v] 22 (0, 0))) := by rw [← hX2]; exact heap_alloc_new _ _
        have HBx : Hid (Below wr.heap.size wr X2) := bstep hbx HB2.out
        have Hxo : Hid (X2.ownsRow w.heap.size 3 1 (⟨xa, (listN k n).length, xc, k⟩ : El).v (listN k n).length (ints (zi (listN k n)))) := own_still (own_lower hx HI.out.bel.size) HB2.out
        have HLl2 := HLl.out.still HBx.out
        have HLl3 : Hid (Ll X2 w.heap.size n _ E) := HLl2
        have HBw : Hid (Below w.heap.size w X2) := bstep HI.out.bel HBx.out
        have HAp : Hid (Ap (E ++ [⟨xa, (listN k n).length, xc, k⟩])) := ap_snoc HAp0.out (fun e he g hg => (World.ownsRow.lt (HLl.out.el e he) g hg).2) (fun g hg => (World.ownsRow.lt hx g hg).1)
        clear hx hbx HLl2
        go_wp2_with (first
          | (at_builtin; refine app_ll (w0 := w) rfl (.tmp 21) (.tmp 24) rfl _ E rfl HLl3.out HBw.out X1.heap.size ⟨xa, (listN k n).length, xc, k⟩ rfl HX2b.out Hxo.out hEl ?_)
          | fail)
        intro v2 G HO2 HBg HKg
        have HN : Hid (MlT w n v gb (k + 1) v2 G) := by
          refine ⟨⟨E ++ [⟨xa, (listN k n).length, xc, k⟩], by rw [ML_succ, hmn, List.map_append, HE.out]; rfl, HO2.out, HAp.out⟩, HBg.out, ?_⟩
          have h1 : X2.heap[gb]? = some (.cells (ints (bl v)).toArray 72 (0, 0)) := (HBx.out.block _ (lt_heap HI.out.rw_)).trans HI.out.rw_
          refine HKg.out.obj h1 (fun e => ?_)
          obtain ⟨c3, h4⟩ := own_type HLl3.out.row e.symm
          exact ty_ne h1 h4 (by decide) rfl
        clear hmn
        go_wp2_with (fail)
        exact ⟨⟨k + 1, by omega, by go_num, HN.out⟩, by simp [intOf]; omega⟩
    · have i2 : ¬ (k : Int) < (M : Int) := by omega
      obtain rfl : k = M := by omega
      obtain ⟨E, hE, hLl, hAp⟩ := HI.out.ex
      have hEn : E.length ≠ 0 := by
        have := HNe.out
        rw [← hE, List.length_map] at this
        exact this
      have hEl : E.length ≤ 100000 := by
        have h3 := ML_len v k
        rw [← hE, List.length_map] at h3
        omega
      obtain ⟨g, c', hv⟩ := own_some hLl.row hEn
      rw [hv] at hLl
      rw [hv]
      have HSo := sort_any2 hLl hEn hEl h16
      have HE : Hid (E.map El.s = ML v k) := hE
      have Hgl : Hid (w.heap.size ≤ g) := (World.ownsRow.lt hLl.row g rfl).1
      have HAp : Hid (Ap E) := hAp
      clear hE hv hLl hAp
      go_wp2_with (fail)
      refine HSo.mono ?_
      rintro e G ⟨rfl, E', hp, hL', hkp, hsr⟩
      have HLn : Hid (E'.length = E.length) := hp.length_eq
      go_wp2
      (try simp only [Exit.inBlock, Exit.then])
      refine bodyPost_ret (results_tmp2 rfl _ _ _) rfl ?_
      refine ⟨g, c', E', by rw [HLn.out]; rfl, ?_, hL', HI.out.bel.trans (hkp.below HI.out.bel.size (fun j hj e => by have := Hgl.out; omega)), hsr, ap_perm hp HAp.out⟩
      rw [HM.out, ← HE.out]
      exact hp.map _
theorem minT2 {ao : Option Addr} {n c : Nat} {xs : List Int} (hr : RdI w ao n c xs) : Calls Try.prog 9 #[.slice ao n c] w fun e w' => ∃ x E, e = .returned (.tuple #[x, .int .i64 (chkE xs)]) ∧ E.map El.s = mnL xs ∧ Ll w' w.heap.size n x E ∧ Below w.heap.size w w' ∧ Ap E := by
  cases hok : okI xs with
  | false =>
    unfold chkE mnL
    rw [hok]
    exact (min_no hr hok).mono fun e w' ⟨h1, h2⟩ => ⟨_, [], h1, rfl, Ll.none _ _ _, h2, List.Pairwise.nil⟩
  | true =>
    have ho := okI_ok hok
    have hl : (nv xs).length = n := by rw [nv_len, hr.len]
    have h16 : n ≤ 16 := by rw [← hl]; exact ho.1
    have hr2 := hr
    rw [← zi_nv hok] at hr2
    unfold chkE mnL
    rw [hok, hr.len]
    refine (minimals_any3 hr2 ho hl).mono fun e w' ⟨g, c', E, h1, h2, h3, h4, h5, h6⟩ => ⟨_, E, h1, ?_, h3, h4, h6⟩
    have e1 := frm_all ho
    rw [hl] at e1
    exact perm_uniq h16 _ _ (h2.trans e1.symm) (fun s hs => (ML_mem.1 (h2.mem_iff.1 hs)).1) h5 (by
      have := frm_sorted ho.1 ((nv xs).length + 1) 0 0 (by simp) (Nat.zero_le _) (by omega)
      rw [hl] at this
      exact this)
end
end Go.Proofs.Ytapenemfnngniaa.Qm
