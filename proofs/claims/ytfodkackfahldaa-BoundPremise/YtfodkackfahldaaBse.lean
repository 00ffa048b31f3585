import Derived.Test.YtfodkackfahldaaBrh
import Derived.Test.YtfodkackfahldaaBsd
namespace Go.Proofs.Ytfodkackfahldaa.Lo
open Go.RowKit
set_option linter.unusedVariables false
set_option linter.unusedSimpArgs false

theorem step_E {w : World} {ops : Array Oper} {o : Oper} {a : Act} {K : Act → World → Prop} {Q : Exit → Act → World → Prop} {E : Prop} (hgd : o.guard = none) (s x : Operand)
    (ho : o.op = .call { callee := .builtin .append, args := #[s, x], argTypes := #[25, 25] }) {B : Nat} {v : Value} {es : List Em} (hs : a.eval s = v) {w0 : World} (hown : OwE w0 B v es) (e : Em) (hw : w = w0.alloc (.cells e.cs.toArray 36))
    (hx : a.eval x = .slice (some ⟨w0.heap.size, 0, none⟩) 1 1) (hn : (es.length + 1) * 160 ≤ 140737488355328) (hbase : B ≤ w0.heap.size)
    (h : ∀ v' w', OwE w' B v' (es ++ [e]) → Mb.Kept w0 w' (fun k => v.ownBlock = some k) → K (a.put o.dst v') w') : if Region.wanted o (yielded ops a.tmps) = true then Oper.wp Try.prog o a w K Q else E := by
  have hwt : Region.wanted o (yielded ops a.tmps) = true := by simp [Region.wanted, hgd]
  rw [if_pos hwt]
  subst hw
  obtain ⟨i0, hi, hz0, hz1, hz2⟩ := info_parts info_ev
  have hb : Below w0.heap.size w0 (w0.alloc (.cells e.cs.toArray 36)) := bsp _ _ _
  obtain ⟨v', w', hr, h2, h3, h4, h5⟩ := run_append_own_at (P := Try.prog) (w0.alloc (.cells e.cs.toArray 36)) B 25 o.type 36 i0 (.agg zEv) 13 160 Try.underlying25 hi hz0 hz1 hz2 rfl (by omega) v es.length (fls es) (Mb.own_still hown hb) ⟨w0.heap.size, 0, none⟩ 1 1 e.cs (by rw [cs_len]) (fun j u hu => by
    rw [Addr.add_mid, Nat.zero_add, blk_cell (heap_new w0 e.cs.toArray 36)]
    simpa using hu) (cs_one e) (by unfold maxLen; omega) hn (Nat.le_trans hbase hb.size)
  unfold Oper.wp execOp
  simp only [ho, resolve, invoke, builtin, Sem.run_bind, Sem.run_pure, Result.andThen_ok, List.map_toArray, List.map_cons, List.map_nil, hs, hx, hr]
  refine h v' w' ?_ ((Mb.Kept.ofBelow hb (fun k => v.ownBlock = some k)).trans ((Mb.Kept.ofGrown h3).mono fun k _ hk => hk.symm))
  show World.ownsRow _ _ _ _ _ _ _
  rw [List.length_append, fls_app]
  exact h2
theorem f0_in {N : Nat} {ba : Int} {xs : List Int} (hx : ∀ x ∈ xs, 0 ≤ x ∧ x < 16) {p : Nat} (hp : p < 16) : inF (wtF N ba) xs (273 + p) = if (p : Int) ∈ xs then 1 else 0 := by
  rw [inF_at _ _ p (fun x h => (hx x h).1)]
  have : wtF N ba (273 + p) = 0 := by unfold wtF; rw [if_neg (by omega), if_neg (by omega), if_neg (by omega)]
  rw [this]
theorem f0_st {N : Nat} {ba : Int} {xs : List Int} (hx : ∀ x ∈ xs, 0 ≤ x ∧ x < 16) {q : Nat} (hq : q < N) (n2 : N ≤ 16) : inF (wtF N ba) xs (1 + q) = 1 := by
  rw [inF_out _ _ _ hx (.inl (by omega))]
  unfold wtF nwF nwG
  rw [if_pos (by omega), if_neg (by omega), if_pos (by omega), if_pos (by omega)]
theorem f0_pa {N : Nat} {ba : Int} {xs : List Int} (hx : ∀ x ∈ xs, 0 ≤ x ∧ x < 16) {p q : Nat} (hp : p < N) (hq : q < N) (n2 : N ≤ 16) : inF (wtF N ba) xs (17 + p * 16 + q) = 1 := by
  rw [inF_out _ _ _ hx (.inl (by omega))]
  unfold wtF nwF nwG
  rw [if_pos (by omega), if_neg (by omega), if_neg (by omega), if_pos (by omega)]
theorem f0_89 {N : Nat} {ba : Int} {xs : List Int} (hx : ∀ x ∈ xs, 0 ≤ x ∧ x < 16) : inF (wtF N ba) xs 289 = ba := by
  rw [inF_out _ _ _ hx (.inr (by omega))]
  unfold wtF
  rw [if_neg (by omega), if_pos rfl]
theorem f0_90 {N : Nat} {ba : Int} {xs : List Int} (hx : ∀ x ∈ xs, 0 ≤ x ∧ x < 16) : inF (wtF N ba) xs 290 = -1 := by
  rw [inF_out _ _ _ hx (.inr (by omega))]
  unfold wtF
  rw [if_neg (by omega), if_neg (by omega), if_pos rfl]
theorem rg16 {N : Nat} (n2 : N ≤ 16) : ∀ x ∈ rg N, 0 ≤ x ∧ x < 16 := fun x hx => by have := rg_mem.1 hx; omega
theorem begins1 {N : Nat} {ba fl : Int} (n1 : 1 ≤ N) (n2 : N ≤ 16) (hba : 1 ≤ ba) (hfl : fl ≤ 2305843009213693952) : pm 0 0 N ba fl [] (rg N) = (0, 1, 0) := by
  rw [pm_ok (by omega) (setB_all (by omega)) hfl]
  have hx := rg16 n2
  have hin : ∀ p, p < N → inF (wtF N ba) (rg N) (273 + p) = 1 := fun p hp => by rw [f0_in hx (by omega), if_pos (rg_mem.2 ⟨by omega, by omega⟩)]
  have hal : alP (inF (wtF N ba) (rg N)) N := fun q hq => .inr ⟨f0_st hx hq n2, fun p hp => by
    by_cases e : p = q
    · exact .inl e
    · refine .inr ?_
      unfold rtB
      rw [if_pos (hin p hp), f0_pa hx hp hq n2, f0_89 hx, inR_iff]
      exact ⟨by omega, hba⟩⟩
  have h1 := loF_al (t := 0) n2 hal
  rw [f0_90 hx, if_pos rfl, if_pos rfl] at h1
  have hlg : lgA (inF (wtF N ba) (rg N)) N N ≤ 1 := by
    rw [lgA_le]
    exact ⟨by omega, fun p hp q hq _ _ _ => by rw [f0_pa hx hp hq n2]; omega⟩
  have e0 : prK N (inF (wtF N ba) (rg N)) [] 0 = loF (inF (wtF N ba) (rg N)) N 0 := rfl
  rw [e0, h1.1, h1.2, if_neg (by omega)]
  congr 2
  omega
theorem setB_low {m lo lo' : Int} {l : List Int} (h0 : l ≠ []) (h : lo' ≤ lo) (hs : setB m lo l = true) : setB m lo' l = true := by
  cases l with
  | nil => exact absurd rfl h0
  | cons x l =>
    simp only [setB, Bool.and_eq_true, inR_iff] at hs ⊢
    exact ⟨by omega, hs.2⟩
theorem rg_cons {N : Nat} (n1 : 1 ≤ N) : rg N = 0 :: (rg N).drop 1 := by
  obtain ⟨m, rfl⟩ : ∃ m, N = m + 1 := ⟨N - 1, by omega⟩
  simp [rg, List.range_succ_eq_map]
theorem begins2 {N : Nat} {ba fl : Int} (n1 : 2 ≤ N) (n2 : N ≤ 16) (hfl : fl ≤ 2305843009213693952) : (pm 0 0 N ba fl [] ((rg N).drop 1)).2.2 = 180 := by
  have hs : setB N 0 ((rg N).drop 1) = true := by
    have h1 := setB_all (N := N) (by omega)
    rw [rg_cons (by omega)] at h1
    simp only [setB, Bool.and_eq_true] at h1
    refine setB_low (fun e => ?_) (by omega : (0 : Int) ≤ 0 + 1) h1.2
    have := congrArg List.length e
    simp [rg_len] at this
    omega
  rw [pm_ok (by omega) hs hfl]
  have hm : ∀ x, x ∈ (rg N).drop 1 → 0 ≤ x ∧ x < 16 := fun x hx => rg16 n2 x (List.mem_of_mem_drop hx)
  have hmem : ∀ p : Nat, p < N → ((p : Int) ∈ (rg N).drop 1 ↔ 1 ≤ p) := fun p hp => by
    have h1 : (rg N).drop 1 = (List.range' 1 (N - 1)).map (fun (i : Nat) => (i : Int)) := by
      rw [rg, List.range_eq_range', ← List.map_drop, List.drop_range']
    rw [h1]
    simp only [List.mem_map, List.mem_range'_1]
    constructor
    · rintro ⟨i, hi, e⟩; omega
    · intro h; exact ⟨p, by omega, rfl⟩
  have hno : ¬ alP (inF (wtF N ba) ((rg N).drop 1)) N := fun ha => by
    rcases ha 1 (by omega) with h | ⟨_, h⟩
    · rw [f0_in hm (by omega), if_pos ((hmem 1 (by omega)).2 (by omega))] at h; omega
    · rcases h 0 (by omega) with h | h
      · omega
      · unfold rtB at h
        have e0 : inF (wtF N ba) ((rg N).drop 1) (273 + 0) = 0 := by rw [f0_in hm (by omega), if_neg (fun hh => by have := (hmem 0 (by omega)).1 hh; omega)]
        rw [e0, if_neg (by omega), f0_pa hm (by omega) (by omega) n2] at h
        exact absurd (of_decide_eq_true h) (by omega)
  have e0 : prK N (inF (wtF N ba) ((rg N).drop 1)) [] 0 = loF (inF (wtF N ba) ((rg N).drop 1)) N 0 := rfl
  rw [e0, loF_no hno, if_pos rfl]
theorem st_none {N : Nat} {f : Nat → Int} {e : Em} {t : Int} (h5 : ¬ k5 e.k) (h4 : ¬ k4 e.k) (h3 : ¬ k3 e.k) (h1 : ¬ e.k = 11) : stF N f e t = loF (if inR e.k 12 17 then upF f 290 (-1) else f) N t := by
  unfold stF diF diB haE
  rw [if_neg h5, if_neg h4, if_neg h3, if_neg h1]
theorem prK_lo {N : Nat} {f : Nat → Int} (es : List Em) : ∀ j, ∃ H t, prK N f es j = loF H N t ∧ 0 ≤ t
  | 0 => ⟨_, _, rfl, Int.le_refl _⟩
  | j + 1 => ⟨_, _, rfl, by omega⟩
theorem pE_len {en en' : Nat} {no fl : Int} {xs : List Int} (h1 : en ≤ 4000) (h2 : en' ≤ 4000) : pE 0 en no fl xs = pE 0 en' no fl xs := by
  have h : ∀ n : Nat, n ≤ 4000 → pE 0 n no fl xs = if setB no 0 xs && decide (fl ≤ 2305843009213693952) then 0 else 1 := fun n hn => by
    unfold pE
    rw [if_neg (by simp), if_neg (by omega)]
  rw [h en h1, h en' h2]
theorem begins3 {N : Nat} {ba fl : Int} (n2 : N ≤ 16) {l : List Em} {en : Nat} (hl : l.length = en) (hen : en ≤ 3990) (xs : List Int) : pm 0 (en + 1) N ba fl (l ++ [evS 1 none 0 0 []]) xs = pm 0 en N ba fl l xs := by
  subst hl
  unfold pm pmF
  rw [pE_len (en' := l.length) (by omega) (by omega)]
  by_cases hp : pE 0 l.length N fl xs ≠ 0
  · rw [if_pos hp, if_pos hp]
  · rw [if_neg hp, if_neg hp]
    rw [show ((N : Int).toNat) = N from rfl, prK_snoc, st_none (by show ¬ k5 1; decide) (by show ¬ k4 1; decide) (by show ¬ k3 1; decide) (by show ¬ (1 : Int) = 11; decide), if_neg (show ¬ inR (evS 1 none 0 0 []).k 12 17 = true from by decide)]
    obtain ⟨H, t, hP, ht⟩ := prK_lo (N := N) (f := inF (wtF N ba) xs) l l.length
    rw [hP]
    by_cases ha : alP H N
    · have h1 := loF_al (t := t) n2 ha
      have ha2 : alP (loF H N t) N := alP_ag n2 (loF_ag H N t).symm ha
      have h2 := loF_al (t := (l.length : Int) + 1) n2 ha2
      have hne : loF H N t 290 ≠ -1 := by
        rw [h1.1]
        split <;> omega
      rw [if_neg hne] at h2
      rw [if_neg hne] at h2
      rw [h2.1, if_neg hne, if_neg hne, h2.2, lgA_ag n2 (loF_ag H N t)]
      congr 2
      have := h1.2
      omega
    · have hn2 : ¬ alP (loF H N t) N := fun h => ha (alP_ag n2 (loF_ag H N t) h)
      rw [loF_no hn2, loF_no ha, if_pos rfl, if_pos rfl]
theorem pm_zero {N : Nat} {ba fl : Int} {l : List Em} {en : Nat} {xs : List Int} (h : (pm 0 en N ba fl l xs).2.2 = 0) : pE 0 en N fl xs = 0 ∧ prK N (inF (wtF N ba) xs) l en 290 ≠ -1 := by
  unfold pm pmF at h
  by_cases hp : pE 0 en N fl xs ≠ 0
  · rw [if_pos hp] at h; exact absurd h hp
  · rw [if_neg hp, show ((N : Int).toNat) = N from rfl] at h
    by_cases h1 : prK N (inF (wtF N ba) xs) l en 290 = -1
    · rw [if_pos h1] at h; cases h
    · exact ⟨by omega, h1⟩
theorem pE_set {en : Nat} {no fl : Int} {xs : List Int} (h : pE 0 en no fl xs = 0) : setB no 0 xs = true := by
  unfold pE at h
  rw [if_neg (by simp)] at h
  by_cases h1 : 4000 < en
  · rw [if_pos h1] at h; cases h
  · rw [if_neg h1] at h
    by_cases h2 : (setB no 0 xs && decide (fl ≤ 2305843009213693952)) = true
    · simp at h2; exact h2.1
    · rw [if_neg h2] at h; cases h
theorem pr_al {N : Nat} (n2 : N ≤ 16) {f : Nat → Int} {l : List Em} {j : Nat} (h : prK N f l j 290 ≠ -1) : alP (prK N f l j) N := by
  obtain ⟨H, t, hP, ht⟩ := prK_lo (N := N) (f := f) l j
  rw [hP] at h ⊢
  exact alP_ag n2 (loF_ag H N t).symm (loF_yes n2 h).1
theorem begins4 {N : Nat} {ba fl : Int} (n2 : N ≤ 16) {l : List Em} {en : Nat} (hl : l.length = en) (hen : en ≤ 3995) {xs : List Int} (h0 : (pm 0 en N ba fl l xs).2.2 = 0) : (pm 0 (en + 1) N ba fl (l ++ [evS 12 none 0 0 []]) xs).1 = (en : Int) + 1 ∧ (pm 0 (en + 1) N ba fl (l ++ [evS 12 none 0 0 []]) xs).2.2 = 0 := by
  subst hl
  obtain ⟨h1, h2⟩ := pm_zero h0
  have h3 := pr_al n2 h2
  have e0 : prK N (inF (wtF N ba) xs) (l ++ [evS 12 none 0 0 []]) (l.length + 1) = loF (upF (prK N (inF (wtF N ba) xs) l l.length) 290 (-1)) N ((l.length : Int) + 1) := by
    rw [prK_snoc, st_none (by show ¬ k5 12; decide) (by show ¬ k4 12; decide) (by show ¬ k3 12; decide) (by show ¬ (12 : Int) = 11; decide), if_pos (show inR (evS 12 none 0 0 []).k 12 17 = true from by decide)]
  have hal : alP (upF (prK N (inF (wtF N ba) xs) l l.length) 290 (-1)) N := alP_ag n2 (fun i hi => (upF_ne _ _ (by omega)).symm) h3
  have h4 := loF_al (t := (l.length : Int) + 1) n2 hal
  rw [upF_at, if_pos rfl, if_pos rfl] at h4
  unfold pm pmF
  rw [pE_len (en' := l.length) (by omega) (by omega), if_neg (by rw [h1]; simp), show ((N : Int).toNat) = N from rfl, e0, h4.1, if_neg (by omega)]
  exact ⟨rfl, rfl⟩
def evC (a : Int) : Em := ⟨5, a, 0, 0, none, 0, 0, [], 0, 0, 0, 0, ⟨#[]⟩, ⟨#[]⟩, ⟨#[]⟩, none, 0, 0, []⟩
theorem begins5 {N : Nat} {ba fl : Int} (n2 : N ≤ 16) {l : List Em} {en : Nat} (hl : l.length = en) (hen : en ≤ 3995) {xs : List Int} (h0 : (pm 0 en N ba fl l xs).2.2 = 0) : (pm 0 (en + 1) N ba fl (l ++ [evC (xs.getD 0 0)]) xs).2.2 = 180 := by
  subst hl
  obtain ⟨h1, h2⟩ := pm_zero h0
  have h3 := pr_al n2 h2
  have hs := pE_set h1
  have hxm := setB_mem xs (Int.le_refl 0) hs
  have hne : xs ≠ [] := fun e => by rw [e] at hs; simp [setB] at hs
  have hmem : xs.getD 0 0 ∈ xs := by
    cases xs with
    | nil => exact absurd rfl hne
    | cons x t => exact List.mem_cons_self ..
  have hx16 : ∀ x ∈ xs, 0 ≤ x ∧ x < 16 := fun x hx => by have := hxm x hx; omega
  generalize hA : xs.getD 0 0 = a at *
  have ha := hxm a hmem
  have hI : Iv N (inF (wtF N ba) xs) := Iv.inF _ (Iv.wt N ba) (fun p hp => (hx16 p hp).1)
  have hIP := hI.pr n2 l l.length
  have hh := prK_hh hI n2 l l.length
  have hin : prK N (inF (wtF N ba) xs) l l.length (273 + a.toNat) = 1 := by
    rw [hh _ (by omega) (by omega), f0_in hx16 (by omega), if_pos (by rw [show ((a.toNat : Nat) : Int) = a by omega]; exact hmem)]
  have hup : prK N (inF (wtF N ba) xs) l l.length (1 + a.toNat) = 1 := by
    rcases h3 a.toNat (by omega) with h | h
    · rw [hin] at h; omega
    · exact h.1
  unfold pm pmF
  rw [pE_len (en' := l.length) (by omega) (by omega), if_neg (by rw [h1]; simp), show ((N : Int).toNat) = N from rfl, prK_snoc]
  generalize prK N (inF (wtF N ba) xs) l l.length = P at *
  have hno : ¬ alP (haE (diF P (evC a)) N (evC a)) N := by
    intro hal
    have e1 : haE (diF P (evC a)) N (evC a) = upF (diF P (evC a)) (1 + a.toNat) 0 := by
      unfold haE
      rw [if_pos (by show k4 5; decide)]
      unfold haS
      have hd0 : diF P (evC a) 0 = (N : Int) := (hIP.di _).n
      have hd1 : diF P (evC a) (1 + a.toNat) = 1 := by rw [diF_ag P (evC a) _ (by omega)]; exact hup
      rw [if_pos (by rw [inR_iff, hd0]; show 0 ≤ a ∧ a ≤ (N : Int) - 1; omega)]
      show upF (diF P (evC a)) (1 + a.toNat) (stB (diF P (evC a) (1 + a.toNat)) 5 0) = _
      rw [hd1]
      rfl
    rw [e1] at hal
    rcases hal a.toNat (by omega) with h | h
    · rw [upF_ne _ _ (by omega), diF_ag P (evC a) _ (by omega), hin] at h; omega
    · have := h.1
      rw [upF_at] at this
      omega
  have e2 : stF N P (evC a) ((l.length : Int) + 1) 290 = -1 := loF_no hno
  rw [e2, if_pos rfl]
end Go.Proofs.Ytfodkackfahldaa.Lo
