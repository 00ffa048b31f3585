import Derived.Test.YtobaooebjgoaiaaV39
import Derived.Test.YtobaooebjgoaiaaV32
import Derived.Test.YtobaooebjgoaiaaV26
namespace Go.Proofs.Ytobaooebjgoaiaa.Fm
open Go.RowKit Go.Maps Mb
set_option linter.unusedVariables false
set_option maxRecDepth 100000
set_option linter.unusedSimpArgs false
section
variable {w w' W : World} {B : Nat}
theorem countP_or (f : Nat → Bool) (p : Nat) (hf : f p = false) : ∀ n, (List.range n).countP (fun x => f x || decide (p = x)) = (List.range n).countP f + (if p < n then 1 else 0)
 | 0 => by simp
 | n + 1 => by
   rw [List.range_succ, List.countP_append, List.countP_append, countP_or f p hf n]
   by_cases e : p = n
   ·subst e
    simp [hf]
   ·have e1 : (if p < n then 1 else 0 : Nat) = (if p < n + 1 then 1 else 0) := by
     by_cases h : p < n
     ·simp [h, show p < n + 1 by omega]
     ·simp [h, show ¬ p < n + 1 by omega]
    have e2 : [n].countP (fun x => f x || decide (p = x)) = [n].countP f := by simp [e]
    rw [e1, e2]
    omega
theorem nodT_count {l : List Int} : ∀ j, NodT l j → (List.range 16).countP (cntB l j) = j
 | 0, _ => by
   have : (List.range 16).countP (cntB l 0) = 0 := List.countP_eq_zero.2 (fun x _ => by simp [cntB])
   exact this
 | j + 1, h => by
   have ih := nodT_count j (fun i hi => h i (by omega))
   obtain ⟨⟨h0, h1⟩, h2⟩ := h j (by omega)
   obtain ⟨p, hp⟩ : ∃ p : Nat, l.getD j 0 = (p : Int) := ⟨(l.getD j 0).toNat, by omega⟩
   have hno : cntB l j p = false := by
    cases e : cntB l j p with
    | false => rfl
    | true =>
     obtain ⟨m, h3, h4⟩ := cnt_yes e
     exact absurd (h4.trans hp.symm) (h2 m h3)
   have e2 : cntB l (j + 1) = fun x => cntB l j x || decide (p = x) := by
    funext x
    rw [cnt_succ, hp]
    congr 1
    simp [Int.ofNat_inj]
   rw [e2, countP_or _ p hno, ih, if_pos (by omega)]
theorem nodT_le {l : List Int} {j : Nat} (h : NodT l j) : j ≤ 16 := by
 have h1 := nodT_count j h
 have h2 := List.countP_le_length (p := cntB l j) (l := List.range 16)
 rw [List.length_range] at h2
 omega
theorem nodT_inj {l : List Int} {n i j : Nat} (h : NodT l n) (hi : i < n) (hj : j < n) (e : l.getD i 0 = l.getD j 0) : i = j := by
 by_cases h1 : i < j
 ·exact absurd e ((h j hj).2 i h1)
 ·by_cases h2 : j < i
  ·exact absurd e.symm ((h i hi).2 j h2)
  ·omega
def lowB (cs : List Co) (who : List Int) (sf : Int) (s : Int × Int) : Bool := (List.range cs.length).any (fun i => decide (who.getD i 0 < sf) && has (cs.getD i c0) s)
def duP (cs : List Co) (who : List Int) (sf : Int) (me you : Nat) (s : Int × Int) : Bool := has (cs.getD me c0) s && !has (cs.getD you c0) s && !lowB cs who sf s
structure Dk (cs : List Co) (who : List Int) (sf q : Int) (me you : Nat) : Prop where
 len : who.length = cs.length
 nod : NodT who who.length
 m1 : me < who.length
 m2 : who.getD me 0 = sf
 y1 : you < who.length
 y2 : who.getD you 0 = q
 ne : sf ≠ q
def DuS (cs : List Co) (who : List Int) (sf q E : Int) (l : List (Int × Int)) : Prop :=
 ((∀ me you, ¬ Dk cs who sf q me you) ∧ E = 1 ∧ l = []) ∨
 (∃ me you, Dk cs who sf q me you ∧ ((togE cs ≠ 0 ∧ E = togE cs ∧ l = []) ∨ (togE cs = 0 ∧ E = 0 ∧ ∃ n ss, Ends cs n ∧ SlOf cs n ss ∧ l = pick (duP cs who sf me you) ss)))
theorem DuS.eq {cs : List Co} {who : List Int} {sf q E E' : Int} {l l' : List (Int × Int)} (h : DuS cs who sf q E l) (k : DuS cs who sf q E' l') : E = E' ∧ l = l' := by
 rcases h with ⟨a1, a2, a3⟩ | ⟨me, you, d, h⟩
 ·rcases k with ⟨b1, b2, b3⟩ | ⟨me', you', d', k⟩
  ·exact ⟨by omega, by rw [a3, b3]⟩
  ·exact absurd d' (a1 _ _)
 ·rcases k with ⟨b1, b2, b3⟩ | ⟨me', you', d', k⟩
  ·exact absurd d (b1 _ _)
  ·obtain rfl := nodT_inj d.nod d.m1 d'.m1 (by rw [d.m2, d'.m2])
   obtain rfl := nodT_inj d.nod d.y1 d'.y1 (by rw [d.y2, d'.y2])
   rcases h with ⟨a1, a2, a3⟩ | ⟨a1, a2, n, ss, h1, h2, h3⟩
   ·rcases k with ⟨b1, b2, b3⟩ | ⟨b1, b2, n', ss', k1, k2, k3⟩
    ·exact ⟨by omega, by rw [a3, b3]⟩
    ·exact absurd b1 a1
   ·rcases k with ⟨b1, b2, b3⟩ | ⟨b1, b2, n', ss', k1, k2, k3⟩
    ·exact absurd a1 b1
    ·obtain rfl := h1.eq k1
     obtain rfl := h2.eq k2
     exact ⟨by omega, by rw [h3, k3]⟩
theorem DuS.len {cs : List Co} {who : List Int} {sf q E : Int} {l : List (Int × Int)} (h : DuS cs who sf q E l) : l.length ≤ 1000000000000000000 := by
 rcases h with ⟨_, _, rfl⟩ | ⟨me, you, d, ⟨_, _, rfl⟩ | ⟨a1, _, n, ss, h1, h2, rfl⟩⟩
 ·simp
 ·simp
 ·have h3 := pick_len (duP cs who sf me you) ss
  have h4 := Ends.le (tog_of a1) h1.1
  have h5 := h2.1
  omega
def LwS (cs : List Co) (who : List Int) (s : Int × Int) (r : Int) : Prop := (r = -1 ∧ ∀ i, i < cs.length → has (cs.getD i c0) s = false) ∨ ∃ m : Nat, r = m ∧ m < cs.length ∧ has (cs.getD m c0) s = true ∧ ∀ i, i < cs.length → has (cs.getD i c0) s = true → who.getD m 0 ≤ who.getD i 0
def LwK (cs : List Co) (who : List Int) (s : Int × Int) (j : Nat) (r : Int) : Prop := (r = -1 ∧ ∀ i, i < j → has (cs.getD i c0) s = false) ∨ ∃ m : Nat, r = m ∧ m < j ∧ has (cs.getD m c0) s = true ∧ ∀ i, i < j → has (cs.getD i c0) s = true → who.getD m 0 ≤ who.getD i 0
theorem lw_no {cs : List Co} {who : List Int} {s : Int × Int} {c : Nat} {r : Int} (h : LwK cs who s c r) (hh : has (cs.getD c c0) s = false) : LwK cs who s (c + 1) r := by
 rcases h with ⟨h1, h2⟩ | ⟨m, h1, h2, h3, h4⟩
 ·refine .inl ⟨h1, fun i hi => ?_⟩
  by_cases e : i = c
  ·rw [e]; exact hh
  ·exact h2 i (by omega)
 ·refine .inr ⟨m, h1, by omega, h3, fun i hi h5 => ?_⟩
  by_cases e : i = c
  ·rw [e, hh] at h5; cases h5
  ·exact h4 i (by omega) h5
theorem lw_first {cs : List Co} {who : List Int} {s : Int × Int} {c : Nat} (h : LwK cs who s c (-1)) (hh : has (cs.getD c c0) s = true) : LwK cs who s (c + 1) (c : Int) := by
 rcases h with ⟨h1, h2⟩ | ⟨m, h1, _⟩
 ·refine .inr ⟨c, rfl, by omega, hh, fun i hi h5 => ?_⟩
  by_cases e : i = c
  ·rw [e]; exact Int.le_refl _
  ·rw [h2 i (by omega)] at h5; cases h5
 ·omega
theorem lw_less {cs : List Co} {who : List Int} {s : Int × Int} {c m : Nat} (h : LwK cs who s c (m : Int)) (hh : has (cs.getD c c0) s = true) (hl : who.getD c 0 < who.getD m 0) : LwK cs who s (c + 1) (c : Int) := by
 rcases h with ⟨h1, h2⟩ | ⟨m', h1, h2, h3, h4⟩
 ·omega
 ·obtain rfl : m' = m := by omega
  refine .inr ⟨c, rfl, by omega, hh, fun i hi h5 => ?_⟩
  by_cases e : i = c
  ·rw [e]; exact Int.le_refl _
  ·have := h4 i (by omega) h5; omega
theorem lw_keep {cs : List Co} {who : List Int} {s : Int × Int} {c m : Nat} (h : LwK cs who s c (m : Int)) (hl : ¬ who.getD c 0 < who.getD m 0) : LwK cs who s (c + 1) (m : Int) := by
 rcases h with ⟨h1, h2⟩ | ⟨m', h1, h2, h3, h4⟩
 ·omega
 ·obtain rfl : m' = m := by omega
  refine .inr ⟨m', rfl, by omega, h3, fun i hi h5 => ?_⟩
  by_cases e : i = c
  ·rw [e]; omega
  ·exact h4 i (by omega) h5
theorem low_du {cs : List Co} {who : List Int} {sf q : Int} {me you : Nat} (d : Dk cs who sf q me you) {s : Int × Int} {r : Int} (h : LwS cs who s r) : (decide (r = (me : Int)) && !has (cs.getD you c0) s) = duP cs who sf me you s := by
 have hl : ∀ i, i < cs.length → has (cs.getD i c0) s = true → who.getD i 0 < sf → lowB cs who sf s = true := fun i hi h1 h2 => List.any_eq_true.2 ⟨i, List.mem_range.2 hi, by rw [h1, Bool.and_true]; exact decide_eq_true h2⟩
 have hm : me < cs.length := by rw [← d.len]; exact d.m1
 unfold duP
 rcases h with ⟨rfl, h1⟩ | ⟨m, rfl, h1, h2, h3⟩
 ·rw [h1 me hm]
  have : ¬ (-1 : Int) = (me : Int) := by omega
  simp [this]
 ·by_cases e : m = me
  ·subst e
   have hlow : lowB cs who sf s = false := by
    cases e2 : lowB cs who sf s with
    | false => rfl
    | true =>
     obtain ⟨i, hi, h4⟩ := List.any_eq_true.1 e2
     simp only [Bool.and_eq_true, decide_eq_true_eq] at h4
     have := h3 i (List.mem_range.1 hi) h4.2
     rw [d.m2] at this
     omega
   rw [hlow, h2]
   simp
  ·have : ¬ ((m : Int) = (me : Int)) := by omega
   simp only [this, decide_false, Bool.false_and]
   cases h4 : has (cs.getD me c0) s with
   | false => simp
   | true =>
    have h5 := h3 me hm h4
    have h6 : who.getD m 0 ≠ sf := fun e2 => e (nodT_inj d.nod (by rw [d.len]; exact h1) d.m1 (by rw [e2, d.m2]))
    rw [d.m2] at h5
    rw [hl m h1 h2 (by omega)]
    simp
set_option maxHeartbeats 4000000 in
theorem qlowest_any {wa ao : Option Addr} {wcp cp : Nat} {who : List Int} {fs : List Fl} (hw : RdI w wa who) (hr : RdFs w ao fs) (hl : who.length = fs.length) (hn : fs.length ≤ 1048576) (s : Int × Int) : Calls Try.prog 49 #[.slice wa who.length wcp, .slice ao fs.length cp, .agg (slotV s).toArray] w fun e w' => ∃ r, e = .returned (.int .i64 r) ∧ LwS (cos fs) who s r ∧ Below w.heap.size w w' := by
 have HWh : Hid (RdI w wa who) := hw
 have HR : Hid (RdFs w ao fs) := hr
 have HSl : Hid (∀ r, LwK (cos fs) who s fs.length r → LwS (cos fs) who s r) := fun r h => by unfold LwS; rw [cos_len]; exact h
 have Hlw : Hid (who.length = fs.length) := hl
 rw [hl]
 generalize hL : fs.length = L at *
 have HLe : Hid (fs.length = L) := hL
 generalize hW1 : w.alloc (.cells (slotV s).toArray 76) = W1
 have HB0 : Hid (Below w.heap.size w W1) := hW1 ▸ balloc (Below.refl _ _)
 have HK0 : Hid (W1.heap[w.heap.size]? = some (.cells (slotV s).toArray 76 (0, 0))) := (show _ = _ from by rw [← hW1]; exact heap_alloc_new w _)
 clear hw hr hl hL
 generalize hps : (slotV s).toArray = ps at hW1
 try rw [hps]
 clear hps
 go_enter Try.func49, Try.ntmps49
 go_wp2
 clear hW1
 generalize hkb : w.heap.size = kb at HK0
 have Hkb : Hid (w.heap.size = kb) := hkb
 try rw [hkb]
 clear hkb
 go_loopw [7, 8] (fun rv iv wr => ∃ c : Nat, c ≤ L ∧ iv = .int .i64 (c : Int) ∧ (∃ r, rv = .int .i64 r ∧ LwK (cos fs) who s c r) ∧ Below W1.heap.size W1 wr) (fun _ iv _ => L - (intOf iv).toNat)
 case atStart => exact ⟨0, Nat.zero_le _, rfl, ⟨-1, rfl, .inl ⟨rfl, fun i hi => by omega⟩⟩, Below.refl _ _⟩
 case round =>
  obtain ⟨c, hc, rfl, ⟨r, rfl, hk⟩, hb⟩ := hrel
  have HKk : Hid (LwK (cos fs) who s c r) := hk
  have HB : Hid (Below W1.heap.size W1 wr) := hb
  have HBw : Hid (Below w.heap.size w wr) := bstep HB0.out hb
  clear hk hb
  have i0 : (0 : Int) ≤ (c : Int) := Int.natCast_nonneg _
  by_cases hlt : c < L
  ·have i1 : (c : Int) < (L : Int) := by omega
   obtain ⟨b, off, rfl, hcf⟩ := (HR.out.still HBw.out).at (i := c) (by rw [HLe.out]; exact hlt)
   obtain ⟨wb, wo, rfl, hcw⟩ := (HWh.out.still HBw.out).at (i := c) (by rw [Hlw.out]; exact hlt)
   have HCa : Hid ((cos fs).getD c c0 = (fs.getD c fl0).c) := cos_at fs c
   have HM0 := qhas_any (w := wr.drew) (((HR.out.still HBw.out).el c (by rw [HLe.out]; exact hlt)).still (drew_bel _)) s
   have HCf : Hid (wr.rangeAt b (off + c * 7) (fs.getD c fl0).cs) := hcf
   have HK : Hid (True ∧ wr.rangeAt kb 0 (slotV s)) := ⟨trivial, blk_range (blk_on HB.out HK0.out)⟩
   have Hno : Hid (has (fs.getD c fl0).c s = false → LwK (cos fs) who s (c + 1) r) := fun h => lw_no HKk.out (by rw [HCa.out]; exact h)
   have Hfirst : Hid (has (fs.getD c fl0).c s = true → r = -1 → LwK (cos fs) who s (c + 1) (c : Int)) := fun h e0 => lw_first (by have := HKk.out; rwa [e0] at this) (by rw [HCa.out]; exact h)
   have Hless : Hid (∀ m : Nat, has (fs.getD c fl0).c s = true → r = m → who.getD c 0 < who.getD m 0 → LwK (cos fs) who s (c + 1) (c : Int)) := fun m h e0 hl => lw_less (by have := HKk.out; rwa [e0] at this) (by rw [HCa.out]; exact h) hl
   have Hkeep : Hid (∀ m : Nat, r = m → ¬ who.getD c 0 < who.getD m 0 → LwK (cos fs) who s (c + 1) r) := fun m e0 hl => by
    have h1 := HKk.out
    rw [e0] at h1 ⊢
    exact lw_keep h1 hl
   have Hmm : Hid (r = -1 ∨ ∃ m : Nat, r = m ∧ m < c) := by
    rcases HKk.out with ⟨h1, _⟩ | ⟨m, h1, h2, _⟩
    ·exact .inl h1
    ·exact .inr ⟨m, h1, h2⟩
   have Hwc : Hid (∀ m, m < L → wr.cell? ⟨wb, wo + m, none⟩ = some (.int .i64 (who.getD m 0))) := fun m hm => by
    obtain ⟨b', o', e', h'⟩ := (HWh.out.still HBw.out).at (i := m) (by rw [Hlw.out]; exact hm)
    simp only [Option.some.injEq, Addr.mk.injEq, and_true] at e'
    rw [e'.1, e'.2]
    exact h'
   generalize fs.getD c fl0 = f at *
   clear hcf hcw
   cases hh : has f.c s with
   | false =>
    have HM : Hid (Calls Try.prog 45 #[.agg f.cs.toArray, .agg (slotV s).toArray] wr.drew fun e w' => e = .returned (.bool false) ∧ Below wr.drew.heap.size wr.drew w') := (show Calls Try.prog 45 #[.agg f.cs.toArray, .agg (slotV s).toArray] wr.drew fun e w' => e = .returned (.bool false) ∧ Below wr.drew.heap.size wr.drew w' from by rw [← hh]; exact HM0)
    have HX : Hid (LwK (cos fs) who s (c + 1) r) := Hno.out hh
    clear hh HM0
    rcases Hmm.out with rfl | ⟨mm, rfl, hmc⟩
    ·go_wp2
     refine wp_region_held_drew (S := (fun w' => w'.rangeAt b (off + c * 7) f.cs ∧ w'.rangeAt kb 0 (slotV s))) (by kernel_rfl) ⟨HCf.out, HK.out.2⟩ (fun hHeld => ?_)
     simp only [Act.put, List.size_toArray, List.length_cons, List.length_nil, Nat.zero_add]
     refine wG9 0 (.slice (some ⟨b, off, none⟩) L cp) rfl hHeld ?_
     simp only [Act.put,gA9,gZ9,gC9,sA9,sZ9,sC9]
     refine wG9 1 (.int .i64 (c : Int)) rfl hHeld ?_
     simp only [Act.put,gA9,gZ9,gC9,sA9,sZ9,sC9]
     refine wG9 2 (.pointer (some ⟨b, off + c * 7, none⟩)) rfl hHeld ?_
     simp only [Act.put,gA9,gZ9,gC9,sA9,sZ9,sC9]
     refine wpAnyH_take (i := 3) (v := .agg (f.cs).toArray) rfl (by kernel_rfl) (by kernel_rfl) (by kernel_rfl) (fun _ _ _ h => h) (yieldsIf_load_mid (by rfl) 28 (.tmp 17) rfl b (off + c * 7) (by rfl) (f.cs) _ (fun w' hS => hS.1) Try.underlying28 rfl info_flush) hHeld ?_
     simp only [Act.put,gA9,gZ9,gC9,sA9,sZ9,sC9]
     refine wpAnyH_take (i := 4) (v := .agg (slotV s).toArray) rfl (by kernel_rfl) (by kernel_rfl) (by kernel_rfl) (fun _ _ _ h => h) (yieldsIf_load_mid (by rfl) 76 (.tmp 5) rfl kb 0 (by rfl) (slotV s) _ (fun w' hS => hS.2) Try.underlying76 rfl info_slot) hHeld ?_
     simp only [Act.put,gA9,gZ9,gC9,sA9,sZ9,sC9]
     refine wpAnyH_ready (rs := [5]) (by kernel_rfl) (by simp) ?_
     refine AllReadyH.cons rfl (fun K hK => ?_) AllReadyH.nil
     go_simp
     refine (HM.out).mono ?_
     rintro e V ⟨rfl, hv⟩
     refine hK.out _ _ ⟨range_on HCf.out (bstep (drew_bel wr) hv), range_on HK.out.2 (bstep (drew_bel wr) hv)⟩ (fun hHeld => ?_)
     clear hK K
     refine wG9 6 (.bool false) rfl hHeld ?_
     simp only [Act.put,gA9,gZ9,gC9,sA9,sZ9,sC9]
     refine wS9 7 rfl hHeld ?_
     simp only [Act.put,gA9,gZ9,gC9,sA9,sZ9,sC9]
     refine wS9 8 rfl hHeld ?_
     simp only [Act.put,gA9,gZ9,gC9,sA9,sZ9,sC9]
     refine wS9 9 rfl hHeld ?_
     simp only [Act.put,gA9,gZ9,gC9,sA9,sZ9,sC9]
     refine wS9 10 rfl hHeld ?_
     simp only [Act.put,gA9,gZ9,gC9,sA9,sZ9,sC9]
     refine wS9 11 rfl hHeld ?_
     simp only [Act.put,gA9,gZ9,gC9,sA9,sZ9,sC9]
     refine wS9 12 rfl hHeld ?_
     simp only [Act.put,gA9,gZ9,gC9,sA9,sZ9,sC9]
     refine wS9 13 rfl hHeld ?_
     simp only [Act.put,gA9,gZ9,gC9,sA9,sZ9,sC9]
     refine wS9 14 rfl hHeld ?_
     simp only [Act.put,gA9,gZ9,gC9,sA9,sZ9,sC9]
     refine wS9 15 rfl hHeld ?_
     simp only [Act.put,gA9,gZ9,gC9,sA9,sZ9,sC9]
     refine wS9 16 rfl hHeld ?_
     simp only [Act.put,gA9,gZ9,gC9,sA9,sZ9,sC9]
     refine wS9 17 rfl hHeld ?_
     simp only [Act.put,gA9,gZ9,gC9,sA9,sZ9,sC9]
     refine wS9 18 rfl hHeld ?_
     simp only [Act.put,gA9,gZ9,gC9,sA9,sZ9,sC9]
     refine wS9 19 rfl hHeld ?_
     simp only [Act.put,gA9,gZ9,gC9,sA9,sZ9,sC9]
     refine wG9 20 (.bool false) rfl hHeld ?_
     simp only [Act.put,gA9,gZ9,gC9,sA9,sZ9,sC9]
     refine wpAnyH_done (by kernel_rfl) ?_ _
     clear hHeld
     go_wp2
     exact ⟨⟨c + 1, by omega, by go_num, ⟨-1, rfl, HX.out⟩, bstep HB.out (bstep (drew_bel wr) hv)⟩, by simp [intOf]; omega⟩
    ·go_wp2
     refine wp_region_held_drew (S := (fun w' => w'.rangeAt b (off + c * 7) f.cs ∧ w'.rangeAt kb 0 (slotV s))) (by kernel_rfl) ⟨HCf.out, HK.out.2⟩ (fun hHeld => ?_)
     simp only [Act.put, List.size_toArray, List.length_cons, List.length_nil, Nat.zero_add]
     refine wG9 0 (.slice (some ⟨b, off, none⟩) L cp) rfl hHeld ?_
     simp only [Act.put,gA9,gZ9,gC9,sA9,sZ9,sC9]
     refine wG9 1 (.int .i64 (c : Int)) rfl hHeld ?_
     simp only [Act.put,gA9,gZ9,gC9,sA9,sZ9,sC9]
     refine wG9 2 (.pointer (some ⟨b, off + c * 7, none⟩)) rfl hHeld ?_
     simp only [Act.put,gA9,gZ9,gC9,sA9,sZ9,sC9]
     refine wpAnyH_take (i := 3) (v := .agg (f.cs).toArray) rfl (by kernel_rfl) (by kernel_rfl) (by kernel_rfl) (fun _ _ _ h => h) (yieldsIf_load_mid (by rfl) 28 (.tmp 17) rfl b (off + c * 7) (by rfl) (f.cs) _ (fun w' hS => hS.1) Try.underlying28 rfl info_flush) hHeld ?_
     simp only [Act.put,gA9,gZ9,gC9,sA9,sZ9,sC9]
     refine wpAnyH_take (i := 4) (v := .agg (slotV s).toArray) rfl (by kernel_rfl) (by kernel_rfl) (by kernel_rfl) (fun _ _ _ h => h) (yieldsIf_load_mid (by rfl) 76 (.tmp 5) rfl kb 0 (by rfl) (slotV s) _ (fun w' hS => hS.2) Try.underlying76 rfl info_slot) hHeld ?_
     simp only [Act.put,gA9,gZ9,gC9,sA9,sZ9,sC9]
     refine wpAnyH_ready (rs := [5]) (by kernel_rfl) (by simp) ?_
     refine AllReadyH.cons rfl (fun K hK => ?_) AllReadyH.nil
     go_simp
     refine (HM.out).mono ?_
     rintro e V ⟨rfl, hv⟩
     refine hK.out _ _ ⟨range_on HCf.out (bstep (drew_bel wr) hv), range_on HK.out.2 (bstep (drew_bel wr) hv)⟩ (fun hHeld => ?_)
     clear hK K
     refine wG9 6 (.bool false) rfl hHeld ?_
     simp only [Act.put,gA9,gZ9,gC9,sA9,sZ9,sC9]
     refine wS9 7 rfl hHeld ?_
     simp only [Act.put,gA9,gZ9,gC9,sA9,sZ9,sC9]
     refine wS9 8 rfl hHeld ?_
     simp only [Act.put,gA9,gZ9,gC9,sA9,sZ9,sC9]
     refine wS9 9 rfl hHeld ?_
     simp only [Act.put,gA9,gZ9,gC9,sA9,sZ9,sC9]
     refine wS9 10 rfl hHeld ?_
     simp only [Act.put,gA9,gZ9,gC9,sA9,sZ9,sC9]
     refine wS9 11 rfl hHeld ?_
     simp only [Act.put,gA9,gZ9,gC9,sA9,sZ9,sC9]
     refine wS9 12 rfl hHeld ?_
     simp only [Act.put,gA9,gZ9,gC9,sA9,sZ9,sC9]
     refine wS9 13 rfl hHeld ?_
     simp only [Act.put,gA9,gZ9,gC9,sA9,sZ9,sC9]
     refine wS9 14 rfl hHeld ?_
     simp only [Act.put,gA9,gZ9,gC9,sA9,sZ9,sC9]
     refine wS9 15 rfl hHeld ?_
     simp only [Act.put,gA9,gZ9,gC9,sA9,sZ9,sC9]
     refine wS9 16 rfl hHeld ?_
     simp only [Act.put,gA9,gZ9,gC9,sA9,sZ9,sC9]
     refine wS9 17 rfl hHeld ?_
     simp only [Act.put,gA9,gZ9,gC9,sA9,sZ9,sC9]
     refine wS9 18 rfl hHeld ?_
     simp only [Act.put,gA9,gZ9,gC9,sA9,sZ9,sC9]
     refine wS9 19 rfl hHeld ?_
     simp only [Act.put,gA9,gZ9,gC9,sA9,sZ9,sC9]
     refine wG9 20 (.bool false) rfl hHeld ?_
     simp only [Act.put,gA9,gZ9,gC9,sA9,sZ9,sC9]
     refine wpAnyH_done (by kernel_rfl) ?_ _
     clear hHeld
     go_wp2
     exact ⟨⟨c + 1, by omega, by go_num, ⟨(mm : Int), rfl, HX.out⟩, bstep HB.out (bstep (drew_bel wr) hv)⟩, by simp [intOf]; omega⟩
   | true =>
    have HM : Hid (Calls Try.prog 45 #[.agg f.cs.toArray, .agg (slotV s).toArray] wr.drew fun e w' => e = .returned (.bool true) ∧ Below wr.drew.heap.size wr.drew w') := (show Calls Try.prog 45 #[.agg f.cs.toArray, .agg (slotV s).toArray] wr.drew fun e w' => e = .returned (.bool true) ∧ Below wr.drew.heap.size wr.drew w' from by rw [← hh]; exact HM0)
    rcases Hmm.out with rfl | ⟨mm, rfl, hmc⟩
    ·have HX : Hid (LwK (cos fs) who s (c + 1) (c : Int)) := Hfirst.out hh rfl
     clear hh HM0
     go_wp2
     refine wp_region_held_drew (S := (fun w' => w'.rangeAt b (off + c * 7) f.cs ∧ w'.rangeAt kb 0 (slotV s))) (by kernel_rfl) ⟨HCf.out, HK.out.2⟩ (fun hHeld => ?_)
     simp only [Act.put, List.size_toArray, List.length_cons, List.length_nil, Nat.zero_add]
     refine wG9 0 (.slice (some ⟨b, off, none⟩) L cp) rfl hHeld ?_
     simp only [Act.put,gA9,gZ9,gC9,sA9,sZ9,sC9]
     refine wG9 1 (.int .i64 (c : Int)) rfl hHeld ?_
     simp only [Act.put,gA9,gZ9,gC9,sA9,sZ9,sC9]
     refine wG9 2 (.pointer (some ⟨b, off + c * 7, none⟩)) rfl hHeld ?_
     simp only [Act.put,gA9,gZ9,gC9,sA9,sZ9,sC9]
     refine wpAnyH_take (i := 3) (v := .agg (f.cs).toArray) rfl (by kernel_rfl) (by kernel_rfl) (by kernel_rfl) (fun _ _ _ h => h) (yieldsIf_load_mid (by rfl) 28 (.tmp 17) rfl b (off + c * 7) (by rfl) (f.cs) _ (fun w' hS => hS.1) Try.underlying28 rfl info_flush) hHeld ?_
     simp only [Act.put,gA9,gZ9,gC9,sA9,sZ9,sC9]
     refine wpAnyH_take (i := 4) (v := .agg (slotV s).toArray) rfl (by kernel_rfl) (by kernel_rfl) (by kernel_rfl) (fun _ _ _ h => h) (yieldsIf_load_mid (by rfl) 76 (.tmp 5) rfl kb 0 (by rfl) (slotV s) _ (fun w' hS => hS.2) Try.underlying76 rfl info_slot) hHeld ?_
     simp only [Act.put,gA9,gZ9,gC9,sA9,sZ9,sC9]
     refine wpAnyH_ready (rs := [5]) (by kernel_rfl) (by simp) ?_
     refine AllReadyH.cons rfl (fun K hK => ?_) AllReadyH.nil
     go_simp
     refine (HM.out).mono ?_
     rintro e V ⟨rfl, hv⟩
     refine hK.out _ _ ⟨range_on HCf.out (bstep (drew_bel wr) hv), range_on HK.out.2 (bstep (drew_bel wr) hv)⟩ (fun hHeld => ?_)
     clear hK K
     refine wG9 6 (.bool true) rfl hHeld ?_
     simp only [Act.put,gA9,gZ9,gC9,sA9,sZ9,sC9]
     refine wG9 7 (.int .i64 (-1)) rfl hHeld ?_
     simp only [Act.put,gA9,gZ9,gC9,sA9,sZ9,sC9]
     refine wX9 8 (.bool true) rfl (Or.inl ⟨by rfl, fun w' hS => by first | (go_simp; done) | (go_simp; omega)⟩) hHeld ?_
     simp only [Act.put,gA9,gZ9,gC9,sA9,sZ9,sC9]
     refine wG9 9 (.bool true) rfl hHeld ?_
     simp only [Act.put,gA9,gZ9,gC9,sA9,sZ9,sC9]
     refine wS9 10 rfl hHeld ?_
     simp only [Act.put,gA9,gZ9,gC9,sA9,sZ9,sC9]
     refine wS9 11 rfl hHeld ?_
     simp only [Act.put,gA9,gZ9,gC9,sA9,sZ9,sC9]
     refine wS9 12 rfl hHeld ?_
     simp only [Act.put,gA9,gZ9,gC9,sA9,sZ9,sC9]
     refine wS9 13 rfl hHeld ?_
     simp only [Act.put,gA9,gZ9,gC9,sA9,sZ9,sC9]
     refine wS9 14 rfl hHeld ?_
     simp only [Act.put,gA9,gZ9,gC9,sA9,sZ9,sC9]
     refine wS9 15 rfl hHeld ?_
     simp only [Act.put,gA9,gZ9,gC9,sA9,sZ9,sC9]
     refine wS9 16 rfl hHeld ?_
     simp only [Act.put,gA9,gZ9,gC9,sA9,sZ9,sC9]
     refine wS9 17 rfl hHeld ?_
     simp only [Act.put,gA9,gZ9,gC9,sA9,sZ9,sC9]
     refine wS9 18 rfl hHeld ?_
     simp only [Act.put,gA9,gZ9,gC9,sA9,sZ9,sC9]
     refine wG9 19 (.bool true) rfl hHeld ?_
     simp only [Act.put,gA9,gZ9,gC9,sA9,sZ9,sC9]
     refine wG9 20 (.bool true) rfl hHeld ?_
     simp only [Act.put,gA9,gZ9,gC9,sA9,sZ9,sC9]
     refine wpAnyH_done (by kernel_rfl) ?_ _
     clear hHeld
     go_wp2
     exact ⟨⟨c + 1, by omega, by go_num, ⟨(c : Int), rfl, HX.out⟩, bstep HB.out (bstep (drew_bel wr) hv)⟩, by simp [intOf]; omega⟩
    ·have cc := Hwc.out c hlt
     have cmm := Hwc.out mm (by omega)
     have m0 : (0 : Int) ≤ (mm : Int) := Int.natCast_nonneg _
     have m1 : (mm : Int) < (L : Int) := by omega
     by_cases hle : who.getD c 0 < who.getD mm 0
     ·have HX : Hid (LwK (cos fs) who s (c + 1) (c : Int)) := Hless.out mm hh rfl hle
      generalize who.getD c 0 = yc at *
      generalize who.getD mm 0 = ym at *
      clear hh HM0
      go_wp2
      refine wp_region_held_drew (S := (fun w' => w'.rangeAt b (off + c * 7) f.cs ∧ w'.rangeAt kb 0 (slotV s) ∧ w'.cell? ⟨wb, wo + c, none⟩ = some (.int .i64 yc) ∧ w'.cell? ⟨wb, wo + mm, none⟩ = some (.int .i64 ym))) (by kernel_rfl) ⟨HCf.out, HK.out.2, cc, cmm⟩ (fun hHeld => ?_)
      simp only [Act.put, List.size_toArray, List.length_cons, List.length_nil, Nat.zero_add]
      refine wG9 0 (.slice (some ⟨b, off, none⟩) L cp) rfl hHeld ?_
      simp only [Act.put,gA9,gZ9,gC9,sA9,sZ9,sC9]
      refine wG9 1 (.int .i64 (c : Int)) rfl hHeld ?_
      simp only [Act.put,gA9,gZ9,gC9,sA9,sZ9,sC9]
      refine wG9 2 (.pointer (some ⟨b, off + c * 7, none⟩)) rfl hHeld ?_
      simp only [Act.put,gA9,gZ9,gC9,sA9,sZ9,sC9]
      refine wpAnyH_take (i := 3) (v := .agg (f.cs).toArray) rfl (by kernel_rfl) (by kernel_rfl) (by kernel_rfl) (fun _ _ _ h => h) (yieldsIf_load_mid (by rfl) 28 (.tmp 17) rfl b (off + c * 7) (by rfl) (f.cs) _ (fun w' hS => hS.1) Try.underlying28 rfl info_flush) hHeld ?_
      simp only [Act.put,gA9,gZ9,gC9,sA9,sZ9,sC9]
      refine wpAnyH_take (i := 4) (v := .agg (slotV s).toArray) rfl (by kernel_rfl) (by kernel_rfl) (by kernel_rfl) (fun _ _ _ h => h) (yieldsIf_load_mid (by rfl) 76 (.tmp 5) rfl kb 0 (by rfl) (slotV s) _ (fun w' hS => hS.2.1) Try.underlying76 rfl info_slot) hHeld ?_
      simp only [Act.put,gA9,gZ9,gC9,sA9,sZ9,sC9]
      refine wpAnyH_ready (rs := [5]) (by kernel_rfl) (by simp) ?_
      refine AllReadyH.cons rfl (fun K hK => ?_) AllReadyH.nil
      go_simp
      refine (HM.out).mono ?_
      rintro e V ⟨rfl, hv⟩
      refine hK.out _ _ ⟨range_on HCf.out (bstep (drew_bel wr) hv), range_on HK.out.2 (bstep (drew_bel wr) hv), below_at (bstep (drew_bel wr) hv) cc, below_at (bstep (drew_bel wr) hv) cmm⟩ (fun hHeld => ?_)
      clear hK K
      refine wG9 6 (.bool true) rfl hHeld ?_
      simp only [Act.put,gA9,gZ9,gC9,sA9,sZ9,sC9]
      refine wG9 7 (.int .i64 (mm : Int)) rfl hHeld ?_
      simp only [Act.put,gA9,gZ9,gC9,sA9,sZ9,sC9]
      refine wX9 8 (.bool false) rfl (Or.inl ⟨by rfl, fun w' hS => by first | (go_simp; done) | (go_simp; omega)⟩) hHeld ?_
      simp only [Act.put,gA9,gZ9,gC9,sA9,sZ9,sC9]
      refine wG9 9 (.bool false) rfl hHeld ?_
      simp only [Act.put,gA9,gZ9,gC9,sA9,sZ9,sC9]
      refine wG9 10 (.slice (some ⟨wb, wo, none⟩) L wcp) rfl hHeld ?_
      simp only [Act.put,gA9,gZ9,gC9,sA9,sZ9,sC9]
      refine wG9 11 (.int .i64 (c : Int)) rfl hHeld ?_
      simp only [Act.put,gA9,gZ9,gC9,sA9,sZ9,sC9]
      refine wG9 12 (.pointer (some ⟨wb, wo + c, none⟩)) rfl hHeld ?_
      simp only [Act.put,gA9,gZ9,gC9,sA9,sZ9,sC9]
      refine wX9 13 (.int .i64 yc) rfl (Or.inl ⟨by rfl, fun w' hS => by (obtain ⟨s0, s1, s2, s3⟩ := hS; go_simp)⟩) hHeld ?_
      simp only [Act.put,gA9,gZ9,gC9,sA9,sZ9,sC9]
      refine wG9 14 (.slice (some ⟨wb, wo, none⟩) L wcp) rfl hHeld ?_
      simp only [Act.put,gA9,gZ9,gC9,sA9,sZ9,sC9]
      refine wG9 15 (.int .i64 (mm : Int)) rfl hHeld ?_
      simp only [Act.put,gA9,gZ9,gC9,sA9,sZ9,sC9]
      refine wG9 16 (.pointer (some ⟨wb, wo + mm, none⟩)) rfl hHeld ?_
      simp only [Act.put,gA9,gZ9,gC9,sA9,sZ9,sC9]
      refine wX9 17 (.int .i64 ym) rfl (Or.inl ⟨by rfl, fun w' hS => by (obtain ⟨s0, s1, s2, s3⟩ := hS; go_simp)⟩) hHeld ?_
      simp only [Act.put,gA9,gZ9,gC9,sA9,sZ9,sC9]
      refine wX9 18 (.bool true) rfl (Or.inl ⟨by rfl, fun w' hS => by first | (go_simp; done) | (go_simp; omega)⟩) hHeld ?_
      simp only [Act.put,gA9,gZ9,gC9,sA9,sZ9,sC9]
      refine wG9 19 (.bool true) rfl hHeld ?_
      simp only [Act.put,gA9,gZ9,gC9,sA9,sZ9,sC9]
      refine wG9 20 (.bool true) rfl hHeld ?_
      simp only [Act.put,gA9,gZ9,gC9,sA9,sZ9,sC9]
      refine wpAnyH_done (by kernel_rfl) ?_ _
      clear hHeld
      go_wp2
      exact ⟨⟨c + 1, by omega, by go_num, ⟨(c : Int), rfl, HX.out⟩, bstep HB.out (bstep (drew_bel wr) hv)⟩, by simp [intOf]; omega⟩
     ·have HX : Hid (LwK (cos fs) who s (c + 1) (mm : Int)) := Hkeep.out mm rfl hle
      generalize who.getD c 0 = yc at *
      generalize who.getD mm 0 = ym at *
      clear hh HM0
      go_wp2
      refine wp_region_held_drew (S := (fun w' => w'.rangeAt b (off + c * 7) f.cs ∧ w'.rangeAt kb 0 (slotV s) ∧ w'.cell? ⟨wb, wo + c, none⟩ = some (.int .i64 yc) ∧ w'.cell? ⟨wb, wo + mm, none⟩ = some (.int .i64 ym))) (by kernel_rfl) ⟨HCf.out, HK.out.2, cc, cmm⟩ (fun hHeld => ?_)
      simp only [Act.put, List.size_toArray, List.length_cons, List.length_nil, Nat.zero_add]
      refine wG9 0 (.slice (some ⟨b, off, none⟩) L cp) rfl hHeld ?_
      simp only [Act.put,gA9,gZ9,gC9,sA9,sZ9,sC9]
      refine wG9 1 (.int .i64 (c : Int)) rfl hHeld ?_
      simp only [Act.put,gA9,gZ9,gC9,sA9,sZ9,sC9]
      refine wG9 2 (.pointer (some ⟨b, off + c * 7, none⟩)) rfl hHeld ?_
      simp only [Act.put,gA9,gZ9,gC9,sA9,sZ9,sC9]
      refine wpAnyH_take (i := 3) (v := .agg (f.cs).toArray) rfl (by kernel_rfl) (by kernel_rfl) (by kernel_rfl) (fun _ _ _ h => h) (yieldsIf_load_mid (by rfl) 28 (.tmp 17) rfl b (off + c * 7) (by rfl) (f.cs) _ (fun w' hS => hS.1) Try.underlying28 rfl info_flush) hHeld ?_
      simp only [Act.put,gA9,gZ9,gC9,sA9,sZ9,sC9]
      refine wpAnyH_take (i := 4) (v := .agg (slotV s).toArray) rfl (by kernel_rfl) (by kernel_rfl) (by kernel_rfl) (fun _ _ _ h => h) (yieldsIf_load_mid (by rfl) 76 (.tmp 5) rfl kb 0 (by rfl) (slotV s) _ (fun w' hS => hS.2.1) Try.underlying76 rfl info_slot) hHeld ?_
      simp only [Act.put,gA9,gZ9,gC9,sA9,sZ9,sC9]
      refine wpAnyH_ready (rs := [5]) (by kernel_rfl) (by simp) ?_
      refine AllReadyH.cons rfl (fun K hK => ?_) AllReadyH.nil
      go_simp
      refine (HM.out).mono ?_
      rintro e V ⟨rfl, hv⟩
      refine hK.out _ _ ⟨range_on HCf.out (bstep (drew_bel wr) hv), range_on HK.out.2 (bstep (drew_bel wr) hv), below_at (bstep (drew_bel wr) hv) cc, below_at (bstep (drew_bel wr) hv) cmm⟩ (fun hHeld => ?_)
      clear hK K
      refine wG9 6 (.bool true) rfl hHeld ?_
      simp only [Act.put,gA9,gZ9,gC9,sA9,sZ9,sC9]
      refine wG9 7 (.int .i64 (mm : Int)) rfl hHeld ?_
      simp only [Act.put,gA9,gZ9,gC9,sA9,sZ9,sC9]
      refine wX9 8 (.bool false) rfl (Or.inl ⟨by rfl, fun w' hS => by first | (go_simp; done) | (go_simp; omega)⟩) hHeld ?_
      simp only [Act.put,gA9,gZ9,gC9,sA9,sZ9,sC9]
      refine wG9 9 (.bool false) rfl hHeld ?_
      simp only [Act.put,gA9,gZ9,gC9,sA9,sZ9,sC9]
      refine wG9 10 (.slice (some ⟨wb, wo, none⟩) L wcp) rfl hHeld ?_
      simp only [Act.put,gA9,gZ9,gC9,sA9,sZ9,sC9]
      refine wG9 11 (.int .i64 (c : Int)) rfl hHeld ?_
      simp only [Act.put,gA9,gZ9,gC9,sA9,sZ9,sC9]
      refine wG9 12 (.pointer (some ⟨wb, wo + c, none⟩)) rfl hHeld ?_
      simp only [Act.put,gA9,gZ9,gC9,sA9,sZ9,sC9]
      refine wX9 13 (.int .i64 yc) rfl (Or.inl ⟨by rfl, fun w' hS => by (obtain ⟨s0, s1, s2, s3⟩ := hS; go_simp)⟩) hHeld ?_
      simp only [Act.put,gA9,gZ9,gC9,sA9,sZ9,sC9]
      refine wG9 14 (.slice (some ⟨wb, wo, none⟩) L wcp) rfl hHeld ?_
      simp only [Act.put,gA9,gZ9,gC9,sA9,sZ9,sC9]
      refine wG9 15 (.int .i64 (mm : Int)) rfl hHeld ?_
      simp only [Act.put,gA9,gZ9,gC9,sA9,sZ9,sC9]
      refine wG9 16 (.pointer (some ⟨wb, wo + mm, none⟩)) rfl hHeld ?_
      simp only [Act.put,gA9,gZ9,gC9,sA9,sZ9,sC9]
      refine wX9 17 (.int .i64 ym) rfl (Or.inl ⟨by rfl, fun w' hS => by (obtain ⟨s0, s1, s2, s3⟩ := hS; go_simp)⟩) hHeld ?_
      simp only [Act.put,gA9,gZ9,gC9,sA9,sZ9,sC9]
      refine wX9 18 (.bool false) rfl (Or.inl ⟨by rfl, fun w' hS => by first | (go_simp; done) | (go_simp; omega)⟩) hHeld ?_
      simp only [Act.put,gA9,gZ9,gC9,sA9,sZ9,sC9]
      refine wG9 19 (.bool false) rfl hHeld ?_
      simp only [Act.put,gA9,gZ9,gC9,sA9,sZ9,sC9]
      refine wG9 20 (.bool false) rfl hHeld ?_
      simp only [Act.put,gA9,gZ9,gC9,sA9,sZ9,sC9]
      refine wpAnyH_done (by kernel_rfl) ?_ _
      clear hHeld
      go_wp2
      exact ⟨⟨c + 1, by omega, by go_num, ⟨(mm : Int), rfl, HX.out⟩, bstep HB.out (bstep (drew_bel wr) hv)⟩, by simp [intOf]; omega⟩
  ·obtain rfl : c = L := by omega
   go_wp2
   go_ret
   exact ⟨r, rfl, HSl.out r HKk.out, HBw.out⟩
end
end Go.Proofs.Ytobaooebjgoaiaa.Fm
