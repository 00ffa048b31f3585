import Derived.Test.YtdegjhkjmgimpaaV17
import Derived.Test.YtdegjhkjmgimpaaV18
import Derived.Test.YtdegjhkjmgimpaaV23
namespace Go.Proofs.Ytdegjhkjmgimpaa.Mb
open Go.RowKit
set_option linter.unusedVariables false
set_option maxRecDepth 100000
set_option linter.unusedSimpArgs false
section
variable {A A' : Ag} {w w' W : World} {B : Nat} {T : Int}
def Ag.fresh (A : Ag) (q : Nat) (inc : Int) (p : Pq) : Bool := decide ((A.lat q).set.getD q 0 < inc) || (decide (inc = (A.lat q).set.getD q 0) && decide ((A.lat q).rev < p.rev))
def Ag.takE (A : Ag) (q inc : Int) (p : Pq) : Int :=
  if A.tkOk q inc = false then 1 else if p.valid q.toNat inc A.n = false then 60 else if inc < (A.lat q.toNat).set.getD q.toNat 0 then 50 else if A.fresh q.toNat inc p = false then 51 else (A.set1 q.toNat p.pp).folE q.toNat
def Ag.takA (A : Ag) (q inc : Int) (p : Pq) : Ag :=
  if A.tkOk q inc = false then A else if p.valid q.toNat inc A.n = false then A else if inc < (A.lat q.toNat).set.getD q.toNat 0 then A else if A.fresh q.toNat inc p = false then A else A.tk1 q.toNat p.pp
def Ag.takB (A : Ag) (q inc : Int) (p : Pq) : Bool :=
  if A.tkOk q inc = false then false else if p.valid q.toNat inc A.n = false then false else if inc < (A.lat q.toNat).set.getD q.toNat 0 then false else if A.fresh q.toNat inc p = false then false else (A.set1 q.toNat p.pp).folB q.toNat
theorem take_any (h : A.Ok w B T) (hT : 4611686018427387903 ≤ T) (q inc : Int) (p : Pq) (hp : p.Rd w) : Calls Try.prog 19 #[.pointer (some ⟨A.b, 0, none⟩), .int .i64 q, .int .i64 inc, .agg p.cs] w fun e w' => e = .returned (.tuple #[.bool (A.takB q inc p), .int .i64 (A.takE q inc p)]) ∧ (A.takA q inc p).Ok w' B T ∧ Kept w w' (fun j => j = A.b) := by
  unfold Ag.takE Ag.takA Ag.takB
  by_cases h1 : A.tkOk q inc = false
  · simp only [if_pos h1]
    refine (take_arg h q inc p h1).mono ?_
    rintro e w' ⟨rfl, hb⟩
    exact ⟨rfl, h.still hb, Kept.ofBelow hb _⟩
  · simp only [if_neg h1]
    have h2 : A.tkOk q inc = true := by cases hx : A.tkOk q inc with | false => exact absurd hx h1 | true => rfl
    unfold Ag.tkOk at h2
    simp only [Bool.and_eq_true] at h2
    obtain ⟨⟨h3, h4⟩, h5⟩ := h2
    have h3' := of_decide_eq_true h3
    have h5' := of_decide_eq_true h5
    have h16 := h.n16
    obtain ⟨k, rfl⟩ : ∃ k : Nat, q = k := ⟨q.toNat, by omega⟩
    have hk : k < A.n := by omega
    have hks : k ≠ A.self := by
      intro e
      subst e
      simp at h4
    rw [Int.toNat_natCast]
    by_cases hv : p.valid k inc A.n = false
    · simp only [if_pos hv]
      refine (take_set h k hk hks inc h5' p hp hv).mono ?_
      rintro e w' ⟨rfl, hb⟩
      exact ⟨rfl, h.still hb, Kept.ofBelow hb _⟩
    · simp only [if_neg hv]
      have hv' : p.valid k inc A.n = true := by cases hx : p.valid k inc A.n with | false => exact absurd hx hv | true => rfl
      by_cases ho : inc < (A.lat k).set.getD k 0
      · simp only [if_pos ho]
        refine (take_old h k hk hks inc h5' p hp hv' ho).mono ?_
        rintro e w' ⟨rfl, hb⟩
        exact ⟨rfl, h.still hb, Kept.ofBelow hb _⟩
      · simp only [if_neg ho]
        by_cases hg : (A.lat k).set.getD k 0 < inc
        · have hf : ¬ A.fresh k inc p = false := by unfold Ag.fresh; rw [decide_eq_true hg, Bool.true_or]; simp
          simp only [if_neg hf]
          exact take_gt h k hk hks inc h5' p hp hT hv' hg
        · have he : inc = (A.lat k).set.getD k 0 := by omega
          by_cases hr : (A.lat k).rev < p.rev
          · have hf : ¬ A.fresh k inc p = false := by unfold Ag.fresh; rw [decide_eq_true he, decide_eq_true hr]; simp
            simp only [if_neg hf]
            exact take_eq h k hk hks inc h5' p hp hT hv' he hr
          · have hf : A.fresh k inc p = false := by unfold Ag.fresh; rw [decide_eq_false hg, decide_eq_false hr]; simp
            simp only [if_pos hf]
            refine (take_stale h k hk hks inc h5' p hp hv' he (by omega)).mono ?_
            rintro e w' ⟨rfl, hb⟩
            exact ⟨rfl, h.still hb, Kept.ofBelow hb _⟩
end
end Go.Proofs.Ytdegjhkjmgimpaa.Mb
namespace Go.Proofs.Ytdegjhkjmgimpaa.Mb
open Go.RowKit
set_option linter.unusedVariables false
set_option maxRecDepth 100000
set_option linter.unusedSimpArgs false
section
variable {A A' : Ag} {w w' W : World} {B : Nat} {T : Int}
theorem topL_le2 (A : Ag) (h0 : 0 ≤ A.own.top ∧ A.own.top ≤ 4611686018427387903) (hl : ∀ q, 0 ≤ (A.lat q).top ∧ (A.lat q).top ≤ 4611686018427387903) (l : List Nat) : 0 ≤ A.topL l ∧ A.topL l ≤ 4611686018427387903 := by
  unfold Ag.topL
  generalize A.own.top = t at *
  induction l generalizing t with
  | nil => exact h0
  | cons q l ih => exact ih (max t (A.lat q).top) (by have := hl q; omega)
def Ag.avI (A : Ag) : List Int := [A.topL A.mids + 1, ((A.mids.getD 0 0 : Nat) : Int), A.own.set.getD (A.mids.getD 0 0) 0, A.own.vec.getD (A.mids.getD 0 0) 0]
def Ag.inst (A : Ag) (g c : Nat) : Ag := { A with id := A.avI, msv := .slice (some ⟨g, 0, none⟩) A.mids.length c, k := A.mids.length, ms := A.msL A.mids, chg := false }
theorem msL_len (A : Ag) (l : List Nat) : (A.msL l).length = 3 * l.length := by
  induction l with
  | nil => rfl
  | cons q l ih =>
    have : A.msL (q :: l) = [(q : Int), A.own.set.getD q 0, A.own.vec.getD q 0] ++ A.msL l := rfl
    rw [this, List.length_append, ih]
    simp
    omega
theorem Ag.Ok.putView (h : A.Ok w B T) (g c : Nat) (ho : w.ownsRow B 79 3 (.slice (some ⟨g, 0, none⟩) A.mids.length c) A.mids.length (ints (A.msL A.mids))) (hgb : g ≠ A.b) (ht : 0 ≤ A.own.top ∧ A.own.top ≤ 4611686018427387903) : ({ A with id := A.avI, msv := .slice (some ⟨g, 0, none⟩) A.mids.length c, k := A.mids.length, ms := A.msL A.mids } : Ag).Ok (w.setCells A.b 665 (A.avC g c).toList) B T := by
  have k := ksets (P := fun j => j = A.b) rfl (A.avC g c).toList 665 w
  have htl := topL_le2 A ht h.lt A.mids
  refine { h with blk := ?_, il := rfl, mem := k.owns ho (fun j hj e => ?_), ml := ⟨msL_len A _, by have := mids_len A; have := h.n16; show A.mids.length ≤ 16; omega⟩, ep := ⟨by show 0 ≤ A.topL A.mids + 1; omega, by show A.topL A.mids + 1 ≤ _; omega⟩ }
  · refine (Fb.sets (A.avC g c).toList 665 w _ h.blk).congr fun i hi => ?_
    have hl : (A.avC g c).toList.length = 5 := rfl
    rw [hl]
    by_cases e : 665 ≤ i ∧ i < 665 + 5
    · rw [if_pos e]
      have : i = 665 ∨ i = 666 ∨ i = 667 ∨ i = 668 ∨ i = 669 := by omega
      rcases this with rfl | rfl | rfl | rfl | rfl <;> rfl
    · rw [if_neg e]
      unfold Ag.at
      by_cases e0 : i < 665
      · repeat' split
        all_goals first | rfl | omega
      · have : i = 670 := by omega
        subst this
        rfl
  · simp [Value.ownBlock] at hj; omega
set_option maxHeartbeats 2000000 in
theorem install_no (h : A.Ok w B T) (hg : A.agr = false) : Calls Try.prog 7 #[.pointer (some ⟨A.b, 0, none⟩)] w fun e w' => e = .returned (.tuple #[.agg #[.int .i64 0, .int .i64 0, .int .i64 0, .int .i64 0, .slice none 0 0], .slice none 0 0, .int .i64 61]) ∧ Below w.heap.size w w' := by
  generalize hW1 : w.alloc (.cells #[.int .i64 0, .int .i64 0, .int .i64 0, .int .i64 0, .slice none 0 0] 42) = W1
  have b1 : Below w.heap.size w W1 := hW1 ▸ balloc (Below.refl _ _)
  have k1 : W1.heap[w.heap.size]? = some (.cells #[.int .i64 0, .int .i64 0, .int .i64 0, .int .i64 0, .slice none 0 0] 42 (0, 0)) := by rw [← hW1]; exact heap_alloc_new w _
  have HI : Hid (Calls Try.prog 17 #[.pointer (some ⟨A.b, 0, none⟩)] W1 fun e w' => e = .returned (.tuple #[.agg #[.int .i64 0, .int .i64 0, .int .i64 0, .int .i64 0, .slice none 0 0], .slice none 0 0, .bool false]) ∧ Below W1.heap.size W1 w') := agreed_no (h.still b1) hg
  have HK : Hid (W1.heap[w.heap.size]? = some (.cells #[.int .i64 0, .int .i64 0, .int .i64 0, .int .i64 0, .slice none 0 0] 42 (0, 0))) := k1
  have HB1 : Hid (Below w.heap.size w W1) := b1
  clear h b1 k1
  go_enter Try.func7, Try.ntmps7
  go_wp2_with (first
    | (refine wpList_store_row rfl 42 (.tmp 5) (.tmp 11) rfl W2.heap.size #[.int .i64 0, .int .i64 0, .int .i64 0, .int .i64 0, .slice none 0 0] rfl rfl 42 _ HK3.out (by kernel_rfl) rfl (by simp [Value.oneCell']) ?_; have HK4 : Hid ((W3.setRow W2.heap.size #[.int .i64 0, .int .i64 0, .int .i64 0, .int .i64 0, .slice none 0 0]).heap[w.heap.size]? = some (.cells #[.int .i64 0, .int .i64 0, .int .i64 0, .int .i64 0, .slice none 0 0] 42 (0, 0))) := (setRow_other W3 _ _ _ (by omega)).trans HK3w.out; have HB4 : Hid (Below w.heap.size w (W3.setRow W2.heap.size #[.int .i64 0, .int .i64 0, .int .i64 0, .int .i64 0, .slice none 0 0])) := below_setRow HB3.out (by omega) _; generalize W3.setRow W2.heap.size #[.int .i64 0, .int .i64 0, .int .i64 0, .int .i64 0, .slice none 0 0] = V at *; clear HK3 HK3w HB3)
    | (refine wpList_store_row rfl 42 (.tmp 2) (.tmp 16) rfl w.heap.size #[.int .i64 0, .int .i64 0, .int .i64 0, .int .i64 0, .slice none 0 0] rfl rfl 42 _ HK4.out (by kernel_rfl) rfl (by simp [Value.oneCell']) ?_)
    | (go_at_call 17; refine HI.out.mono ?_; rintro e W2 ⟨rfl, hb2⟩; generalize hW3 : W2.alloc (.cells #[.int .i64 0, .int .i64 0, .int .i64 0, .int .i64 0, .slice none 0 0] 42) = W3; have hlt2 : w.heap.size < W2.heap.size := (by have := lt_heap HK.out; have := hb2.size; omega); have HK3 : Hid (W3.heap[W2.heap.size]? = some (.cells #[.int .i64 0, .int .i64 0, .int .i64 0, .int .i64 0, .slice none 0 0] 42 (0, 0))) := (by show _ = _; rw [← hW3]; exact heap_alloc_new W2 _); have HK3w : Hid (W3.heap[w.heap.size]? = some (.cells #[.int .i64 0, .int .i64 0, .int .i64 0, .int .i64 0, .slice none 0 0] 42 (0, 0))) := (by show _ = _; rw [← hW3]; exact blk_alloc ((hb2.block _ (lt_heap HK.out)).trans HK.out)); have HB3 : Hid (Below w.heap.size w W3) := (by show Below _ _ _; rw [← hW3]; exact balloc (bstep HB1.out hb2)); clear hb2)
    | fail)
  (try simp only [Exit.inBlock, Exit.then])
  refine bodyPost_ret (v := .tuple #[.agg #[.int .i64 0, .int .i64 0, .int .i64 0, .int .i64 0, .slice none 0 0], .slice none 0 0, .int .i64 61]) ?_ ?_ ?_
  · exact results_cell_tmp2 rfl _ _ w.heap.size 42 _ _ _ _ rfl rfl rfl (setRow_heap V w.heap.size _ #[.int .i64 0, .int .i64 0, .int .i64 0, .int .i64 0, .slice none 0 0] 42 _ HK4.out) Try.underlying42 rfl (by kernel_rfl)
  · rfl
  · exact ⟨rfl, below_setRow HB4.out (Nat.le_refl _) _⟩
theorem install_mid {W1 W2 : World} {g c : Nat} {v : Value} (h : A.Ok w B 4611686018427387903) (hB1 : Below w.heap.size w W1) (hK : W1.heap[w.heap.size]? = some (.cells #[.int .i64 0, .int .i64 0, .int .i64 0, .int .i64 0, .slice none 0 0] 42 (0, 0))) (ho2 : W2.ownsRow W1.heap.size 79 3 (.slice (some ⟨g, 0, none⟩) A.mids.length c) A.mids.length (ints (A.msL A.mids))) (ht2 : W2.ownsRow W1.heap.size 3 1 v (A.wl (A.tog)).length (ints (A.wl (A.tog)))) (hgv : ∀ k, v.ownBlock = some k → g < k) (hb2 : Below W1.heap.size W1 W2) :
    ∃ W3 V4 V6 W7 : World, W2.alloc (.cells #[.int .i64 0, .int .i64 0, .int .i64 0, .int .i64 0, .slice none 0 0] 42) = W3 ∧ W3.setRow W2.heap.size (A.avC g c) = V4 ∧ V4.setCells A.b 665 (A.avC g c).toList = V6 ∧ V6.setCell ⟨A.b, 670, none⟩ (.bool false) = W7 ∧ Hid (W3.heap[W2.heap.size]? = some (.cells #[.int .i64 0, .int .i64 0, .int .i64 0, .int .i64 0, .slice none 0 0] 42 (0, 0))) ∧ Hid (V4.heap[W2.heap.size]? = some (.cells (A.avC g c) 42 (0, 0))) ∧ Hid (A.Ok V4 B 4611686018427387903) ∧ (V6.cell? ⟨A.b, 670, none⟩ = some (.bool A.chg) ∧ V6.frozen? ⟨A.b, 670, none⟩ = false) ∧ Hid ((A.inst g c).Ok W7 B 4611686018427387903) ∧ Hid (W7.heap[w.heap.size]? = some (.cells #[.int .i64 0, .int .i64 0, .int .i64 0, .int .i64 0, .slice none 0 0] 42 (0, 0))) ∧
      Hid (W7.ownsRow W1.heap.size 3 1 v (A.wl (A.tog)).length (ints (A.wl (A.tog))) ∧ w.heap.size < g ∧ g < W7.heap.size ∧ (∀ k, v.ownBlock = some k → g < k ∧ k < W7.heap.size) ∧ w.heap.size < W1.heap.size ∧ Kept w W7 (fun j => j = A.b)) := by
  have l0 := lt_heap hK
  have l1 := hb2.size
  have lb := h.lt_b
  have hge := h.ge
  have hgl := World.ownsRow.lt ho2 g rfl
  have a3 : Below W2.heap.size W2 (W2.alloc (.cells #[.int .i64 0, .int .i64 0, .int .i64 0, .int .i64 0, .slice none 0 0] 42)) := balloc (Below.refl _ _)
  have b3 : Below W2.heap.size W2 ((W2.alloc (.cells #[.int .i64 0, .int .i64 0, .int .i64 0, .int .i64 0, .slice none 0 0] 42)).setRow W2.heap.size (A.avC g c)) := below_setRow a3 (Nat.le_refl _) _
  have k3 : (W2.alloc (.cells #[.int .i64 0, .int .i64 0, .int .i64 0, .int .i64 0, .slice none 0 0] 42)).heap[W2.heap.size]? = some (.cells #[.int .i64 0, .int .i64 0, .int .i64 0, .int .i64 0, .slice none 0 0] 42 (0, 0)) := heap_alloc_new W2 _
  have k4 := setRow_heap (W2.alloc (.cells #[.int .i64 0, .int .i64 0, .int .i64 0, .int .i64 0, .slice none 0 0] 42)) W2.heap.size _ (A.avC g c) 42 _ k3
  have hB4 := bstep (bstep hB1 hb2) b3
  have hA4 := h.still hB4
  have ho4 := own_still ho2 b3
  have ht4 := own_still ht2 b3
  generalize hW3 : W2.alloc (.cells #[.int .i64 0, .int .i64 0, .int .i64 0, .int .i64 0, .slice none 0 0] 42) = W3 at *
  generalize hV4 : W3.setRow W2.heap.size (A.avC g c) = V4 at *
  have hA6 := hA4.putView g c (own_lower ho4 (by omega)) (by omega) h.top
  have k6 := ksets (P := fun j => j = A.b) rfl (A.avC g c).toList 665 V4
  generalize hV6 : V4.setCells A.b 665 (A.avC g c).toList = V6 at *
  have hA7 := hA6.putChg false
  have k7 := kset (P := fun j => j = A.b) V6 A.b 670 (.bool false) rfl
  have kk := k6.trans k7
  have hs7 : V4.heap.size ≤ (V6.setCell ⟨A.b, 670, none⟩ (.bool false)).heap.size := kk.size
  refine ⟨W3, V4, V6, _, rfl, hV4, hV6, rfl, k3, k4, hA4, ⟨hA6.c670, hA6.fz 670⟩, hA7, ?_, ?_⟩
  · have e1 : V4.heap[w.heap.size]? = some (.cells #[.int .i64 0, .int .i64 0, .int .i64 0, .int .i64 0, .slice none 0 0] 42 (0, 0)) := (b3.block _ (by omega)).trans ((hb2.block _ l0).trans hK)
    exact kk.obj e1 (by omega)
  · have hsV := b3.size
    refine ⟨kk.owns ht4 (fun k hk e => ?_), by omega, by omega, fun k hk => ⟨hgv k hk, ?_⟩, by omega, (Kept.ofBelow hB4 _).trans kk⟩
    · have := (World.ownsRow.lt ht2 k hk).1; omega
    · have := (World.ownsRow.lt ht2 k hk).2; omega
def Ag.viewC (A : Ag) (v : Value) : Array Value := #[.int .i64 (A.id.getD 0 0), .int .i64 (A.id.getD 1 0), .int .i64 (A.id.getD 2 0), .int .i64 (A.id.getD 3 0), v]
set_option maxHeartbeats 4000000 in
theorem install_yes (h : A.Ok w B 4611686018427387903) (hs : A.own.set.getD A.self 0 ≠ 0) (hg : A.agr = true) : Calls Try.prog 7 #[.pointer (some ⟨A.b, 0, none⟩)] w fun e w' => ∃ g c g' c' v, e = .returned (.tuple #[.agg ((A.inst g c).viewC (.slice (some ⟨g', 0, none⟩) A.mids.length c')), v, .int .i64 0]) ∧ (A.inst g c).Ok w' B 4611686018427387903 ∧ w'.ownsRow w.heap.size 79 3 (.slice (some ⟨g', 0, none⟩) A.mids.length c') A.mids.length (ints (A.msL A.mids)) ∧ w'.ownsRow w.heap.size 3 1 v (A.wl (A.tog)).length (ints (A.wl (A.tog))) ∧ w.heap.size ≤ g ∧ g < g' ∧ (∀ k, v.ownBlock = some k → g < k ∧ k < g') ∧ Kept w w' (fun j => j = A.b) := by
  generalize hW1 : w.alloc (.cells #[.int .i64 0, .int .i64 0, .int .i64 0, .int .i64 0, .slice none 0 0] 42) = W1
  have b1 : Below w.heap.size w W1 := hW1 ▸ balloc (Below.refl _ _)
  have k1 : W1.heap[w.heap.size]? = some (.cells #[.int .i64 0, .int .i64 0, .int .i64 0, .int .i64 0, .slice none 0 0] 42 (0, 0)) := by rw [← hW1]; exact heap_alloc_new w _
  have HA0 : Hid (A.Ok w B 4611686018427387903) := h
  have HA1 : Hid (A.Ok W1 B 4611686018427387903) := h.still b1
  have HK : Hid (W1.heap[w.heap.size]? = some (.cells #[.int .i64 0, .int .i64 0, .int .i64 0, .int .i64 0, .slice none 0 0] 42 (0, 0))) := k1
  have HB1 : Hid (Below w.heap.size w W1) := b1
  have Hs : Hid (A.own.set.getD A.self 0 ≠ 0) := hs
  have Hgr : Hid (A.agr = true) := hg
  have hlb := h.lt_b
  have Hge : Hid (B ≤ A.b) := h.ge
  have Hpos : Hid (0 < A.mids.length) := mids_pos A h.n16 hs
  clear h b1 k1 hs hg
  go_enter Try.func7, Try.ntmps7
  go_wp2_with (first
    | (go_at_call 18; refine (view_any HO7.out g c rfl Hpos.out).mono ?_; rintro e W8 ⟨g', c', rfl, ho8, hb8⟩; have HB8 : Hid (Below W7.heap.size W7 W8) := hb8; have HO8 : Hid (W8.ownsRow W7.heap.size 79 3 (.slice (some ⟨g', 0, none⟩) A.mids.length c') A.mids.length (ints (A.msL A.mids))) := ho8; have HK8 : Hid (W8.heap[w.heap.size]? = some (.cells #[.int .i64 0, .int .i64 0, .int .i64 0, .int .i64 0, .slice none 0 0] 42 (0, 0))) := (hb8.block _ (lt_heap HK7.out)).trans HK7.out; clear hb8 ho8)
    | (refine wpList_store_row rfl 42 (.tmp 2) (.tmp 25) rfl w.heap.size ((A.inst g c).viewC (.slice (some ⟨g', 0, none⟩) A.mids.length c')) rfl rfl 42 _ HK8.out (by kernel_rfl) rfl (by simp [Ag.viewC, Value.oneCell']) ?_)
    | (refine wpList_store_mid rfl 42 (.tmp 21) (.tmp 19) rfl A.b 665 (A.avC g c) rfl rfl (HA4.out.blk.there 665 5 (by omega)) (by kernel_rfl) (by simp [Ag.avC, Value.oneCell']) ?_; rw [hV6])
    | (refine wpList_load_row rfl 42 (.tmp 5) rfl W2.heap.size rfl 42 (A.avC g c) (0, 0) _ HK4.out Try.underlying42 rfl (by kernel_rfl) ?_)
    | (refine wpList_store_row rfl 42 (.tmp 5) (.tmp 11) rfl W2.heap.size (A.avC g c) rfl rfl 42 _ HK3.out (by kernel_rfl) rfl (by simp [Ag.avC, Value.oneCell']) ?_; rw [hV4])
    | (go_at_call 17; refine (agreed_yes HA1.out (by omega) Hs.out Hgr.out).mono ?_; rintro e W2 ⟨g, c, v, rfl, ho2, ht2, hgv, hb2⟩; obtain ⟨W3, V4, V6, W7, hW3, hV4, hV6, hW7, HK3, HK4, HA4, f670, HO7, HK7, HQ⟩ := install_mid HA0.out HB1.out HK.out ho2 ht2 hgv hb2; obtain ⟨c670, f670⟩ := f670)
    | fail)
  (try simp only [Exit.inBlock, Exit.then])
  obtain ⟨ht7, q1, q2, q3, q4, kW7⟩ := HQ.out
  have kF : Kept W8 (W8.setRow w.heap.size ((A.inst g c).viewC (.slice (some ⟨g', 0, none⟩) A.mids.length c'))) (fun j => j = w.heap.size) := ⟨rfl, rfl, rfl, by simp [World.setRow], fun k hk hp => setRow_other W8 _ k _ hp⟩
  have hg8 := World.ownsRow.lt HO8.out g' rfl
  have hs7 := kW7.size
  refine bodyPost_ret (v := .tuple #[.agg ((A.inst g c).viewC (.slice (some ⟨g', 0, none⟩) A.mids.length c')), v, .int .i64 0]) ?_ ?_ ?_
  · exact results_cell_tmp2 rfl _ _ w.heap.size 42 _ _ _ _ rfl rfl rfl (setRow_heap W8 w.heap.size _ ((A.inst g c).viewC (.slice (some ⟨g', 0, none⟩) A.mids.length c')) 42 _ HK8.out) Try.underlying42 rfl (by kernel_rfl)
  · rfl
  · refine ⟨g, c, g', c', v, rfl, ?_, ?_, ?_, by omega, by omega, fun k hk => ⟨(q3 k hk).1, by have := (q3 k hk).2; omega⟩, ?_⟩
    · refine (HO7.out.still HB8.out).keep kF (fun e => ?_) (fun k hk e => ?_)
      · have : A.b = w.heap.size := e
        omega
      · have hk' : some g = some k := hk
        cases hk'
        omega
    · exact own_lower (kF.owns HO8.out (fun k hk e => by have := (World.ownsRow.lt HO8.out k hk).1; omega)) (by omega)
    · exact own_lower (kF.owns (own_still ht7 HB8.out) (fun k hk e => by have := (q3 k hk).1; omega)) (by omega)
    · exact (kW7.trans (Kept.ofBelow HB8.out _)).step kF (fun j hj => .inr (by omega))
end
end Go.Proofs.Ytdegjhkjmgimpaa.Mb
namespace Go.Proofs.Ytdegjhkjmgimpaa.Mb
open Go.RowKit
set_option linter.unusedVariables false
set_option maxRecDepth 100000
set_option linter.unusedSimpArgs false
section
variable {A A' : Ag} {w w' W : World} {B : Nat} {T : Int}
structure Opx where
  kind : Int
  q : Int
  inc : Int
  sa : Option Addr
  sn : Nat
  sc : Nat
  ss : List Int
  p : Pq
def Opx.cs (o : Opx) : Array Value := #[.int .i64 o.kind, .int .i64 o.q, .int .i64 o.inc, .slice o.sa o.sn o.sc, .slice o.p.sa o.p.sn o.p.sc, .int .i64 o.p.cid, .int .i64 o.p.rev, .int .i64 o.p.top, .int .i64 (o.p.prev.getD 0 0), .int .i64 (o.p.prev.getD 1 0), .int .i64 (o.p.prev.getD 2 0), .int .i64 (o.p.prev.getD 3 0), .slice o.p.va o.p.vn o.p.vc]
structure Opx.Rd (o : Opx) (w : World) : Prop where
  s : RdI w o.sa o.sn o.ss
  sn : o.sn ≤ 17592186044416
  p : o.p.Rd w
theorem Opx.Rd.still {o : Opx} (h : o.Rd w) (hb : Below w.heap.size w w') : o.Rd w' := { h with s := h.s.still hb, p := h.p.still hb }
inductive Stp (A : Ag) (o : Opx) : Int → Ag → Prop
  | est : o.kind = 1 → Stp A o (A.estE o.ss) (A.estA o.ss)
  | tak : o.kind = 2 → Stp A o (A.takE o.q o.inc o.p) (A.takA o.q o.inc o.p)
  | ins (g c : Nat) : o.kind = 5 → A.agr = true → Stp A o 0 (A.inst g c)
  | apart : o.kind = 5 → A.agr = false → Stp A o 61 A
  | none : o.kind ≠ 1 → o.kind ≠ 2 → o.kind ≠ 5 → Stp A o 0 A
theorem op_range {o : Opx} {k : Nat} (h : w.heap[k]? = some (.cells o.cs 44 (0, 0))) : w.rangeAt k 4 o.p.cs.toList := fun j v hv => by
  rw [blk_cell h]
  match j, hv with
  | 0, hv => exact hv
  | 1, hv => exact hv
  | 2, hv => exact hv
  | 3, hv => exact hv
  | 4, hv => exact hv
  | 5, hv => exact hv
  | 6, hv => exact hv
  | 7, hv => exact hv
  | 8, hv => exact hv
  | j + 9, hv => cases hv
set_option maxHeartbeats 2000000 in
theorem call_any (h : A.Ok w B 4611686018427387903) (hs : A.own.set.getD A.self 0 ≠ 0) (o : Opx) (hr : o.Rd w) : Calls Try.prog 8 #[.pointer (some ⟨A.b, 0, none⟩), .agg o.cs] w fun e w' => ∃ E A', e = .returned (.int .i64 E) ∧ A'.Ok w' B 4611686018427387903 ∧ Kept w w' (fun j => j = A.b) ∧ Stp A o E A' := by
  generalize hW1 : w.alloc (.cells o.cs 44) = W1
  have b1 : Below w.heap.size w W1 := hW1 ▸ balloc (Below.refl _ _)
  have k1 : W1.heap[w.heap.size]? = some (.cells o.cs 44 (0, 0)) := by rw [← hW1]; exact heap_alloc_new w _
  have c0 : W1.cell? ⟨w.heap.size, 0, none⟩ = some (.int .i64 o.kind) := blk_cell k1 0
  have c1 : W1.cell? ⟨w.heap.size, 1, none⟩ = some (.int .i64 o.q) := blk_cell k1 1
  have c2 : W1.cell? ⟨w.heap.size, 2, none⟩ = some (.int .i64 o.inc) := blk_cell k1 2
  have c3 : W1.cell? ⟨w.heap.size, 3, none⟩ = some (.slice o.sa o.sn o.sc) := blk_cell k1 3
  have R4 : Hid (W1.rangeAt w.heap.size 4 o.p.cs.toList) := op_range k1
  have HA : Hid (A.Ok W1 B 4611686018427387903) := h.still b1
  have HR : Hid (o.Rd W1) := hr.still b1
  have HB : Hid (Below w.heap.size w W1) := b1
  have Hs : Hid (A.own.set.getD A.self 0 ≠ 0) := hs
  obtain ⟨kd, hkd⟩ : ∃ kd, o.kind = kd := ⟨_, rfl⟩
  have Hkd : Hid (o.kind = kd) := hkd
  rw [hkd] at c0
  generalize o.cs = oc at *
  clear h hr b1 k1 hkd hs
  by_cases e1 : kd = 1
  · subst e1
    have HE : Hid (Calls Try.prog 10 #[.pointer (some ⟨A.b, 0, none⟩), .slice o.sa o.sn o.sc] W1 fun e w' => e = .returned (.tuple #[.bool (A.estB o.ss), .int .i64 (A.estE o.ss)]) ∧ (A.estA o.ss).Ok w' B 4611686018427387903 ∧ Kept W1 w' (fun j => j = A.b)) := est_any HA.out (by omega) HR.out.s HR.out.sn
    go_enter Try.func8, Try.ntmps8
    go_wp2_with (first | (go_at_call 10; refine HE.out.mono ?_; rintro e w2 ⟨rfl, hO, hK⟩) | fail)
    go_ret
    exact ⟨_, _, rfl, hO, (Kept.ofBelow HB.out _).trans hK, .est Hkd.out⟩
  by_cases e2 : kd = 2
  · subst e2
    have HE : Hid (Calls Try.prog 19 #[.pointer (some ⟨A.b, 0, none⟩), .int .i64 o.q, .int .i64 o.inc, .agg o.p.cs] W1 fun e w' => e = .returned (.tuple #[.bool (A.takB o.q o.inc o.p), .int .i64 (A.takE o.q o.inc o.p)]) ∧ (A.takA o.q o.inc o.p).Ok w' B 4611686018427387903 ∧ Kept W1 w' (fun j => j = A.b)) := take_any HA.out (by omega) o.q o.inc o.p HR.out.p
    go_enter Try.func8, Try.ntmps8
    go_wp2_with (first
      | (go_at_call 19; refine HE.out.mono ?_; rintro e w2 ⟨rfl, hO, hK⟩)
      | (refine load_mid 33 (.tmp 25) R4.out _ Try.underlying33 rfl (by kernel_rfl) rfl rfl rfl ?_)
      | fail)
    go_ret
    exact ⟨_, _, rfl, hO, (Kept.ofBelow HB.out _).trans hK, .tak Hkd.out⟩
  by_cases e5 : kd = 5
  · subst e5
    cases hg : A.agr with
    | true =>
      have HE := install_yes HA.out Hs.out hg
      have Hg : Hid (A.agr = true) := hg
      clear hg
      go_enter Try.func8, Try.ntmps8
      go_wp2_with (first | (go_at_call 7; refine HE.mono ?_; rintro e w2 ⟨g, c, g', c', v, rfl, hO, _, _, _, _, _, hK⟩) | fail)
      go_ret
      exact ⟨_, _, rfl, hO, (Kept.ofBelow HB.out _).trans hK, .ins g c Hkd.out Hg.out⟩
    | false =>
      have HE := install_no HA.out hg
      have Hg : Hid (A.agr = false) := hg
      clear hg
      go_enter Try.func8, Try.ntmps8
      go_wp2_with (first | (go_at_call 7; refine HE.mono ?_; rintro e w2 ⟨rfl, hb2⟩) | fail)
      go_ret
      exact ⟨_, _, rfl, HA.out.still hb2, Kept.ofBelow (bstep HB.out hb2) _, .apart Hkd.out Hg.out⟩
  · have f1 : (kd == 1) = false := by simpa using e1
    have f2 : (kd == 2) = false := by simpa using e2
    have f5 : (kd == 5) = false := by simpa using e5
    have E1 : Hid (o.kind ≠ 1 ∧ o.kind ≠ 2 ∧ o.kind ≠ 5) := by show _ ∧ _ ∧ _; rw [Hkd.out]; exact ⟨e1, e2, e5⟩
    go_enter Try.func8, Try.ntmps8
    go_wp2
    go_ret
    exact ⟨_, _, rfl, HA.out, Kept.ofBelow HB.out _, .none E1.out.1 E1.out.2.1 E1.out.2.2⟩
end
end Go.Proofs.Ytdegjhkjmgimpaa.Mb
