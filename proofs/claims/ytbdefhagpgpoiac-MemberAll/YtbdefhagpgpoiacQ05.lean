import Derived.Test.YtbdefhagpgpoiacQ00
import Derived.Test.YtbdefhagpgpoiacQ04
import Derived.Laws.ResultCell
namespace Go.Proofs.Ytbdefhagpgpoiac.Mb
open Go.RowKit
set_option linter.unusedVariables false
set_option maxRecDepth 100000
set_option linter.unusedSimpArgs false
section
variable {A A' : Ag} {w w' W : World} {B : Nat} {T : Int}
def RdI (w : World) (ao : Option Addr) (len : Nat) (xs : List Int) : Prop :=
  xs.length = len ∧ (len = 0 ∨ ∃ b off, ao = some ⟨b, off, none⟩ ∧ ∀ i, i < len → w.cell? ⟨b, off + i, none⟩ = some (.int .i64 (xs.getD i 0)))
theorem RdI.still {ao : Option Addr} {len : Nat} {xs : List Int} (h : RdI w ao len xs) (hb : Below w.heap.size w w') : RdI w' ao len xs := by
  obtain ⟨h1, h3⟩ := h
  refine ⟨h1, h3.elim (fun hh => .inl hh) (fun hh => .inr ?_)⟩
  obtain ⟨b, off, rfl, hc⟩ := hh
  exact ⟨b, off, rfl, fun i hi => below_at hb (hc i hi)⟩
theorem RdI.at {ao : Option Addr} {len : Nat} {xs : List Int} (h : RdI w ao len xs) {i : Nat} (hi : i < len) : ∃ b off, ao = some ⟨b, off, none⟩ ∧ w.cell? ⟨b, off + i, none⟩ = some (.int .i64 (xs.getD i 0)) := by
  obtain ⟨h1, h3⟩ := h
  rcases h3 with h3 | ⟨b, off, h4, h5⟩
  · omega
  · exact ⟨b, off, h4, h5 i hi⟩
theorem own_rd {ao : Option Addr} {n c : Nat} {xs : List Int} (h : w.ownsRow B 3 1 (.slice ao n c) n (ints xs)) : RdI w ao n xs := by
  have hl : xs.length = n := by simpa [ints] using h.1
  refine ⟨hl, ?_⟩
  by_cases h0 : n = 0
  · exact .inl h0
  · rcases h.2 with ⟨h1, h2⟩ | ⟨g, cap, cur, hv, hB, hg, hnc, hcm, hcs, htk⟩
    · omega
    · simp at hv
      refine .inr ⟨g, 0, hv.1, fun i hi => ?_⟩
      rw [Nat.zero_add, blk_cell hg i]
      have e1 : (cur.toList.take (n * 1))[i]? = (ints xs)[i]? := by rw [htk]
      rw [List.getElem?_take_of_lt (by omega)] at e1
      rw [← Array.getElem?_toList, e1]
      simp [ints, List.getD, show i < xs.length by omega]
def inR (x : Int) : Bool := decide (0 ≤ x ∧ x ≤ 4611686018427387904)
theorem results_row_tmp {fn : Func} {p u : Tmp} {ty : TypeId} (h : fn.results = #[.cell p ty, .tmp u]) (tmps : Array Value) (w : World) (g : Nat) (t : TypeId) (xs : List Int) (d : TypeDesc) (v : Value)
    (hp : tmps.getD p undef = .pointer (some ⟨g, 0, none⟩)) (hv : tmps.getD u undef = v) (hg : Rw w g t xs)
    (hu : Try.prog.underlying ty = some d) (hd : d.isRow = true) (hi : (Try.prog.info? ty).map (·.size) = some xs.length) :
    (results fn tmps).run Try.prog w = .ok (.tuple #[.agg (ints xs).toArray, v]) w := by
  rw [results_cell_tmp h, hp, hv]
  simp [asAddr, run_loadVar_mid w g 0 ty (ints xs) d hg.all hu hd (by rw [ints_len]; exact hi)]
def pad (xs : List Int) : List Int := (List.range 16).map fun i => xs.getD i 0
def padK (xs : List Int) (k : Nat) : List Int := (List.range 16).map fun i => if i < k then xs.getD i 0 else 0
theorem pad_len (xs : List Int) : (pad xs).length = 16 := by simp [pad]
theorem padK_len (xs : List Int) (k : Nat) : (padK xs k).length = 16 := by simp [padK]
theorem padK_zero (xs : List Int) : zs = padK xs 0 := by
  unfold padK zs
  rw [show (List.replicate 16 (0 : Int)) = (List.range 16).map (fun _ => 0) from rfl]
  apply List.map_congr_left
  intro q _
  simp
theorem padK_all (xs : List Int) : padK xs xs.length = pad xs := by
  unfold padK pad
  apply List.map_congr_left
  intro q _
  by_cases h : q < xs.length
  · rw [if_pos h]
  · rw [if_neg h]; simp [List.getD, h]
theorem padK_step (xs : List Int) (k : Nat) (hk : k < 16) : (padK xs k).set k (xs.getD k 0) = padK xs (k + 1) := by
  apply List.ext_getElem?
  intro i
  simp only [padK, List.getElem?_set, List.length_map, List.length_range, List.getElem?_map]
  by_cases e : k = i
  · subst e
    simp [hk]
  · by_cases h2 : i < 16
    · have : i < k + 1 ↔ i < k := by omega
      simp [e, h2, this]
    · simp [e, h2]
def okL (xs : List Int) (n : Nat) : Bool := decide (xs.length = n) && xs.all inR
set_option maxHeartbeats 2000000 in
theorem rowOf_any {ao : Option Addr} {n c : Nat} {xs : List Int} (hr : RdI w ao n xs) (m : Nat) (hm : m ≤ 16) (hn : n ≤ 17592186044416) : Calls Try.prog 33 #[.slice ao n c, .int .i64 m] w fun e w' => ∃ r, e = .returned (.tuple #[.agg (ints r).toArray, .bool (okL xs m)]) ∧ r.length = 16 ∧ (okL xs m = true → r = pad xs) ∧ Below w.heap.size w w' := by
  generalize hW1 : w.alloc (.cells #[.int .i64 0, .int .i64 0, .int .i64 0, .int .i64 0, .int .i64 0, .int .i64 0, .int .i64 0, .int .i64 0, .int .i64 0, .int .i64 0, .int .i64 0, .int .i64 0, .int .i64 0, .int .i64 0, .int .i64 0, .int .i64 0] 45) = W1
  generalize hW2 : W1.alloc (.cells #[.int .i64 0, .int .i64 0, .int .i64 0, .int .i64 0, .int .i64 0, .int .i64 0, .int .i64 0, .int .i64 0, .int .i64 0, .int .i64 0, .int .i64 0, .int .i64 0, .int .i64 0, .int .i64 0, .int .i64 0, .int .i64 0] 45) = W2
  have b1 : Below w.heap.size w W1 := hW1 ▸ balloc (Below.refl _ _)
  have b2 : Below W1.heap.size W1 W2 := hW2 ▸ balloc (Below.refl _ _)
  have s1 : W1.heap.size = w.heap.size + 1 := by rw [← hW1]; simp
  have k1 : Rw W1 w.heap.size 45 zs := by unfold Rw; rw [← hW1]; exact heap_alloc_new w _
  have k2 : Rw W2 W1.heap.size 45 zs := by unfold Rw; rw [← hW2]; exact heap_alloc_new W1 _
  have HK1 : Hid (Rw W2 w.heap.size 45 zs) := k1.still b2
  have HK2 : Hid (Rw W2 W1.heap.size 45 zs) := k2
  have HB2 : Hid (Below w.heap.size w W2) := bstep b1 b2
  have HR : Hid (RdI w ao n xs) := hr
  have hk1 : w.heap.size < W1.heap.size := by omega
  have Hl : Hid (xs.length = n) := hr.1
  clear hr b1 b2 s1 k1 k2
  by_cases hnm : n = m
  · subst hnm
    go_enter Try.func33, Try.ntmps33
    go_wp2
    go_loopw [16] (fun i wr => ∃ k : Nat, k ≤ n ∧ i = .int .i64 k ∧ (xs.take k).all inR = true ∧ Rw wr W1.heap.size 45 (padK xs k) ∧ Kept W2 wr (fun j => j = W1.heap.size)) (fun i _ => n - (intOf i).toNat)
    case atStart => exact ⟨0, Nat.zero_le _, rfl, by simp, by rw [← padK_zero]; exact HK2.out, Kept.refl _ _⟩
    case round =>
      obtain ⟨k, hk, rfl, hall, ho, hb⟩ := hrel
      have HB : Hid (Kept W2 wr (fun j => j = W1.heap.size)) := hb
      have HO : Hid (Rw wr W1.heap.size 45 (padK xs k)) := ho
      have HO1 : Hid (Rw wr w.heap.size 45 zs) := HK1.out.keep hb (by omega)
      by_cases hlt : k < n
      · have hRw : RdI wr ao n xs := HR.out.still (bstepK HB2.out hb (fun j hj e => by omega))
        obtain ⟨g, off, hg, e0⟩ := hRw.at hlt
        have HWk : Hid (∀ w', Calls Try.prog 9 #[.int .i64 (xs.getD k 0), .int .i64 0, .int .i64 4611686018427387904] w' fun e w2 => e = .returned (.bool (inR (xs.getD k 0))) ∧ w' = w2) := fun w' => within_any (xs.getD k 0) 0 4611686018427387904
        have i1 : (0 : Int) ≤ (k : Int) := Int.natCast_nonneg _
        have i2 : (k : Int) < (n : Int) := by omega
        have i3 : (k : Int) < 16 := by omega
        have hmem : Hid (inR (xs.getD k 0) = false → xs.all inR = false) := fun h => by
          have hkx : k < xs.length := by have := Hl.out; omega
          cases ha : xs.all inR with
          | false => rfl
          | true =>
            have := List.all_eq_true.1 ha (xs.getD k 0) (by simp [List.getD, hkx])
            rw [h] at this; cases this
        have hnext : Hid (inR (xs.getD k 0) = true → (xs.take (k + 1)).all inR = true) := fun h => by
          have hkx : k < xs.length := by have := Hl.out; omega
          rw [List.take_add_one, List.all_append, hall]
          have e2 : xs[k]? = some (xs.getD k 0) := by simp [List.getD, hkx]
          rw [e2]
          simpa using h
        have HP : Hid ((padK xs k).set k (xs.getD k 0) = padK xs (k + 1)) := padK_step xs k (by omega)
        have d0 := ho.cell (i := k) (by rw [padK_len]; omega)
        have d1 := ho.fz k
        subst hg
        generalize xs.getD k 0 = x at *
        clear hall ho hb hRw
        cases hx : inR x with
        | true =>
          rw [hx] at HWk
          go_wp2_with (first | (go_at_call 9; refine (HWk.out _).mono ?_; rintro e w2 ⟨rfl, rfl⟩) | fail)
          exact ⟨⟨k + 1, by omega, by go_num, hnext.out hx, by rw [← HP.out]; exact HO.out.set k x, HB.out.trans (kset _ _ _ _ rfl)⟩, by simp [intOf]; omega⟩
        | false =>
          rw [hx] at HWk
          go_wp2_with (first
            | (go_at_call 9; refine (HWk.out _).mono ?_; rintro e w2 ⟨rfl, rfl⟩)
            | (refine load_mid 45 (.tmp 6) HO.out.all _ Try.underlying45 rfl (by rw [ints_len, padK_len]; exact info_row) rfl rfl rfl ?_)
            | (refine store_mid 45 (.tmp 4) (.tmp 24) (HO1.out.there 0 (padK xs k).length (by rw [padK_len]; exact Nat.le_refl _)) (by rw [padK_len]; exact info_row) rfl rfl rfl rfl ?_)
            | fail)
          (try simp only [Exit.inBlock, Exit.then])
          refine bodyPost_ret (v := .tuple #[.agg (ints (padK xs k)).toArray, .bool false]) ?_ ?_ ?_
          · exact results_row_tmp rfl _ _ w.heap.size 45 (padK xs k) _ _ rfl rfl ((HO1.out).whole (by first | rfl | (rw [padK_len]; rfl))) Try.underlying45 rfl (by rw [padK_len]; exact info_row)
          · rfl
          · refine ⟨padK xs k, ?_, padK_len xs k, fun hh => ?_, bsets (Nat.le_refl _) _ _ (bstepK HB2.out HB.out (fun j hj e => by omega))⟩
            · unfold okL; rw [hmem.out hx, Bool.and_false]
            · unfold okL at hh; rw [hmem.out hx, Bool.and_false] at hh; cases hh
      · obtain rfl : k = n := by omega
        have Hall : Hid (xs.all inR = true) := by rw [List.take_of_length_le (by have := Hl.out; omega)] at hall; exact hall
        clear hall ho hb
        go_wp2_with (first
            | (refine load_mid 45 (.tmp 6) HO.out.all _ Try.underlying45 rfl (by rw [ints_len, padK_len]; exact info_row) rfl rfl rfl ?_)
            | (refine store_mid 45 (.tmp 4) (.tmp 29) (HO1.out.there 0 (padK xs k).length (by rw [padK_len]; exact Nat.le_refl _)) (by rw [padK_len]; exact info_row) rfl rfl rfl rfl ?_)
            | fail)
        (try simp only [Exit.inBlock, Exit.then])
        refine bodyPost_ret (v := .tuple #[.agg (ints (padK xs k)).toArray, .bool true]) ?_ ?_ ?_
        · exact results_row_tmp rfl _ _ w.heap.size 45 (padK xs k) _ _ rfl rfl ((HO1.out).whole (by first | rfl | (rw [padK_len]; rfl))) Try.underlying45 rfl (by rw [padK_len]; exact info_row)
        · rfl
        · have hl := Hl.out
          subst hl
          refine ⟨padK xs xs.length, ?_, padK_len xs _, fun hh => padK_all xs, bsets (Nat.le_refl _) _ _ (bstepK HB2.out HB.out (fun j hj e => by omega))⟩
          unfold okL; rw [Hall.out]; simp
  · have hnm' : ¬ ((n : Int) = (m : Int)) := by omega
    go_enter Try.func33, Try.ntmps33
    go_wp2_with (first
      | (refine load_mid 45 (.tmp 6) HK2.out.all _ Try.underlying45 rfl (by rw [ints_len]; exact info_row) rfl rfl rfl ?_)
      | (refine store_mid 45 (.tmp 4) (.tmp 13) (HK1.out.there 0 zs.length (Nat.le_refl _)) info_row rfl rfl rfl rfl ?_)
      | fail)
    (try simp only [Exit.inBlock, Exit.then])
    refine bodyPost_ret (v := .tuple #[.agg (ints zs).toArray, .bool false]) ?_ ?_ ?_
    · exact results_row_tmp rfl _ _ w.heap.size 45 zs _ _ rfl rfl ((HK1.out).whole (by first | rfl | (rw [zs_len]; rfl))) Try.underlying45 rfl (by rw [zs_len]; exact info_row)
    · rfl
    · have hf : okL xs m = false := by unfold okL; rw [decide_eq_false (by have := Hl.out; omega), Bool.false_and]
      exact ⟨zs, by rw [hf], rfl, (fun hh => by rw [hf] at hh; cases hh), bsets (Nat.le_refl _) _ _ HB2.out⟩
end
end Go.Proofs.Ytbdefhagpgpoiac.Mb
namespace Go.Proofs.Ytbdefhagpgpoiac.Mb
open Go.RowKit
set_option linter.unusedVariables false
set_option maxRecDepth 100000
set_option linter.unusedSimpArgs false
section
variable {A A' : Ag} {w w' W : World} {B : Nat} {T : Int}
def RdM (w : World) (ao : Option Addr) (k : Nat) (ms : List Int) : Prop :=
  ms.length = 3 * k ∧ (k = 0 ∨ ∃ g, ao = some ⟨g, 0, none⟩ ∧ ∀ j, j < 3 * k → w.cell? ⟨g, j, none⟩ = some (.int .i64 (ms.getD j 0)))
theorem RdM.still {ao : Option Addr} {k : Nat} {ms : List Int} (h : RdM w ao k ms) (hb : Below w.heap.size w w') : RdM w' ao k ms := by
  obtain ⟨h1, h3⟩ := h
  refine ⟨h1, h3.elim (fun hh => .inl hh) (fun hh => .inr ?_)⟩
  obtain ⟨g, rfl, hc⟩ := hh
  exact ⟨g, rfl, fun i hi => below_at hb (hc i hi)⟩
theorem own_rdM {ao : Option Addr} {k c : Nat} {ms : List Int} (h : w.ownsRow B 92 3 (.slice ao k c) k (ints ms)) : RdM w ao k ms := by
  have hl : ms.length = 3 * k := by have := h.1; rw [ints_len] at this; omega
  refine ⟨hl, ?_⟩
  by_cases h0 : k = 0
  · exact .inl h0
  · rcases h.2 with ⟨h1, h2⟩ | ⟨g, cap, cur, hv, hB, hg, hnc, hcm, hcs, htk⟩
    · omega
    · simp at hv
      refine .inr ⟨g, hv.1, fun i hi => ?_⟩
      rw [blk_cell hg i]
      have e1 : (cur.toList.take (k * 3))[i]? = (ints ms)[i]? := by rw [htk]
      rw [List.getElem?_take_of_lt (by omega)] at e1
      rw [← Array.getElem?_toList, e1]
      simp [ints, List.getD, show i < ms.length by omega]
theorem RdM.at {ao : Option Addr} {k : Nat} {ms : List Int} (h : RdM w ao k ms) {i : Nat} (hi : i < k) : ∃ g, ao = some ⟨g, 0, none⟩ ∧ w.rangeAt g (i * 3) (ints [ms.getD (i * 3) 0, ms.getD (i * 3 + 1) 0, ms.getD (i * 3 + 2) 0]) := by
  obtain ⟨h1, h3⟩ := h
  rcases h3 with h3 | ⟨g, h4, h5⟩
  · omega
  · refine ⟨g, h4, fun j v hv => ?_⟩
    match j, hv with
    | 0, hv => cases hv; exact h5 (i * 3) (by omega)
    | 1, hv => cases hv; exact h5 (i * 3 + 1) (by omega)
    | 2, hv => cases hv; exact h5 (i * 3 + 2) (by omega)
    | j + 3, hv => cases hv
theorem info_mem : (Try.prog.info? 92).map (·.size) = some 3 := by kernel_rfl
def lvB (q inc cid : Int) (a b c : Int) : Bool := (a == q) && (b == inc) && decide (c < cid)
set_option maxHeartbeats 2000000 in
theorem leaves1_any (q inc cid a b c : Int) (kq ki kc : Nat) (h1 : w.cell? ⟨kq, 0, none⟩ = some (.int .i64 q)) (h2 : w.cell? ⟨ki, 0, none⟩ = some (.int .i64 inc)) (h3 : w.cell? ⟨kc, 0, none⟩ = some (.int .i64 cid)) : Calls Try.prog 66 #[.agg (ints [a, b, c]).toArray, .pointer (some ⟨kq, 0, none⟩), .pointer (some ⟨ki, 0, none⟩), .pointer (some ⟨kc, 0, none⟩)] w fun e w' => e = .returned (.bool (lvB q inc cid a b c)) ∧ Below w.heap.size w w' := by
  generalize hW1 : w.alloc (.cells (ints [a, b, c]).toArray 92) = W1
  have b1 : Below w.heap.size w W1 := hW1 ▸ balloc (Below.refl _ _)
  have k1 : Rw W1 w.heap.size 92 [a, b, c] := by unfold Rw; rw [← hW1]; exact heap_alloc_new w _
  have d0 : W1.cell? ⟨w.heap.size, 0, none⟩ = some (.int .i64 a) := k1.cell (i := 0) (by simp)
  have d1 : W1.cell? ⟨w.heap.size, 1, none⟩ = some (.int .i64 b) := k1.cell (i := 1) (by simp)
  have d2 : W1.cell? ⟨w.heap.size, 2, none⟩ = some (.int .i64 c) := k1.cell (i := 2) (by simp)
  have c1 := below_at b1 h1
  have c2 := below_at b1 h2
  have c3 := below_at b1 h3
  have Hb : Hid (Below w.heap.size w W1) := b1
  have Hv : Hid (lvB q inc cid a b c = ((a == q) && (b == inc) && decide (c < cid))) := rfl
  clear k1 b1 h1 h2 h3
  by_cases e1 : a = q
  · have f1 : (a == q) = true := by simpa using e1
    by_cases e2 : b = inc
    · have f2 : (b == inc) = true := by simpa using e2
      subst e1 e2
      go_enter Try.func66, Try.ntmps66
      go_wp2
      all_goals (go_ret; exact ⟨by rw [Hv.out]; simp_all, Hb.out⟩)
    · have f2 : (b == inc) = false := by simpa using e2
      subst e1
      go_enter Try.func66, Try.ntmps66
      go_wp2
      all_goals (go_ret; exact ⟨by rw [Hv.out, f2]; simp, Hb.out⟩)
  · have f1 : (a == q) = false := by simpa using e1
    go_enter Try.func66, Try.ntmps66
    go_wp2
    all_goals (go_ret; exact ⟨by rw [Hv.out, f1]; simp, Hb.out⟩)
def lvs (q inc cid : Int) (ms : List Int) (i : Nat) : Bool := lvB q inc cid (ms.getD (i * 3) 0) (ms.getD (i * 3 + 1) 0) (ms.getD (i * 3 + 2) 0)
set_option maxHeartbeats 2000000 in
theorem idx_any {ao : Option Addr} {k cp : Nat} {ms : List Int} (hr : RdM w ao k ms) (hk16 : k ≤ 16) (q inc cid : Int) (kq ki kc : Nat) (h1 : w.cell? ⟨kq, 0, none⟩ = some (.int .i64 q)) (h2 : w.cell? ⟨ki, 0, none⟩ = some (.int .i64 inc)) (h3 : w.cell? ⟨kc, 0, none⟩ = some (.int .i64 cid)) : Calls Try.prog 67 #[.slice ao k cp, .func (.func 66) #[] #[.pointer (some ⟨kq, 0, none⟩), .pointer (some ⟨ki, 0, none⟩), .pointer (some ⟨kc, 0, none⟩)]] w fun e w' => ∃ r : Int, e = .returned (.int .i64 r) ∧ decide (0 ≤ r) = (List.range k).any (lvs q inc cid ms) ∧ Below w.heap.size w w' := by
  have HR : Hid (RdM w ao k ms) := hr
  have C1 : Hid (w.cell? ⟨kq, 0, none⟩ = some (.int .i64 q)) := h1
  have C2 : Hid (w.cell? ⟨ki, 0, none⟩ = some (.int .i64 inc)) := h2
  have C3 : Hid (w.cell? ⟨kc, 0, none⟩ = some (.int .i64 cid)) := h3
  clear hr h1 h2 h3
  go_enter Try.func67, Try.ntmps67
  go_wp2
  go_loopw [8] (fun i wr => ∃ j : Nat, j ≤ k ∧ i = .int .i64 j ∧ (List.range j).any (lvs q inc cid ms) = false ∧ Below w.heap.size w wr) (fun i _ => k - (intOf i).toNat)
  case atStart => exact ⟨0, Nat.zero_le _, rfl, by simp, Below.refl _ _⟩
  case round =>
    obtain ⟨j, hj, rfl, hno, hb⟩ := hrel
    have HB : Hid (Below w.heap.size w wr) := hb
    by_cases hlt : j < k
    · obtain ⟨g, hg, hc⟩ := (HR.out.still hb).at hlt
      have HC : Hid (wr.rangeAt g (j * 3) (ints [ms.getD (j * 3) 0, ms.getD (j * 3 + 1) 0, ms.getD (j * 3 + 2) 0])) := hc
      have HM : Hid (Calls Try.prog 66 #[.agg (ints [ms.getD (j * 3) 0, ms.getD (j * 3 + 1) 0, ms.getD (j * 3 + 2) 0]).toArray, .pointer (some ⟨kq, 0, none⟩), .pointer (some ⟨ki, 0, none⟩), .pointer (some ⟨kc, 0, none⟩)] wr fun e w' => e = .returned (.bool (lvs q inc cid ms j)) ∧ Below wr.heap.size wr w') := leaves1_any q inc cid _ _ _ kq ki kc (below_at hb C1.out) (below_at hb C2.out) (below_at hb C3.out)
      have i1 : (0 : Int) ≤ (j : Int) := Int.natCast_nonneg _
      have i2 : (j : Int) < (k : Int) := by omega
      have Hyes : Hid (lvs q inc cid ms j = true → (List.range k).any (lvs q inc cid ms) = true) := fun h => List.any_eq_true.2 ⟨j, List.mem_range.2 hlt, h⟩
      have Hno : Hid (lvs q inc cid ms j = false → (List.range (j + 1)).any (lvs q inc cid ms) = false) := fun h => by
        rw [List.range_succ, List.any_append, hno]
        simp [h]
      subst hg
      obtain ⟨l3, hl3', hl3⟩ : ∃ l3, [ms.getD (j * 3) 0, ms.getD (j * 3 + 1) 0, ms.getD (j * 3 + 2) 0] = l3 ∧ (ints l3).length = 3 := ⟨_, rfl, rfl⟩
      rw [hl3'] at HC HM
      clear hl3'
      clear hno hb hc
      cases hx : lvs q inc cid ms j with
      | true =>
        rw [hx] at HM
        go_wp2_with (first
          | (go_at_call 66; refine HM.out.mono ?_; rintro e w2 ⟨rfl, hb2⟩)
          | (refine load_mid 92 (.tmp 14) HC.out _ Try.underlying92 rfl (by rw [hl3]; exact info_mem) rfl rfl rfl ?_)
          | fail)
        go_ret
        exact ⟨(j : Int), rfl, by rw [Hyes.out hx]; simp, bstep HB.out hb2⟩
      | false =>
        rw [hx] at HM
        go_wp2_with (first
          | (go_at_call 66; refine HM.out.mono ?_; rintro e w2 ⟨rfl, hb2⟩)
          | (refine load_mid 92 (.tmp 14) HC.out _ Try.underlying92 rfl (by rw [hl3]; exact info_mem) rfl rfl rfl ?_)
          | fail)
        exact ⟨⟨j + 1, by omega, by go_num, Hno.out hx, bstep HB.out hb2⟩, by simp [intOf]; omega⟩
    · obtain rfl : j = k := by omega
      have Hn : Hid ((List.range j).any (lvs q inc cid ms) = false) := hno
      clear hno hb
      go_wp2
      go_ret
      exact ⟨-1, rfl, by rw [Hn.out]; decide, HB.out⟩
set_option maxHeartbeats 1000000 in
theorem has_any {ao : Option Addr} {k cp : Nat} {ms : List Int} (hr : RdM w ao k ms) (hk16 : k ≤ 16) (q inc cid : Int) (kq ki kc : Nat) (h1 : w.cell? ⟨kq, 0, none⟩ = some (.int .i64 q)) (h2 : w.cell? ⟨ki, 0, none⟩ = some (.int .i64 inc)) (h3 : w.cell? ⟨kc, 0, none⟩ = some (.int .i64 cid)) : Calls Try.prog 65 #[.slice ao k cp, .func (.func 66) #[] #[.pointer (some ⟨kq, 0, none⟩), .pointer (some ⟨ki, 0, none⟩), .pointer (some ⟨kc, 0, none⟩)]] w fun e w' => e = .returned (.bool ((List.range k).any (lvs q inc cid ms))) ∧ Below w.heap.size w w' := by
  have HI := idx_any (cp := cp) hr hk16 q inc cid kq ki kc h1 h2 h3
  clear hr h1 h2 h3
  go_enter Try.func65, Try.ntmps65
  go_wp2_with (first | (go_at_call 67; refine HI.mono ?_; rintro e w2 ⟨r, rfl, hr, hb2⟩) | fail)
  all_goals (go_ret; exact ⟨by rw [← hr]; simp; try omega, hb2⟩)
end
end Go.Proofs.Ytbdefhagpgpoiac.Mb
namespace Go.Proofs.Ytbdefhagpgpoiac.Mb
open Go.RowKit
set_option linter.unusedVariables false
set_option maxRecDepth 100000
set_option linter.unusedSimpArgs false
section
variable {A A' : Ag} {w w' W : World} {B : Nat} {T : Int}
def Ag.leaves (A : Ag) (q : Nat) : Bool := (List.range A.k).any (lvs q ((A.lat q).set.getD q 0) (A.lat q).cid A.ms)
theorem Ag.Ok.rdM (h : A.Ok w B T) : ∃ ao c, A.msv = .slice ao A.k c ∧ RdM w ao A.k A.ms := by
  rcases h.mem.2 with ⟨h2, h3⟩ | ⟨g, cap, cur, h2, h3⟩
  · refine ⟨none, 0, by rw [h2, h3], ?_⟩
    have := h.mem
    rw [h2] at this
    rw [h3] at this
    rw [h3]
    exact own_rdM this
  · refine ⟨some ⟨g, 0, none⟩, cap, h2, ?_⟩
    have := h.mem
    rw [h2] at this
    exact own_rdM this
set_option maxHeartbeats 2000000 in
theorem leaves_any (h : A.Ok w B T) (q : Nat) (hq : q < 16) : Calls Try.prog 58 #[.pointer (some ⟨A.b, 0, none⟩), .int .i64 q] w fun e w' => e = .returned (.bool (A.leaves q)) ∧ Below w.heap.size w w' := by
  obtain ⟨ao, cp, hmv, hrm⟩ := h.rdM
  generalize hW1 : w.alloc (.cells #[.int .i64 q] 3) = W1
  have b1 : Below w.heap.size w W1 := hW1 ▸ balloc (Below.refl _ _)
  have s1 : W1.heap.size = w.heap.size + 1 := by rw [← hW1]; simp
  have k1 : W1.heap[w.heap.size]? = some (.cells #[.int .i64 q] 3 (0, 0)) := by rw [← hW1]; exact heap_alloc_new w _
  have c0 : W1.cell? ⟨w.heap.size, 0, none⟩ = some (.int .i64 q) := blk_cell k1 0
  have hA := h.still b1
  have c1 : W1.cell? ⟨A.b, 41 + q * 39 + q, none⟩ = some (.int .i64 ((A.lat q).set.getD q 0)) := by rw [hA.lat_c q q hq (by omega), (h.ll q).at_set q hq]
  have c2 : W1.cell? ⟨A.b, 41 + q * 39 + 16, none⟩ = some (.int .i64 (A.lat q).cid) := by rw [hA.lat_c q 16 hq (by omega), (h.ll q).cid]
  have Hl : Hid (A.leaves q = (List.range A.k).any (lvs q ((A.lat q).set.getD q 0) (A.lat q).cid A.ms)) := rfl
  generalize (A.lat q).set.getD q 0 = inc at *
  generalize (A.lat q).cid = cid at *
  have i3 : (q : Int) < 16 := by omega
  generalize hA1 : W1.drew.alloc (.cells #[.int .i64 0] 3) = X1
  generalize hA2 : X1.alloc (.cells #[.int .i64 0] 3) = X2
  have bA1 : Below W1.heap.size W1 X1 := by rw [← hA1]; exact (Below.refl _ _).drew.alloc (Nat.le_refl _) _
  have bA12 : Below X1.heap.size X1 X2 := by rw [← hA2]; exact balloc (Below.refl _ _)
  have bA2 : Below W1.heap.size W1 X2 := bstep bA1 bA12
  have sA1 : X1.heap.size = W1.heap.size + 1 := by rw [← hA1]; simp
  have kA1 : X1.heap[W1.heap.size]? = some (.cells #[.int .i64 0] 3 (0, 0)) := by rw [← hA1]; exact heap_alloc_new W1.drew _
  have kA2 : X2.heap[X1.heap.size]? = some (.cells #[.int .i64 0] 3 (0, 0)) := by rw [← hA2]; exact heap_alloc_new X1 _
  have kA12 : X2.heap[W1.heap.size]? = some (.cells #[.int .i64 0] 3 (0, 0)) := (Kept.ofBelow bA12 (fun _ => False)).obj kA1 (fun hh => hh)
  have HA : Hid (A.Ok w B T) := h
  have HR : Hid (RdM w ao A.k A.ms) := hrm
  have HB1 : Hid (Below w.heap.size w W1) := b1
  have Hk : Hid (A.k ≤ 16) := h.ml.2
  have lb := h.lt_b
  have zk1 : X2.cell? ⟨W1.heap.size, 0, none⟩ = some (.int .i64 0) := blk_cell kA12 0
  have zk2 : X2.cell? ⟨X1.heap.size, 0, none⟩ = some (.int .i64 0) := blk_cell kA2 0
  have zf1 : X2.frozen? ⟨W1.heap.size, 0, none⟩ = false := frozen_of_row X2 _ 0 _ _ kA12
  have zf2 : X2.frozen? ⟨X1.heap.size, 0, none⟩ = false := frozen_of_row X2 _ 0 _ _ kA2
  have lt1 : w.heap.size < W1.heap.size := by omega
  have lt2 : W1.heap.size < X1.heap.size := by omega
  clear h hA k1 kA1 kA2 kA12 hrm s1 sA1
  go_enter Try.func58, Try.ntmps58
  go_wp2
  refine wp_region_held_drew (S := (fun w' => w'.cell? ⟨w.heap.size, 0, none⟩ = some (.int .i64 q) ∧ w'.cell? ⟨A.b, 41 + q * 39 + q, none⟩ = some (.int .i64 inc) ∧ w'.cell? ⟨A.b, 41 + q * 39 + 16, none⟩ = some (.int .i64 cid))) (by kernel_rfl) ⟨below_at (Below.refl _ _).drew c0, below_at (Below.refl _ _).drew c1, below_at (Below.refl _ _).drew c2⟩ (fun hHeld => ?_)
  simp only [Act.put, List.size_toArray, List.length_cons, List.length_nil, Nat.zero_add]
  refine tkI 0 (.pointer (some ⟨A.b, 0, none⟩)) rfl hHeld ?_
  simp only [Act.put, gA, gB, gC, gD, gE, gF]
  refine tkL 1 (.int .i64 (q : Int)) rfl (fun w' hS => by (obtain ⟨s0, s1, s2⟩ := hS; go_simp)) hHeld ?_
  simp only [Act.put, gA, gB, gC, gD, gE, gF]
  refine tkL 2 (.int .i64 (q : Int)) rfl (fun w' hS => by (obtain ⟨s0, s1, s2⟩ := hS; go_simp)) hHeld ?_
  simp only [Act.put, gA, gB, gC, gD, gE, gF]
  refine tkI 3 (.pointer (some ⟨A.b, 0, none⟩)) rfl hHeld ?_
  simp only [Act.put, gA, gB, gC, gD, gE, gF]
  refine tkI 4 (.pointer (some ⟨A.b, 41, none⟩)) rfl hHeld ?_
  simp only [Act.put, gA, gB, gC, gD, gE, gF]
  refine tkL 5 (.pointer (some ⟨A.b, 41 + q * 39, none⟩)) rfl (fun w' hS => by (go_simp <;> (intro hh; omega))) hHeld ?_
  simp only [Act.put, gA, gB, gC, gD, gE, gF]
  refine tkI 6 (.pointer (some ⟨A.b, 41 + q * 39, none⟩)) rfl hHeld ?_
  simp only [Act.put, gA, gB, gC, gD, gE, gF]
  refine tkL 7 (.pointer (some ⟨A.b, 41 + q * 39 + q, none⟩)) rfl (fun w' hS => by (go_simp <;> (intro hh; omega))) hHeld ?_
  simp only [Act.put, gA, gB, gC, gD, gE, gF]
  refine tkL 8 (.int .i64 inc) rfl (fun w' hS => by (obtain ⟨s0, s1, s2⟩ := hS; go_simp)) hHeld ?_
  simp only [Act.put, gA, gB, gC, gD, gE, gF]
  refine tkI 9 (.pointer (some ⟨A.b, 0, none⟩)) rfl hHeld ?_
  simp only [Act.put, gA, gB, gC, gD, gE, gF]
  refine tkL 10 (.int .i64 (q : Int)) rfl (fun w' hS => by (obtain ⟨s0, s1, s2⟩ := hS; go_simp)) hHeld ?_
  simp only [Act.put, gA, gB, gC, gD, gE, gF]
  refine tkI 11 (.pointer (some ⟨A.b, 0, none⟩)) rfl hHeld ?_
  simp only [Act.put, gA, gB, gC, gD, gE, gF]
  refine tkI 12 (.pointer (some ⟨A.b, 41, none⟩)) rfl hHeld ?_
  simp only [Act.put, gA, gB, gC, gD, gE, gF]
  refine tkL 13 (.pointer (some ⟨A.b, 41 + q * 39, none⟩)) rfl (fun w' hS => by (go_simp <;> (intro hh; omega))) hHeld ?_
  simp only [Act.put, gA, gB, gC, gD, gE, gF]
  refine tkI 14 (.pointer (some ⟨A.b, 41 + q * 39 + 16, none⟩)) rfl hHeld ?_
  simp only [Act.put, gA, gB, gC, gD, gE, gF]
  refine tkL 15 (.int .i64 cid) rfl (fun w' hS => by (obtain ⟨s0, s1, s2⟩ := hS; go_simp)) hHeld ?_
  simp only [Act.put, gA, gB, gC, gD, gE, gF]
  refine wpAnyH_ready (rs := [16, 17]) (by kernel_rfl) (by simp) ?_
  refine AllReadyH.cons rfl (fun K hK => ?_) (AllReadyH.cons rfl (fun K hK => ?_) AllReadyH.nil)
  · go_simp
    refine hK.out _ _ ⟨below_at bA1 c0, below_at bA1 c1, below_at bA1 c2⟩ (fun hHeld => ?_)
    clear hK K
    refine wpAnyH_ready (rs := [17]) (by kernel_rfl) (by simp) ?_
    refine AllReadyH.cons rfl (fun K hK => ?_) AllReadyH.nil
    go_simp
    refine hK.out _ _ ⟨below_at bA2 c0, below_at bA2 c1, below_at bA2 c2⟩ (fun hHeld => ?_)
    clear hK K
    have k1 := kset (P := fun j => j = W1.heap.size) X2 W1.heap.size 0 (.int .i64 inc) rfl
    have e1 : (X2.setCell ⟨W1.heap.size, 0, none⟩ (.int .i64 inc)).cell? ⟨X1.heap.size, 0, none⟩ = some (.int .i64 0) := k1.cell (by assumption) (by omega)
    have e2 : (X2.setCell ⟨W1.heap.size, 0, none⟩ (.int .i64 inc)).cell? ⟨W1.heap.size, 0, none⟩ = some (.int .i64 inc) := World.cell?_setCell_same _ _ _ (by assumption)
    have k2 := kset (P := fun j => j = X1.heap.size) (X2.setCell ⟨W1.heap.size, 0, none⟩ (.int .i64 inc)) X1.heap.size 0 (.int .i64 cid) rfl
    have f2 := k2.cell e2 (by omega)
    have f1 : ((X2.setCell ⟨W1.heap.size, 0, none⟩ (.int .i64 inc)).setCell ⟨X1.heap.size, 0, none⟩ (.int .i64 cid)).cell? ⟨X1.heap.size, 0, none⟩ = some (.int .i64 cid) := World.cell?_setCell_same _ _ _ e1
    have f0 := k2.cell (k1.cell (below_at bA2 c0) (by omega)) (by omega)
    have HBY : Hid (Below w.heap.size w ((X2.setCell ⟨W1.heap.size, 0, none⟩ (.int .i64 inc)).setCell ⟨X1.heap.size, 0, none⟩ (.int .i64 cid))) := bset (bset (bstep HB1.out bA2) (by omega) _ _) (by omega) _ _
    refine wpAnyH_ready (rs := [18]) (by kernel_rfl) (by simp) ?_
    refine AllReadyH.cons rfl (fun K hK => ?_) AllReadyH.nil
    go_simp
    refine hK.out _ _ ⟨k1.cell (below_at bA2 c0) (by omega), k1.cell (below_at bA2 c1) (by omega), k1.cell (below_at bA2 c2) (by omega)⟩ (fun hHeld => ?_)
    clear hK K
    refine wpAnyH_ready (rs := [19]) (by kernel_rfl) (by simp) ?_
    refine AllReadyH.cons rfl (fun K hK => ?_) AllReadyH.nil
    go_simp
    refine hK.out _ _ ⟨k2.cell (k1.cell (below_at bA2 c0) (by omega)) (by omega), k2.cell (k1.cell (below_at bA2 c1) (by omega)) (by omega), k2.cell (k1.cell (below_at bA2 c2) (by omega)) (by omega)⟩ (fun hHeld => ?_)
    clear hK K
    refine wpAnyH_done (by kernel_rfl) ?_ _
    clear hHeld k1 k2 e1 e2
    generalize (X2.setCell ⟨W1.heap.size, 0, none⟩ (.int .i64 inc)).setCell ⟨X1.heap.size, 0, none⟩ (.int .i64 cid) = Y at *
    have m9 := (HA.out.still HBY.out).c669
    rw [hmv] at m9
    have HH : Hid (Calls Try.prog 65 #[.slice ao A.k cp, .func (.func 66) #[] #[.pointer (some ⟨w.heap.size, 0, none⟩), .pointer (some ⟨W1.heap.size, 0, none⟩), .pointer (some ⟨X1.heap.size, 0, none⟩)]] Y fun e w' => e = .returned (.bool ((List.range A.k).any (lvs q inc cid A.ms))) ∧ Below Y.heap.size Y w') := has_any (HR.out.still HBY.out) Hk.out q inc cid _ _ _ f0 f2 f1
    go_wp2_with (first | (go_at_call 65; refine HH.out.mono ?_; rintro e w2 ⟨rfl, hb2⟩) | fail)
    go_ret
    exact ⟨by rw [Hl.out]; rfl, bstep HBY.out hb2⟩
  · go_simp
    refine hK.out _ _ ⟨below_at bA1 c0, below_at bA1 c1, below_at bA1 c2⟩ (fun hHeld => ?_)
    clear hK K
    refine wpAnyH_ready (rs := [16]) (by kernel_rfl) (by simp) ?_
    refine AllReadyH.cons rfl (fun K hK => ?_) AllReadyH.nil
    go_simp
    refine hK.out _ _ ⟨below_at bA2 c0, below_at bA2 c1, below_at bA2 c2⟩ (fun hHeld => ?_)
    clear hK K
    have k1 := kset (P := fun j => j = X1.heap.size) X2 X1.heap.size 0 (.int .i64 inc) rfl
    have e1 : (X2.setCell ⟨X1.heap.size, 0, none⟩ (.int .i64 inc)).cell? ⟨W1.heap.size, 0, none⟩ = some (.int .i64 0) := k1.cell (by assumption) (by omega)
    have e2 : (X2.setCell ⟨X1.heap.size, 0, none⟩ (.int .i64 inc)).cell? ⟨X1.heap.size, 0, none⟩ = some (.int .i64 inc) := World.cell?_setCell_same _ _ _ (by assumption)
    have k2 := kset (P := fun j => j = W1.heap.size) (X2.setCell ⟨X1.heap.size, 0, none⟩ (.int .i64 inc)) W1.heap.size 0 (.int .i64 cid) rfl
    have f2 := k2.cell e2 (by omega)
    have f1 : ((X2.setCell ⟨X1.heap.size, 0, none⟩ (.int .i64 inc)).setCell ⟨W1.heap.size, 0, none⟩ (.int .i64 cid)).cell? ⟨W1.heap.size, 0, none⟩ = some (.int .i64 cid) := World.cell?_setCell_same _ _ _ e1
    have f0 := k2.cell (k1.cell (below_at bA2 c0) (by omega)) (by omega)
    have HBY : Hid (Below w.heap.size w ((X2.setCell ⟨X1.heap.size, 0, none⟩ (.int .i64 inc)).setCell ⟨W1.heap.size, 0, none⟩ (.int .i64 cid))) := bset (bset (bstep HB1.out bA2) (by omega) _ _) (by omega) _ _
    refine wpAnyH_ready (rs := [18]) (by kernel_rfl) (by simp) ?_
    refine AllReadyH.cons rfl (fun K hK => ?_) AllReadyH.nil
    go_simp
    refine hK.out _ _ ⟨k1.cell (below_at bA2 c0) (by omega), k1.cell (below_at bA2 c1) (by omega), k1.cell (below_at bA2 c2) (by omega)⟩ (fun hHeld => ?_)
    clear hK K
    refine wpAnyH_ready (rs := [19]) (by kernel_rfl) (by simp) ?_
    refine AllReadyH.cons rfl (fun K hK => ?_) AllReadyH.nil
    go_simp
    refine hK.out _ _ ⟨k2.cell (k1.cell (below_at bA2 c0) (by omega)) (by omega), k2.cell (k1.cell (below_at bA2 c1) (by omega)) (by omega), k2.cell (k1.cell (below_at bA2 c2) (by omega)) (by omega)⟩ (fun hHeld => ?_)
    clear hK K
    refine wpAnyH_done (by kernel_rfl) ?_ _
    clear hHeld k1 k2 e1 e2
    generalize (X2.setCell ⟨X1.heap.size, 0, none⟩ (.int .i64 inc)).setCell ⟨W1.heap.size, 0, none⟩ (.int .i64 cid) = Y at *
    have m9 := (HA.out.still HBY.out).c669
    rw [hmv] at m9
    have HH : Hid (Calls Try.prog 65 #[.slice ao A.k cp, .func (.func 66) #[] #[.pointer (some ⟨w.heap.size, 0, none⟩), .pointer (some ⟨X1.heap.size, 0, none⟩), .pointer (some ⟨W1.heap.size, 0, none⟩)]] Y fun e w' => e = .returned (.bool ((List.range A.k).any (lvs q inc cid A.ms))) ∧ Below Y.heap.size Y w') := has_any (HR.out.still HBY.out) Hk.out q inc cid _ _ _ f0 f2 f1
    go_wp2_with (first | (go_at_call 65; refine HH.out.mono ?_; rintro e w2 ⟨rfl, hb2⟩) | fail)
    go_ret
    exact ⟨by rw [Hl.out]; rfl, bstep HBY.out hb2⟩
end
end Go.Proofs.Ytbdefhagpgpoiac.Mb
namespace Go.Proofs.Ytbdefhagpgpoiac.Mb
open Go.RowKit
set_option linter.unusedVariables false
set_option maxRecDepth 100000
set_option linter.unusedSimpArgs false
section
variable {A A' : Ag} {w w' W : World} {B : Nat} {T : Int}
def Ag.folE (A : Ag) (q : Nat) : Int := if A.chg then A.revE A.own else if A.leaves q then A.begE A.own.set else 0
def Ag.folA (A : Ag) (q : Nat) : Ag := if A.chg then A.revA A.own else if A.leaves q then A.begA A.own.set else A
def Ag.folB (A : Ag) (q : Nat) : Bool := if A.chg then false else if A.leaves q then A.begE A.own.set == 0 else false
set_option maxHeartbeats 1000000 in
theorem follow_any (h : A.Ok w B T) (hT : 4611686018427387903 ≤ T) (q : Nat) (hq : q < 16) : Calls Try.prog 38 #[.pointer (some ⟨A.b, 0, none⟩), .int .i64 q] w fun e w' => e = .returned (.tuple #[.bool (A.folB q), .int .i64 (A.folE q)]) ∧ (A.folA q).Ok w' B T ∧ Kept w w' (fun j => j = A.b) := by
  have c0 := h.c670
  have HA : Hid (A.Ok w B T) := h
  have Lo : Hid A.own.L := h.ol
  have HRv : Hid (Calls Try.prog 32 #[.pointer (some ⟨A.b, 0, none⟩), .agg (ints A.own.fl).toArray] w fun e w' => e = .returned (.int .i64 (A.revE A.own)) ∧ (A.revA A.own).Ok w' B T ∧ Kept w w' (fun j => j = A.b)) := revise_any h A.own h.ol h.cid h.rev h.top
  have HLv : Hid (Calls Try.prog 58 #[.pointer (some ⟨A.b, 0, none⟩), .int .i64 q] w fun e w' => e = .returned (.bool (A.leaves q)) ∧ Below w.heap.size w w') := leaves_any h q hq
  have HE : Hid (A.folE q = if A.chg then A.revE A.own else if A.leaves q then A.begE A.own.set else 0) := rfl
  have HA' : Hid (A.folA q = if A.chg then A.revA A.own else if A.leaves q then A.begA A.own.set else A) := rfl
  have HBb : Hid (A.folB q = if A.chg then false else if A.leaves q then A.begE A.own.set == 0 else false) := rfl
  clear h
  cases hc : A.chg with
  | true =>
    rw [hc] at c0 HE HA' HBb
    go_enter Try.func38, Try.ntmps38
    go_wp2_with (first
      | (go_at_call 32; refine HRv.out.mono ?_; rintro e w2 ⟨rfl, hO, hK⟩)
      | (refine load_mid 47 (.tmp 15) HA.out.own_r _ Try.underlying47 rfl (by rw [ints_len, Lo.out.fl]; exact info_prop) rfl rfl rfl ?_)
      | fail)
    (try simp only [Exit.inBlock, Exit.then]); refine bodyPost_ret (results_tmp2 rfl _ _ _) rfl ?_
    exact ⟨by rw [HE.out, HBb.out]; rfl, by rw [HA'.out]; exact hO, hK⟩
  | false =>
    rw [hc] at c0 HE HA' HBb
    cases hl : A.leaves q with
    | false =>
      rw [hl] at HLv HE HA' HBb
      go_enter Try.func38, Try.ntmps38
      go_wp2_with (first | (go_at_call 58; refine HLv.out.mono ?_; rintro e w2 ⟨rfl, hb2⟩) | fail)
      (try simp only [Exit.inBlock, Exit.then]); refine bodyPost_ret (results_tmp2 rfl _ _ _) rfl ?_
      exact ⟨by rw [HE.out, HBb.out]; rfl, by rw [HA'.out]; exact HA.out.still hb2, Kept.ofBelow hb2 _⟩
    | true =>
      rw [hl] at HLv HE HA' HBb
      go_enter Try.func38, Try.ntmps38
      go_wp2_with (first
        | (go_at_call 10; refine (begin_any (HA.out.still HB2.out) hT A.own.set Lo.out.ls).mono ?_; rintro e w3 ⟨rfl, hO, hK⟩)
        | (go_at_call 58; refine HLv.out.mono ?_; rintro e w2 ⟨rfl, hb2⟩; have HB2 : Hid (Below w.heap.size w w2) := hb2; clear hb2)
        | (refine load_mid 45 (.tmp 26) (HA.out.still HB2.out).set_r _ Try.underlying45 rfl (by rw [ints_len, Lo.out.ls]; exact info_row) rfl rfl rfl ?_)
        | fail)
      (try simp only [Exit.inBlock, Exit.then]); refine bodyPost_ret (results_tmp2 rfl _ _ _) rfl ?_
      exact ⟨by rw [HE.out, HBb.out]; rfl, by rw [HA'.out]; exact hO, (Kept.ofBelow HB2.out _).trans hK⟩
end
end Go.Proofs.Ytbdefhagpgpoiac.Mb
