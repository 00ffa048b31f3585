import Derived.Test.YtdegjhkjmgimpaaV06
import Derived.Laws.ResultCell
namespace Go.Proofs.Ytdegjhkjmgimpaa.Mb
open Go.RowKit
set_option linter.unusedVariables false
set_option maxRecDepth 100000
set_option linter.unusedSimpArgs false
section
variable {A A' : Ag} {w w' W : World} {B : Nat} {T : Int}
def RdI (w : World) (ao : Option Addr) (len : Nat) (xs : List Int) : Prop :=
  xs.length = len ∧ (len = 0 ∨ ∃ b off, ao = some ⟨b, off, none⟩ ∧ ∀ i, i < len → w.cell? ⟨b, off + i, none⟩ = some (.int .i64 (xs.getD i 0)))
theorem RdI.still {ao : Option Addr} {len : Nat} {xs : List Int} (h : RdI w ao len xs) (hb : Below w.heap.size w w') : RdI w' ao len xs := by
  obtain ⟨h1, h3⟩ := h
  refine ⟨h1, h3.elim (fun hh => .inl hh) (fun hh => .inr ?_)⟩
  obtain ⟨b, off, rfl, hc⟩ := hh
  exact ⟨b, off, rfl, fun i hi => below_at hb (hc i hi)⟩
theorem RdI.at {ao : Option Addr} {len : Nat} {xs : List Int} (h : RdI w ao len xs) {i : Nat} (hi : i < len) : ∃ b off, ao = some ⟨b, off, none⟩ ∧ w.cell? ⟨b, off + i, none⟩ = some (.int .i64 (xs.getD i 0)) := by
  obtain ⟨h1, h3⟩ := h
  rcases h3 with h3 | ⟨b, off, h4, h5⟩
  · omega
  · exact ⟨b, off, h4, h5 i hi⟩
theorem own_rd {ao : Option Addr} {n c : Nat} {xs : List Int} (h : w.ownsRow B 3 1 (.slice ao n c) n (ints xs)) : RdI w ao n xs := by
  have hl : xs.length = n := by simpa [ints] using h.1
  refine ⟨hl, ?_⟩
  by_cases h0 : n = 0
  · exact .inl h0
  · rcases h.2 with ⟨h1, h2⟩ | ⟨g, cap, cur, hv, hB, hg, hnc, hcm, hcs, htk⟩
    · omega
    · simp at hv
      refine .inr ⟨g, 0, hv.1, fun i hi => ?_⟩
      rw [Nat.zero_add, blk_cell hg i]
      have e1 : (cur.toList.take (n * 1))[i]? = (ints xs)[i]? := by rw [htk]
      rw [List.getElem?_take_of_lt (by omega)] at e1
      rw [← Array.getElem?_toList, e1]
      simp [ints, List.getD, show i < xs.length by omega]
def inR (x : Int) : Bool := decide (0 ≤ x ∧ x ≤ 4611686018427387904)
theorem results_row_tmp {fn : Func} {p u : Tmp} {ty : TypeId} (h : fn.results = #[.cell p ty, .tmp u]) (tmps : Array Value) (w : World) (g : Nat) (t : TypeId) (xs : List Int) (d : TypeDesc) (v : Value)
    (hp : tmps.getD p undef = .pointer (some ⟨g, 0, none⟩)) (hv : tmps.getD u undef = v) (hg : Rw w g t xs)
    (hu : Try.prog.underlying ty = some d) (hd : d.isRow = true) (hi : (Try.prog.info? ty).map (·.size) = some xs.length) :
    (results fn tmps).run Try.prog w = .ok (.tuple #[.agg (ints xs).toArray, v]) w := by
  rw [results_cell_tmp h, hp, hv]
  simp [asAddr, run_loadVar_mid w g 0 ty (ints xs) d hg.all hu hd (by rw [ints_len]; exact hi)]
def pad (xs : List Int) : List Int := (List.range 16).map fun i => xs.getD i 0
def padK (xs : List Int) (k : Nat) : List Int := (List.range 16).map fun i => if i < k then xs.getD i 0 else 0
theorem pad_len (xs : List Int) : (pad xs).length = 16 := by simp [pad]
theorem padK_len (xs : List Int) (k : Nat) : (padK xs k).length = 16 := by simp [padK]
theorem padK_zero (xs : List Int) : zs = padK xs 0 := by
  unfold padK zs
  rw [show (List.replicate 16 (0 : Int)) = (List.range 16).map (fun _ => 0) from rfl]
  apply List.map_congr_left
  intro q _
  simp
theorem padK_all (xs : List Int) : padK xs xs.length = pad xs := by
  unfold padK pad
  apply List.map_congr_left
  intro q _
  by_cases h : q < xs.length
  · rw [if_pos h]
  · rw [if_neg h]; simp [List.getD, h]
theorem padK_step (xs : List Int) (k : Nat) (hk : k < 16) : (padK xs k).set k (xs.getD k 0) = padK xs (k + 1) := by
  apply List.ext_getElem?
  intro i
  simp only [padK, List.getElem?_set, List.length_map, List.length_range, List.getElem?_map]
  by_cases e : k = i
  · subst e
    simp [hk]
  · by_cases h2 : i < 16
    · have : i < k + 1 ↔ i < k := by omega
      simp [e, h2, this]
    · simp [e, h2]
def okL (xs : List Int) (n : Nat) : Bool := decide (xs.length = n) && xs.all inR
set_option maxHeartbeats 2000000 in
theorem rowOf_any {ao : Option Addr} {n c : Nat} {xs : List Int} (hr : RdI w ao n xs) (m : Nat) (hm : m ≤ 16) (hn : n ≤ 17592186044416) : Calls Try.prog 20 #[.slice ao n c, .int .i64 m] w fun e w' => ∃ r, e = .returned (.tuple #[.agg (ints r).toArray, .bool (okL xs m)]) ∧ r.length = 16 ∧ (okL xs m = true → r = pad xs) ∧ Below w.heap.size w w' := by
  generalize hW1 : w.alloc (.cells #[.int .i64 0, .int .i64 0, .int .i64 0, .int .i64 0, .int .i64 0, .int .i64 0, .int .i64 0, .int .i64 0, .int .i64 0, .int .i64 0, .int .i64 0, .int .i64 0, .int .i64 0, .int .i64 0, .int .i64 0, .int .i64 0] 61) = W1
  generalize hW2 : W1.alloc (.cells #[.int .i64 0, .int .i64 0, .int .i64 0, .int .i64 0, .int .i64 0, .int .i64 0, .int .i64 0, .int .i64 0, .int .i64 0, .int .i64 0, .int .i64 0, .int .i64 0, .int .i64 0, .int .i64 0, .int .i64 0, .int .i64 0] 61) = W2
  have b1 : Below w.heap.size w W1 := hW1 ▸ balloc (Below.refl _ _)
  have b2 : Below W1.heap.size W1 W2 := hW2 ▸ balloc (Below.refl _ _)
  have s1 : W1.heap.size = w.heap.size + 1 := by rw [← hW1]; simp
  have k1 : Rw W1 w.heap.size 61 zs := by unfold Rw; rw [← hW1]; exact heap_alloc_new w _
  have k2 : Rw W2 W1.heap.size 61 zs := by unfold Rw; rw [← hW2]; exact heap_alloc_new W1 _
  have HK1 : Hid (Rw W2 w.heap.size 61 zs) := k1.still b2
  have HK2 : Hid (Rw W2 W1.heap.size 61 zs) := k2
  have HB2 : Hid (Below w.heap.size w W2) := bstep b1 b2
  have HR : Hid (RdI w ao n xs) := hr
  have hk1 : w.heap.size < W1.heap.size := by omega
  have Hl : Hid (xs.length = n) := hr.1
  clear hr b1 b2 s1 k1 k2
  by_cases hnm : n = m
  · subst hnm
    go_enter Try.func20, Try.ntmps20
    go_wp2
    go_loopw [16] (fun i wr => ∃ k : Nat, k ≤ n ∧ i = .int .i64 k ∧ (xs.take k).all inR = true ∧ Rw wr W1.heap.size 61 (padK xs k) ∧ Kept W2 wr (fun j => j = W1.heap.size)) (fun i _ => n - (intOf i).toNat)
    case atStart => exact ⟨0, Nat.zero_le _, rfl, by simp, by rw [← padK_zero]; exact HK2.out, Kept.refl _ _⟩
    case round =>
      obtain ⟨k, hk, rfl, hall, ho, hb⟩ := hrel
      have HB : Hid (Kept W2 wr (fun j => j = W1.heap.size)) := hb
      have HO : Hid (Rw wr W1.heap.size 61 (padK xs k)) := ho
      have HO1 : Hid (Rw wr w.heap.size 61 zs) := HK1.out.keep hb (by omega)
      by_cases hlt : k < n
      · have hRw : RdI wr ao n xs := HR.out.still (bstepK HB2.out hb (fun j hj e => by omega))
        obtain ⟨g, off, hg, e0⟩ := hRw.at hlt
        have HWk : Hid (∀ w', Calls Try.prog 26 #[.int .i64 (xs.getD k 0), .int .i64 0, .int .i64 4611686018427387904] w' fun e w2 => e = .returned (.bool (inR (xs.getD k 0))) ∧ w' = w2) := fun w' => within_any (xs.getD k 0) 0 4611686018427387904
        have i1 : (0 : Int) ≤ (k : Int) := Int.natCast_nonneg _
        have i2 : (k : Int) < (n : Int) := by omega
        have i3 : (k : Int) < 16 := by omega
        have hmem : Hid (inR (xs.getD k 0) = false → xs.all inR = false) := fun h => by
          have hkx : k < xs.length := by have := Hl.out; omega
          cases ha : xs.all inR with
          | false => rfl
          | true =>
            have := List.all_eq_true.1 ha (xs.getD k 0) (by simp [List.getD, hkx])
            rw [h] at this; cases this
        have hnext : Hid (inR (xs.getD k 0) = true → (xs.take (k + 1)).all inR = true) := fun h => by
          have hkx : k < xs.length := by have := Hl.out; omega
          rw [List.take_add_one, List.all_append, hall]
          have e2 : xs[k]? = some (xs.getD k 0) := by simp [List.getD, hkx]
          rw [e2]
          simpa using h
        have HP : Hid ((padK xs k).set k (xs.getD k 0) = padK xs (k + 1)) := padK_step xs k (by omega)
        have d0 := ho.cell (i := k) (by rw [padK_len]; omega)
        have d1 := ho.fz k
        subst hg
        generalize xs.getD k 0 = x at *
        clear hall ho hb hRw
        cases hx : inR x with
        | true =>
          rw [hx] at HWk
          go_wp2_with (first | (go_at_call 26; refine (HWk.out _).mono ?_; rintro e w2 ⟨rfl, rfl⟩) | fail)
          exact ⟨⟨k + 1, by omega, by go_num, hnext.out hx, by rw [← HP.out]; exact HO.out.set k x, HB.out.trans (kset _ _ _ _ rfl)⟩, by simp [intOf]; omega⟩
        | false =>
          rw [hx] at HWk
          go_wp2_with (first
            | (go_at_call 26; refine (HWk.out _).mono ?_; rintro e w2 ⟨rfl, rfl⟩)
            | (refine load_mid 61 (.tmp 6) HO.out.all _ Try.underlying61 rfl (by rw [ints_len, padK_len]; exact info_row) rfl rfl rfl ?_)
            | (refine store_mid 61 (.tmp 4) (.tmp 24) (HO1.out.there 0 (padK xs k).length (by rw [padK_len]; exact Nat.le_refl _)) (by rw [padK_len]; exact info_row) rfl rfl rfl rfl ?_)
            | fail)
          (try simp only [Exit.inBlock, Exit.then])
          refine bodyPost_ret (v := .tuple #[.agg (ints (padK xs k)).toArray, .bool false]) ?_ ?_ ?_
          · exact results_row_tmp rfl _ _ w.heap.size 61 (padK xs k) _ _ rfl rfl ((HO1.out).whole (by first | rfl | (rw [padK_len]; rfl))) Try.underlying61 rfl (by rw [padK_len]; exact info_row)
          · rfl
          · refine ⟨padK xs k, ?_, padK_len xs k, fun hh => ?_, bsets (Nat.le_refl _) _ _ (bstepK HB2.out HB.out (fun j hj e => by omega))⟩
            · unfold okL; rw [hmem.out hx, Bool.and_false]
            · unfold okL at hh; rw [hmem.out hx, Bool.and_false] at hh; cases hh
      · obtain rfl : k = n := by omega
        have Hall : Hid (xs.all inR = true) := by rw [List.take_of_length_le (by have := Hl.out; omega)] at hall; exact hall
        clear hall ho hb
        go_wp2_with (first
            | (refine load_mid 61 (.tmp 6) HO.out.all _ Try.underlying61 rfl (by rw [ints_len, padK_len]; exact info_row) rfl rfl rfl ?_)
            | (refine store_mid 61 (.tmp 4) (.tmp 29) (HO1.out.there 0 (padK xs k).length (by rw [padK_len]; exact Nat.le_refl _)) (by rw [padK_len]; exact info_row) rfl rfl rfl rfl ?_)
            | fail)
        (try simp only [Exit.inBlock, Exit.then])
        refine bodyPost_ret (v := .tuple #[.agg (ints (padK xs k)).toArray, .bool true]) ?_ ?_ ?_
        · exact results_row_tmp rfl _ _ w.heap.size 61 (padK xs k) _ _ rfl rfl ((HO1.out).whole (by first | rfl | (rw [padK_len]; rfl))) Try.underlying61 rfl (by rw [padK_len]; exact info_row)
        · rfl
        · have hl := Hl.out
          subst hl
          refine ⟨padK xs xs.length, ?_, padK_len xs _, fun hh => padK_all xs, bsets (Nat.le_refl _) _ _ (bstepK HB2.out HB.out (fun j hj e => by omega))⟩
          unfold okL; rw [Hall.out]; simp
  · have hnm' : ¬ ((n : Int) = (m : Int)) := by omega
    go_enter Try.func20, Try.ntmps20
    go_wp2_with (first
      | (refine load_mid 61 (.tmp 6) HK2.out.all _ Try.underlying61 rfl (by rw [ints_len]; exact info_row) rfl rfl rfl ?_)
      | (refine store_mid 61 (.tmp 4) (.tmp 13) (HK1.out.there 0 zs.length (Nat.le_refl _)) info_row rfl rfl rfl rfl ?_)
      | fail)
    (try simp only [Exit.inBlock, Exit.then])
    refine bodyPost_ret (v := .tuple #[.agg (ints zs).toArray, .bool false]) ?_ ?_ ?_
    · exact results_row_tmp rfl _ _ w.heap.size 61 zs _ _ rfl rfl ((HK1.out).whole (by first | rfl | (rw [zs_len]; rfl))) Try.underlying61 rfl (by rw [zs_len]; exact info_row)
    · rfl
    · have hf : okL xs m = false := by unfold okL; rw [decide_eq_false (by have := Hl.out; omega), Bool.false_and]
      exact ⟨zs, by rw [hf], rfl, (fun hh => by rw [hf] at hh; cases hh), bsets (Nat.le_refl _) _ _ HB2.out⟩
end
end Go.Proofs.Ytdegjhkjmgimpaa.Mb
namespace Go.Proofs.Ytdegjhkjmgimpaa.Mb
open Go.RowKit
set_option linter.unusedVariables false
set_option maxRecDepth 100000
set_option linter.unusedSimpArgs false
section
variable {A A' : Ag} {w w' W : World} {B : Nat} {T : Int}
def RdM (w : World) (ao : Option Addr) (k : Nat) (ms : List Int) : Prop :=
  ms.length = 3 * k ∧ (k = 0 ∨ ∃ g, ao = some ⟨g, 0, none⟩ ∧ ∀ j, j < 3 * k → w.cell? ⟨g, j, none⟩ = some (.int .i64 (ms.getD j 0)))
theorem RdM.still {ao : Option Addr} {k : Nat} {ms : List Int} (h : RdM w ao k ms) (hb : Below w.heap.size w w') : RdM w' ao k ms := by
  obtain ⟨h1, h3⟩ := h
  refine ⟨h1, h3.elim (fun hh => .inl hh) (fun hh => .inr ?_)⟩
  obtain ⟨g, rfl, hc⟩ := hh
  exact ⟨g, rfl, fun i hi => below_at hb (hc i hi)⟩
theorem own_rdM {ao : Option Addr} {k c : Nat} {ms : List Int} (h : w.ownsRow B 79 3 (.slice ao k c) k (ints ms)) : RdM w ao k ms := by
  have hl : ms.length = 3 * k := by have := h.1; rw [ints_len] at this; omega
  refine ⟨hl, ?_⟩
  by_cases h0 : k = 0
  · exact .inl h0
  · rcases h.2 with ⟨h1, h2⟩ | ⟨g, cap, cur, hv, hB, hg, hnc, hcm, hcs, htk⟩
    · omega
    · simp at hv
      refine .inr ⟨g, hv.1, fun i hi => ?_⟩
      rw [blk_cell hg i]
      have e1 : (cur.toList.take (k * 3))[i]? = (ints ms)[i]? := by rw [htk]
      rw [List.getElem?_take_of_lt (by omega)] at e1
      rw [← Array.getElem?_toList, e1]
      simp [ints, List.getD, show i < ms.length by omega]
theorem RdM.at {ao : Option Addr} {k : Nat} {ms : List Int} (h : RdM w ao k ms) {i : Nat} (hi : i < k) : ∃ g, ao = some ⟨g, 0, none⟩ ∧ w.rangeAt g (i * 3) (ints [ms.getD (i * 3) 0, ms.getD (i * 3 + 1) 0, ms.getD (i * 3 + 2) 0]) := by
  obtain ⟨h1, h3⟩ := h
  rcases h3 with h3 | ⟨g, h4, h5⟩
  · omega
  · refine ⟨g, h4, fun j v hv => ?_⟩
    match j, hv with
    | 0, hv => cases hv; exact h5 (i * 3) (by omega)
    | 1, hv => cases hv; exact h5 (i * 3 + 1) (by omega)
    | 2, hv => cases hv; exact h5 (i * 3 + 2) (by omega)
    | j + 3, hv => cases hv
theorem info_mem : (Try.prog.info? 79).map (·.size) = some 3 := by kernel_rfl
def lvB (q inc cid : Int) (a b c : Int) : Bool := (a == q) && (b == inc) && decide (c < cid)
set_option maxHeartbeats 2000000 in
theorem leaves1_any (q inc cid a b c : Int) (kq ki kc : Nat) (h1 : w.cell? ⟨kq, 0, none⟩ = some (.int .i64 q)) (h2 : w.cell? ⟨ki, 0, none⟩ = some (.int .i64 inc)) (h3 : w.cell? ⟨kc, 0, none⟩ = some (.int .i64 cid)) : Calls Try.prog 44 #[.agg (ints [a, b, c]).toArray, .pointer (some ⟨kq, 0, none⟩), .pointer (some ⟨ki, 0, none⟩), .pointer (some ⟨kc, 0, none⟩)] w fun e w' => e = .returned (.bool (lvB q inc cid a b c)) ∧ Below w.heap.size w w' := by
  generalize hW1 : w.alloc (.cells (ints [a, b, c]).toArray 79) = W1
  have b1 : Below w.heap.size w W1 := hW1 ▸ balloc (Below.refl _ _)
  have k1 : Rw W1 w.heap.size 79 [a, b, c] := by unfold Rw; rw [← hW1]; exact heap_alloc_new w _
  have d0 : W1.cell? ⟨w.heap.size, 0, none⟩ = some (.int .i64 a) := k1.cell (i := 0) (by simp)
  have d1 : W1.cell? ⟨w.heap.size, 1, none⟩ = some (.int .i64 b) := k1.cell (i := 1) (by simp)
  have d2 : W1.cell? ⟨w.heap.size, 2, none⟩ = some (.int .i64 c) := k1.cell (i := 2) (by simp)
  have c1 := below_at b1 h1
  have c2 := below_at b1 h2
  have c3 := below_at b1 h3
  have Hb : Hid (Below w.heap.size w W1) := b1
  have Hv : Hid (lvB q inc cid a b c = ((a == q) && (b == inc) && decide (c < cid))) := rfl
  clear k1 b1 h1 h2 h3
  by_cases e1 : a = q
  · have f1 : (a == q) = true := by simpa using e1
    by_cases e2 : b = inc
    · have f2 : (b == inc) = true := by simpa using e2
      subst e1 e2
      go_enter Try.func44, Try.ntmps44
      go_wp2
      all_goals (go_ret; exact ⟨by rw [Hv.out]; simp_all, Hb.out⟩)
    · have f2 : (b == inc) = false := by simpa using e2
      subst e1
      go_enter Try.func44, Try.ntmps44
      go_wp2
      all_goals (go_ret; exact ⟨by rw [Hv.out, f2]; simp, Hb.out⟩)
  · have f1 : (a == q) = false := by simpa using e1
    go_enter Try.func44, Try.ntmps44
    go_wp2
    all_goals (go_ret; exact ⟨by rw [Hv.out, f1]; simp, Hb.out⟩)
def lvs (q inc cid : Int) (ms : List Int) (i : Nat) : Bool := lvB q inc cid (ms.getD (i * 3) 0) (ms.getD (i * 3 + 1) 0) (ms.getD (i * 3 + 2) 0)
set_option maxHeartbeats 2000000 in
theorem idx_any {ao : Option Addr} {k cp : Nat} {ms : List Int} (hr : RdM w ao k ms) (hk16 : k ≤ 16) (q inc cid : Int) (kq ki kc : Nat) (h1 : w.cell? ⟨kq, 0, none⟩ = some (.int .i64 q)) (h2 : w.cell? ⟨ki, 0, none⟩ = some (.int .i64 inc)) (h3 : w.cell? ⟨kc, 0, none⟩ = some (.int .i64 cid)) : Calls Try.prog 46 #[.slice ao k cp, .func (.func 44) #[] #[.pointer (some ⟨kq, 0, none⟩), .pointer (some ⟨ki, 0, none⟩), .pointer (some ⟨kc, 0, none⟩)]] w fun e w' => ∃ r : Int, e = .returned (.int .i64 r) ∧ decide (0 ≤ r) = (List.range k).any (lvs q inc cid ms) ∧ Below w.heap.size w w' := by
  have HR : Hid (RdM w ao k ms) := hr
  have C1 : Hid (w.cell? ⟨kq, 0, none⟩ = some (.int .i64 q)) := h1
  have C2 : Hid (w.cell? ⟨ki, 0, none⟩ = some (.int .i64 inc)) := h2
  have C3 : Hid (w.cell? ⟨kc, 0, none⟩ = some (.int .i64 cid)) := h3
  clear hr h1 h2 h3
  go_enter Try.func46, Try.ntmps46
  go_wp2
  go_loopw [8] (fun i wr => ∃ j : Nat, j ≤ k ∧ i = .int .i64 j ∧ (List.range j).any (lvs q inc cid ms) = false ∧ Below w.heap.size w wr) (fun i _ => k - (intOf i).toNat)
  case atStart => exact ⟨0, Nat.zero_le _, rfl, by simp, Below.refl _ _⟩
  case round =>
    obtain ⟨j, hj, rfl, hno, hb⟩ := hrel
    have HB : Hid (Below w.heap.size w wr) := hb
    by_cases hlt : j < k
    · obtain ⟨g, hg, hc⟩ := (HR.out.still hb).at hlt
      have HC : Hid (wr.rangeAt g (j * 3) (ints [ms.getD (j * 3) 0, ms.getD (j * 3 + 1) 0, ms.getD (j * 3 + 2) 0])) := hc
      have HM : Hid (Calls Try.prog 44 #[.agg (ints [ms.getD (j * 3) 0, ms.getD (j * 3 + 1) 0, ms.getD (j * 3 + 2) 0]).toArray, .pointer (some ⟨kq, 0, none⟩), .pointer (some ⟨ki, 0, none⟩), .pointer (some ⟨kc, 0, none⟩)] wr fun e w' => e = .returned (.bool (lvs q inc cid ms j)) ∧ Below wr.heap.size wr w') := leaves1_any q inc cid _ _ _ kq ki kc (below_at hb C1.out) (below_at hb C2.out) (below_at hb C3.out)
      have i1 : (0 : Int) ≤ (j : Int) := Int.natCast_nonneg _
      have i2 : (j : Int) < (k : Int) := by omega
      have Hyes : Hid (lvs q inc cid ms j = true → (List.range k).any (lvs q inc cid ms) = true) := fun h => List.any_eq_true.2 ⟨j, List.mem_range.2 hlt, h⟩
      have Hno : Hid (lvs q inc cid ms j = false → (List.range (j + 1)).any (lvs q inc cid ms) = false) := fun h => by
        rw [List.range_succ, List.any_append, hno]
        simp [h]
      subst hg
      obtain ⟨l3, hl3', hl3⟩ : ∃ l3, [ms.getD (j * 3) 0, ms.getD (j * 3 + 1) 0, ms.getD (j * 3 + 2) 0] = l3 ∧ (ints l3).length = 3 := ⟨_, rfl, rfl⟩
      rw [hl3'] at HC HM
      clear hl3'
      clear hno hb hc
      cases hx : lvs q inc cid ms j with
      | true =>
        rw [hx] at HM
        go_wp2_with (first
          | (go_at_call 44; refine HM.out.mono ?_; rintro e w2 ⟨rfl, hb2⟩)
          | (refine load_mid 79 (.tmp 14) HC.out _ Try.underlying79 rfl (by rw [hl3]; exact info_mem) rfl rfl rfl ?_)
          | fail)
        go_ret
        exact ⟨(j : Int), rfl, by rw [Hyes.out hx]; simp, bstep HB.out hb2⟩
      | false =>
        rw [hx] at HM
        go_wp2_with (first
          | (go_at_call 44; refine HM.out.mono ?_; rintro e w2 ⟨rfl, hb2⟩)
          | (refine load_mid 79 (.tmp 14) HC.out _ Try.underlying79 rfl (by rw [hl3]; exact info_mem) rfl rfl rfl ?_)
          | fail)
        exact ⟨⟨j + 1, by omega, by go_num, Hno.out hx, bstep HB.out hb2⟩, by simp [intOf]; omega⟩
    · obtain rfl : j = k := by omega
      have Hn : Hid ((List.range j).any (lvs q inc cid ms) = false) := hno
      clear hno hb
      go_wp2
      go_ret
      exact ⟨-1, rfl, by rw [Hn.out]; decide, HB.out⟩
set_option maxHeartbeats 1000000 in
theorem has_any {ao : Option Addr} {k cp : Nat} {ms : List Int} (hr : RdM w ao k ms) (hk16 : k ≤ 16) (q inc cid : Int) (kq ki kc : Nat) (h1 : w.cell? ⟨kq, 0, none⟩ = some (.int .i64 q)) (h2 : w.cell? ⟨ki, 0, none⟩ = some (.int .i64 inc)) (h3 : w.cell? ⟨kc, 0, none⟩ = some (.int .i64 cid)) : Calls Try.prog 43 #[.slice ao k cp, .func (.func 44) #[] #[.pointer (some ⟨kq, 0, none⟩), .pointer (some ⟨ki, 0, none⟩), .pointer (some ⟨kc, 0, none⟩)]] w fun e w' => e = .returned (.bool ((List.range k).any (lvs q inc cid ms))) ∧ Below w.heap.size w w' := by
  have HI := idx_any (cp := cp) hr hk16 q inc cid kq ki kc h1 h2 h3
  clear hr h1 h2 h3
  go_enter Try.func43, Try.ntmps43
  go_wp2_with (first | (go_at_call 46; refine HI.mono ?_; rintro e w2 ⟨r, rfl, hr, hb2⟩) | fail)
  all_goals (go_ret; exact ⟨by rw [← hr]; simp; try omega, hb2⟩)
end
end Go.Proofs.Ytdegjhkjmgimpaa.Mb
namespace Go.Proofs.Ytdegjhkjmgimpaa.Mb
open Go.RowKit
set_option linter.unusedVariables false
set_option maxRecDepth 100000
set_option linter.unusedSimpArgs false
section
variable {A A' : Ag} {w w' W : World} {B : Nat} {T : Int}
def honly (vec set : List Int) : Bool := (List.range 16).all fun q => !(set.getD q 0 == 0 && vec.getD q 0 != 0)
set_option maxHeartbeats 2000000 in
theorem honly_any (vec set : List Int) (hv : vec.length = 16) (hs : set.length = 16) : Calls Try.prog 39 #[.agg (ints vec).toArray, .agg (ints set).toArray] w fun e w' => e = .returned (.bool (honly vec set)) ∧ Below w.heap.size w w' := by
  generalize hW1 : w.alloc (.cells (ints vec).toArray 61) = W1
  generalize hW2 : W1.alloc (.cells (ints set).toArray 61) = W2
  have b1 : Below w.heap.size w W1 := hW1 ▸ balloc (Below.refl _ _)
  have b2 : Below W1.heap.size W1 W2 := hW2 ▸ balloc (Below.refl _ _)
  have k1 : Rw W1 w.heap.size 61 vec := by unfold Rw; rw [← hW1]; exact heap_alloc_new w _
  have HK2 : Hid (Rw W2 W1.heap.size 61 set) := by show Rw _ _ _ _; unfold Rw; rw [← hW2]; exact heap_alloc_new W1 _
  have HK1 : Hid (Rw W2 w.heap.size 61 vec) := k1.still b2
  have HB2 : Hid (Below w.heap.size w W2) := bstep b1 b2
  clear b1 b2 k1
  go_enter Try.func39, Try.ntmps39
  go_wp2
  go_loopw [6] (fun i wr => ∃ k : Nat, k ≤ 16 ∧ i = .int .i64 k ∧ ((List.range k).all fun q => !(set.getD q 0 == 0 && vec.getD q 0 != 0)) = true ∧ wr = W2) (fun i _ => 16 - (intOf i).toNat)
  case atStart => exact ⟨0, Nat.zero_le _, rfl, by simp, rfl⟩
  case round =>
    obtain ⟨k, hk, rfl, hall, rfl⟩ := hrel
    by_cases hlt : k < 16
    · have d1 := HK1.out.cell (i := k) (by omega)
      have d2 := HK2.out.cell (i := k) (by omega)
      have i1 : (0 : Int) ≤ (k : Int) := Int.natCast_nonneg _
      have i3 : (k : Int) < 16 := by omega
      have Hbad : Hid ((set.getD k 0 == 0 && vec.getD k 0 != 0) = true → honly vec set = false) := fun h => by
        cases ha : honly vec set with
        | false => rfl
        | true =>
          have := List.all_eq_true.1 ha k (List.mem_range.2 hlt)
          rw [h] at this; cases this
      have Hgood : Hid ((set.getD k 0 == 0 && vec.getD k 0 != 0) = false → ((List.range (k + 1)).all fun q => !(set.getD q 0 == 0 && vec.getD q 0 != 0)) = true) := fun h => by
        rw [List.range_succ, List.all_append, hall]
        simp only [List.all_cons, List.all_nil, h]
        rfl
      generalize set.getD k 0 = x at *
      generalize vec.getD k 0 = y at *
      clear hall
      by_cases hx : x = 0
      · have Hx : Hid (x = 0) := hx
        rw [hx] at d2
        clear hx
        by_cases hy : y = 0
        · have Hy : Hid (y = 0) := hy
          rw [hy] at d1
          clear hy
          go_wp2
          exact ⟨⟨k + 1, by omega, by go_num, Hgood.out (by rw [Hx.out, Hy.out]; rfl), by first | rfl | trivial⟩, by simp [intOf]; omega⟩
        · have Hy : Hid (¬ y = 0) := hy
          have e1 : (y != 0) = true := by simpa using hy
          go_wp2
          go_ret
          exact ⟨by rw [Hbad.out (by rw [Hx.out]; simpa using Hy.out)]; rfl, HB2.out⟩
      · have Hx : Hid (¬ x = 0) := hx
        have e1 : (x == 0) = false := by simpa using hx
        go_wp2
        exact ⟨⟨k + 1, by omega, by go_num, Hgood.out (by rw [show (x == 0) = false by simpa using Hx.out]; rfl), by first | rfl | trivial⟩, by simp [intOf]; omega⟩
    · obtain rfl : k = 16 := by omega
      have Hall : Hid (honly vec set = true) := hall
      clear hall
      go_wp2
      go_ret
      exact ⟨by rw [Hall.out]; rfl, HB2.out⟩
end
end Go.Proofs.Ytdegjhkjmgimpaa.Mb
