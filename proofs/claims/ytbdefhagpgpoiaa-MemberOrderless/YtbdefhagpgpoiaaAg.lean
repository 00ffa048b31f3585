import Derived.Test.YtbdefhagpgpoiaaAf
import Derived.Laws.ResultCell
namespace Go.Proofs.Ytbdefhagpgpoiaa.Mb
open Go.RowKit
set_option linter.unusedVariables false
set_option maxRecDepth 100000
set_option linter.unusedSimpArgs false
section
variable {A A' : Ag} {w w' W : World} {B : Nat} {T : Int}
def RdI (w : World) (ao : Option Addr) (len : Nat) (xs : List Int) : Prop :=
  xs.length = len ∧ (len = 0 ∨ ∃ b off, ao = some ⟨b, off, none⟩ ∧ ∀ i, i < len → w.cell? ⟨b, off + i, none⟩ = some (.int .i64 (xs.getD i 0)))
theorem RdI.still {ao : Option Addr} {len : Nat} {xs : List Int} (h : RdI w ao len xs) (hb : Below w.heap.size w w') : RdI w' ao len xs := by
  obtain ⟨h1, h3⟩ := h
  refine ⟨h1, h3.elim (fun hh => .inl hh) (fun hh => .inr ?_)⟩
  obtain ⟨b, off, rfl, hc⟩ := hh
  exact ⟨b, off, rfl, fun i hi => below_at hb (hc i hi)⟩
theorem RdI.at {ao : Option Addr} {len : Nat} {xs : List Int} (h : RdI w ao len xs) {i : Nat} (hi : i < len) : ∃ b off, ao = some ⟨b, off, none⟩ ∧ w.cell? ⟨b, off + i, none⟩ = some (.int .i64 (xs.getD i 0)) := by
  obtain ⟨h1, h3⟩ := h
  rcases h3 with h3 | ⟨b, off, h4, h5⟩
  · omega
  · exact ⟨b, off, h4, h5 i hi⟩
theorem own_rd {ao : Option Addr} {n c : Nat} {xs : List Int} (h : w.ownsRow B 3 1 (.slice ao n c) n (ints xs)) : RdI w ao n xs := by
  have hl : xs.length = n := by simpa [ints] using h.1
  refine ⟨hl, ?_⟩
  by_cases h0 : n = 0
  · exact .inl h0
  · rcases h.2 with ⟨h1, h2⟩ | ⟨g, cap, cur, hv, hB, hg, hnc, hcm, hcs, htk⟩
    · omega
    · simp at hv
      refine .inr ⟨g, 0, hv.1, fun i hi => ?_⟩
      rw [Nat.zero_add, blk_cell hg i]
      have e1 : (cur.toList.take (n * 1))[i]? = (ints xs)[i]? := by rw [htk]
      rw [List.getElem?_take_of_lt (by omega)] at e1
      rw [← Array.getElem?_toList, e1]
      simp [ints, List.getD, show i < xs.length by omega]
def inR (x : Int) : Bool := decide (0 ≤ x ∧ x ≤ 4611686018427387904)
theorem results_row_tmp {fn : Func} {p u : Tmp} {ty : TypeId} (h : fn.results = #[.cell p ty, .tmp u]) (tmps : Array Value) (w : World) (g : Nat) (t : TypeId) (xs : List Int) (d : TypeDesc) (v : Value)
    (hp : tmps.getD p undef = .pointer (some ⟨g, 0, none⟩)) (hv : tmps.getD u undef = v) (hg : Rw w g t xs)
    (hu : Try.prog.underlying ty = some d) (hd : d.isRow = true) (hi : (Try.prog.info? ty).map (·.size) = some xs.length) :
    (results fn tmps).run Try.prog w = .ok (.tuple #[.agg (ints xs).toArray, v]) w := by
  rw [results_cell_tmp h, hp, hv]
  simp [asAddr, run_loadVar_mid w g 0 ty (ints xs) d hg.all hu hd (by rw [ints_len]; exact hi)]
def pad (xs : List Int) : List Int := (List.range 16).map fun i => xs.getD i 0
def padK (xs : List Int) (k : Nat) : List Int := (List.range 16).map fun i => if i < k then xs.getD i 0 else 0
theorem pad_len (xs : List Int) : (pad xs).length = 16 := by simp [pad]
theorem padK_len (xs : List Int) (k : Nat) : (padK xs k).length = 16 := by simp [padK]
theorem padK_zero (xs : List Int) : zs = padK xs 0 := by
  unfold padK zs
  rw [show (List.replicate 16 (0 : Int)) = (List.range 16).map (fun _ => 0) from rfl]
  apply List.map_congr_left
  intro q _
  simp
theorem padK_all (xs : List Int) : padK xs xs.length = pad xs := by
  unfold padK pad
  apply List.map_congr_left
  intro q _
  by_cases h : q < xs.length
  · rw [if_pos h]
  · rw [if_neg h]; simp [List.getD, h]
theorem padK_step (xs : List Int) (k : Nat) (hk : k < 16) : (padK xs k).set k (xs.getD k 0) = padK xs (k + 1) := by
  apply List.ext_getElem?
  intro i
  simp only [padK, List.getElem?_set, List.length_map, List.length_range, List.getElem?_map]
  by_cases e : k = i
  · subst e
    simp [hk]
  · by_cases h2 : i < 16
    · have : i < k + 1 ↔ i < k := by omega
      simp [e, h2, this]
    · simp [e, h2]
def okL (xs : List Int) (n : Nat) : Bool := decide (xs.length = n) && xs.all inR
set_option maxHeartbeats 2000000 in
theorem rowOf_any {ao : Option Addr} {n c : Nat} {xs : List Int} (hr : RdI w ao n xs) (m : Nat) (hm : m ≤ 16) (hn : n ≤ 17592186044416) : Calls Try.prog 43 #[.slice ao n c, .int .i64 m] w fun e w' => ∃ r, e = .returned (.tuple #[.agg (ints r).toArray, .bool (okL xs m)]) ∧ r.length = 16 ∧ (okL xs m = true → r = pad xs) ∧ Below w.heap.size w w' := by
  generalize hW1 : w.alloc (.cells #[.int .i64 0, .int .i64 0, .int .i64 0, .int .i64 0, .int .i64 0, .int .i64 0, .int .i64 0, .int .i64 0, .int .i64 0, .int .i64 0, .int .i64 0, .int .i64 0, .int .i64 0, .int .i64 0, .int .i64 0, .int .i64 0] 100) = W1
  generalize hW2 : W1.alloc (.cells #[.int .i64 0, .int .i64 0, .int .i64 0, .int .i64 0, .int .i64 0, .int .i64 0, .int .i64 0, .int .i64 0, .int .i64 0, .int .i64 0, .int .i64 0, .int .i64 0, .int .i64 0, .int .i64 0, .int .i64 0, .int .i64 0] 100) = W2
  have b1 : Below w.heap.size w W1 := hW1 ▸ balloc (Below.refl _ _)
  have b2 : Below W1.heap.size W1 W2 := hW2 ▸ balloc (Below.refl _ _)
  have s1 : W1.heap.size = w.heap.size + 1 := by rw [← hW1]; simp
  have k1 : Rw W1 w.heap.size 100 zs := by unfold Rw; rw [← hW1]; exact heap_alloc_new w _
  have k2 : Rw W2 W1.heap.size 100 zs := by unfold Rw; rw [← hW2]; exact heap_alloc_new W1 _
  have HK1 : Hid (Rw W2 w.heap.size 100 zs) := k1.still b2
  have HK2 : Hid (Rw W2 W1.heap.size 100 zs) := k2
  have HB2 : Hid (Below w.heap.size w W2) := bstep b1 b2
  have HR : Hid (RdI w ao n xs) := hr
  have hk1 : w.heap.size < W1.heap.size := by omega
  have Hl : Hid (xs.length = n) := hr.1
  clear hr b1 b2 s1 k1 k2
  by_cases hnm : n = m
  · subst hnm
    go_enter Try.func43, Try.ntmps43
    go_wp2
    go_loopw [16] (fun i wr => ∃ k : Nat, k ≤ n ∧ i = .int .i64 k ∧ (xs.take k).all inR = true ∧ Rw wr W1.heap.size 100 (padK xs k) ∧ Kept W2 wr (fun j => j = W1.heap.size)) (fun i _ => n - (intOf i).toNat)
    case atStart => exact ⟨0, Nat.zero_le _, rfl, by simp, by rw [← padK_zero]; exact HK2.out, Kept.refl _ _⟩
    case round =>
      obtain ⟨k, hk, rfl, hall, ho, hb⟩ := hrel
      have HB : Hid (Kept W2 wr (fun j => j = W1.heap.size)) := hb
      have HO : Hid (Rw wr W1.heap.size 100 (padK xs k)) := ho
      have HO1 : Hid (Rw wr w.heap.size 100 zs) := HK1.out.keep hb (by omega)
      by_cases hlt : k < n
      · have hRw : RdI wr ao n xs := HR.out.still (bstepK HB2.out hb (fun j hj e => by omega))
        obtain ⟨g, off, hg, e0⟩ := hRw.at hlt
        have HWk : Hid (∀ w', Calls Try.prog 40 #[.int .i64 (xs.getD k 0), .int .i64 0, .int .i64 4611686018427387904] w' fun e w2 => e = .returned (.bool (inR (xs.getD k 0))) ∧ w' = w2) := fun w' => within_any (xs.getD k 0) 0 4611686018427387904
        have i1 : (0 : Int) ≤ (k : Int) := Int.natCast_nonneg _
        have i2 : (k : Int) < (n : Int) := by omega
        have i3 : (k : Int) < 16 := by omega
        have hmem : Hid (inR (xs.getD k 0) = false → xs.all inR = false) := fun h => by
          have hkx : k < xs.length := by have := Hl.out; omega
          cases ha : xs.all inR with
          | false => rfl
          | true =>
            have := List.all_eq_true.1 ha (xs.getD k 0) (by simp [List.getD, hkx])
            rw [h] at this; cases this
        have hnext : Hid (inR (xs.getD k 0) = true → (xs.take (k + 1)).all inR = true) := fun h => by
          have hkx : k < xs.length := by have := Hl.out; omega
          rw [List.take_add_one, List.all_append, hall]
          have e2 : xs[k]? = some (xs.getD k 0) := by simp [List.getD, hkx]
          rw [e2]
          simpa using h
        have HP : Hid ((padK xs k).set k (xs.getD k 0) = padK xs (k + 1)) := padK_step xs k (by omega)
        have d0 := ho.cell (i := k) (by rw [padK_len]; omega)
        have d1 := ho.fz k
        subst hg
        generalize xs.getD k 0 = x at *
        clear hall ho hb hRw
        cases hx : inR x with
        | true =>
          rw [hx] at HWk
          go_wp2_with (first | (go_at_call 40; refine (HWk.out _).mono ?_; rintro e w2 ⟨rfl, rfl⟩) | fail)
          exact ⟨⟨k + 1, by omega, by go_num, hnext.out hx, by rw [← HP.out]; exact HO.out.set k x, HB.out.trans (kset _ _ _ _ rfl)⟩, by simp [intOf]; omega⟩
        | false =>
          rw [hx] at HWk
          go_wp2_with (first
            | (go_at_call 40; refine (HWk.out _).mono ?_; rintro e w2 ⟨rfl, rfl⟩)
            | (refine load_mid 100 (.tmp 6) HO.out.all _ Try.underlying100 rfl (by rw [ints_len, padK_len]; exact info_row) rfl rfl rfl ?_)
            | (refine store_mid 100 (.tmp 4) (.tmp 24) (HO1.out.there 0 (padK xs k).length (by rw [padK_len]; exact Nat.le_refl _)) (by rw [padK_len]; exact info_row) rfl rfl rfl rfl ?_)
            | fail)
          (try simp only [Exit.inBlock, Exit.then])
          refine bodyPost_ret (v := .tuple #[.agg (ints (padK xs k)).toArray, .bool false]) ?_ ?_ ?_
          · exact results_row_tmp rfl _ _ w.heap.size 100 (padK xs k) _ _ rfl rfl ((HO1.out).whole (by first | rfl | (rw [padK_len]; rfl))) Try.underlying100 rfl (by rw [padK_len]; exact info_row)
          · rfl
          · refine ⟨padK xs k, ?_, padK_len xs k, fun hh => ?_, bsets (Nat.le_refl _) _ _ (bstepK HB2.out HB.out (fun j hj e => by omega))⟩
            · unfold okL; rw [hmem.out hx, Bool.and_false]
            · unfold okL at hh; rw [hmem.out hx, Bool.and_false] at hh; cases hh
      · obtain rfl : k = n := by omega
        have Hall : Hid (xs.all inR = true) := by rw [List.take_of_length_le (by have := Hl.out; omega)] at hall; exact hall
        clear hall ho hb
        go_wp2_with (first
            | (refine load_mid 100 (.tmp 6) HO.out.all _ Try.underlying100 rfl (by rw [ints_len, padK_len]; exact info_row) rfl rfl rfl ?_)
            | (refine store_mid 100 (.tmp 4) (.tmp 29) (HO1.out.there 0 (padK xs k).length (by rw [padK_len]; exact Nat.le_refl _)) (by rw [padK_len]; exact info_row) rfl rfl rfl rfl ?_)
            | fail)
        (try simp only [Exit.inBlock, Exit.then])
        refine bodyPost_ret (v := .tuple #[.agg (ints (padK xs k)).toArray, .bool true]) ?_ ?_ ?_
        · exact results_row_tmp rfl _ _ w.heap.size 100 (padK xs k) _ _ rfl rfl ((HO1.out).whole (by first | rfl | (rw [padK_len]; rfl))) Try.underlying100 rfl (by rw [padK_len]; exact info_row)
        · rfl
        · have hl := Hl.out
          subst hl
          refine ⟨padK xs xs.length, ?_, padK_len xs _, fun hh => padK_all xs, bsets (Nat.le_refl _) _ _ (bstepK HB2.out HB.out (fun j hj e => by omega))⟩
          unfold okL; rw [Hall.out]; simp
  · have hnm' : ¬ ((n : Int) = (m : Int)) := by omega
    go_enter Try.func43, Try.ntmps43
    go_wp2_with (first
      | (refine load_mid 100 (.tmp 6) HK2.out.all _ Try.underlying100 rfl (by rw [ints_len]; exact info_row) rfl rfl rfl ?_)
      | (refine store_mid 100 (.tmp 4) (.tmp 13) (HK1.out.there 0 zs.length (Nat.le_refl _)) info_row rfl rfl rfl rfl ?_)
      | fail)
    (try simp only [Exit.inBlock, Exit.then])
    refine bodyPost_ret (v := .tuple #[.agg (ints zs).toArray, .bool false]) ?_ ?_ ?_
    · exact results_row_tmp rfl _ _ w.heap.size 100 zs _ _ rfl rfl ((HK1.out).whole (by first | rfl | (rw [zs_len]; rfl))) Try.underlying100 rfl (by rw [zs_len]; exact info_row)
    · rfl
    · have hf : okL xs m = false := by unfold okL; rw [decide_eq_false (by have := Hl.out; omega), Bool.false_and]
      exact ⟨zs, by rw [hf], rfl, (fun hh => by rw [hf] at hh; cases hh), bsets (Nat.le_refl _) _ _ HB2.out⟩
end
end Go.Proofs.Ytbdefhagpgpoiaa.Mb
