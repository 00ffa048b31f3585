import Derived.Test.YtapenemfnngniaaPb
namespace Go.Proofs.Ytapenemfnngniaa.Qm
open Go.RowKit Mb
set_option linter.unusedVariables false
set_option maxRecDepth 100000
set_option linter.unusedSimpArgs false
section
variable {w w' W : World} {B : Nat}
structure RdI (w : World) (ao : Option Addr) (n c : Nat) (xs : List Int) : Prop where
  len : xs.length = n
  cap : n ≤ c
  nil : ao = none → c = 0
  at_ : n = 0 ∨ ∃ b off, ao = some ⟨b, off, none⟩ ∧ ∀ i, i < n → w.cell? ⟨b, off + i, none⟩ = some (.int .i64 (xs.getD i 0))
theorem RdI.still {ao : Option Addr} {n c : Nat} {xs : List Int} (h : RdI w ao n c xs) (hb : Below w.heap.size w w') : RdI w' ao n c xs :=
  ⟨h.len, h.cap, h.nil, h.at_.elim (fun hh => .inl hh) (fun ⟨b, off, e, hc⟩ => .inr ⟨b, off, e, fun i hi => below_at hb (hc i hi)⟩)⟩
theorem RdI.at {ao : Option Addr} {n c : Nat} {xs : List Int} (h : RdI w ao n c xs) {i : Nat} (hi : i < n) : ∃ b off, ao = some ⟨b, off, none⟩ ∧ w.cell? ⟨b, off + i, none⟩ = some (.int .i64 (xs.getD i 0)) := by
  rcases h.at_ with h3 | ⟨b, off, h4, h5⟩
  · omega
  · exact ⟨b, off, h4, h5 i hi⟩
theorem bstepK {w0 w w' : World} {P : Nat → Prop} (h : Below w0.heap.size w0 w) (k : Kept w w' P) (hp : ∀ j, j < w0.heap.size → ¬ P j) : Below w0.heap.size w0 w' := h.trans (k.below h.size hp)
theorem load_mid {ops : Array Oper} {rest : List Oper} {o : Oper} {a : Act} {Q : Exit → Act → World → Prop} (ty : TypeId) (x : Operand) {b off : Nat} {cs : List Value} (hc : w.rangeAt b off cs) (d : TypeDesc) (hu : Try.prog.underlying ty = some d) (hd : d.isRow = true) (hi : (Try.prog.info? ty).map (·.size) = some cs.length)
    (ho : o.op = .load ty x) (hx : a.eval x = .pointer (some ⟨b, off, none⟩)) (hw : Region.wanted o (yielded ops a.tmps) = true) (h : wpList Try.prog ops Q rest (a.put o.dst (.agg cs.toArray)) w) : wpList Try.prog ops Q (o :: rest) a w :=
  wpList_step fun K hK => by
    rw [if_pos hw]
    exact wp_load_mid ty x ho b off hx cs d hc hu hd hi (hK _ _ h)
theorem store_mid {ops : Array Oper} {rest : List Oper} {o : Oper} {a : Act} {Q : Exit → Act → World → Prop} (ty : TypeId) (x y : Operand) {b off : Nat} {xs : List Int} (ht : w.there b off xs.length) (hi : (Try.prog.info? ty).map (·.size) = some xs.length)
    (ho : o.op = .store ty x y) (hx : a.eval x = .pointer (some ⟨b, off, none⟩)) (hy : a.eval y = .agg (ints xs).toArray) (hw : Region.wanted o (yielded ops a.tmps) = true) (h : wpList Try.prog ops Q rest (a.put o.dst undef) (w.setCells b off (ints xs))) : wpList Try.prog ops Q (o :: rest) a w :=
  wpList_step fun K hK => by
    rw [if_pos hw]
    exact wp_store_mid ty x y ho b off _ hx hy (by simpa [ints] using ht) (by simpa [ints] using hi) (all_oneCell_toArray (ints_one xs)) (hK _ _ (by simpa using h))
theorem Rw.whole {k t : Nat} {xs ys : List Int} (h : Rw w k t xs) (hl : ys.length = xs.length) : Rw (w.setCells k 0 (ints ys)) k t ys := by
  have := Rw.sets ys 0 w xs h (by omega)
  rw [hl, Nat.zero_add, List.drop_of_length_le (Nat.le_refl _)] at this
  simpa using this
theorem Kept.cell {a b : World} {P : Nat → Prop} (k : Kept a b P) {i o : Nat} {v : Value} (hc : a.cell? ⟨i, o, none⟩ = some v) (hp : ¬ P i) : b.cell? ⟨i, o, none⟩ = some v := by
  have hl := World.block_lt_of_cell? a _ hc
  have := k.block i hl hp
  rw [← hc]
  simp [World.cell?, this]
theorem Kept.range {a b : World} {P : Nat → Prop} (k : Kept a b P) {i o : Nat} {cs : List Value} (hc : a.rangeAt i o cs) (hp : ¬ P i) : b.rangeAt i o cs := fun j v hv => Kept.cell k (hc j v hv) hp
theorem results_row_tmp {fn : Func} {p u : Tmp} {ty : TypeId} (h : fn.results = #[.cell p ty, .tmp u]) (tmps : Array Value) (w : World) (g : Nat) (t : TypeId) (xs : List Int) (d : TypeDesc) (v : Value)
    (hp : tmps.getD p undef = .pointer (some ⟨g, 0, none⟩)) (hv : tmps.getD u undef = v) (hg : Rw w g t xs)
    (hu : Try.prog.underlying ty = some d) (hd : d.isRow = true) (hi : (Try.prog.info? ty).map (·.size) = some xs.length) :
    (results fn tmps).run Try.prog w = .ok (.tuple #[.agg (ints xs).toArray, v]) w := by
  rw [results_cell_tmp h, hp, hv]
  simp [asAddr, run_loadVar_mid w g 0 ty (ints xs) d hg.all hu hd (by rw [ints_len]; exact hi)]
theorem info_bal : (Try.prog.info? 72).map (·.size) = some 19 := by kernel_rfl
def nv (xs : List Int) : List Nat := xs.map Int.toNat
theorem nv_len (xs : List Int) : (nv xs).length = xs.length := by simp [nv]
theorem nv_at (xs : List Int) (k : Nat) : (nv xs).getD k 0 = (xs.getD k 0).toNat := by
  unfold nv
  by_cases h : k < xs.length
  · simp [List.getD, h]
  · simp [List.getD, List.getElem?_eq_none (show xs.length ≤ k by omega)]
def in9 (x : Int) : Bool := decide (0 ≤ x ∧ x ≤ 9)
def okI (xs : List Int) : Bool := decide (xs.length ≤ 16) && (xs.all in9 && decide (0 < T (nv xs)))
theorem okI_ok {xs : List Int} (h : okI xs = true) : Ok (nv xs) := by
  unfold okI at h
  simp only [Bool.and_eq_true, decide_eq_true_eq] at h
  refine ⟨by rw [nv_len]; exact h.1, fun i => ?_, h.2.2⟩
  rw [nv_at]
  by_cases hi : i < xs.length
  · have := List.all_eq_true.1 h.2.1 (xs.getD i 0) (by simp [List.getD, hi])
    unfold in9 at this
    have := of_decide_eq_true this
    omega
  · simp [List.getD, List.getElem?_eq_none (show xs.length ≤ i by omega)]
def bf (n : Int) (v : List Nat) (k : Nat) (j : Nat) : Int := if j = 0 then n else if j < 17 then (if j - 1 < k then (v.getD (j - 1) 0 : Int) else 0) else if j = 17 then (sm v k : Int) else (fs v k : Int)
def bk (n : Int) (v : List Nat) (k : Nat) : List Int := (List.range 19).map (bf n v k)
def bl (v : List Nat) : List Int := bk v.length v v.length
theorem bk_len (n : Int) (v : List Nat) (k : Nat) : (bk n v k).length = 19 := by simp [bk]
theorem bk_at (n : Int) (v : List Nat) (k j : Nat) (hj : j < 19) : (bk n v k).getD j 0 = bf n v k j := by simp [bk, List.getD, hj]
theorem map_set (f : Nat → Int) (n i : Nat) (x : Int) : ((List.range n).map f).set i x = (List.range n).map (fun j => if j = i then x else f j) := by
  apply List.ext_getElem?
  intro j
  simp only [List.getElem?_set, List.length_map, List.length_range, List.getElem?_map]
  by_cases e : i = j
  · subst e
    by_cases h : i < n <;> simp [h]
  · by_cases h : j < n
    · simp [e, h, show ¬ j = i from fun h => e h.symm]
    · simp [e, h]
theorem bk_zero (n : Int) (v : List Nat) : bk n v 0 = n :: List.replicate 18 0 := by
  show (List.range 19).map (bf n v 0) = _
  rw [show List.range 19 = 0 :: (List.range 18).map (· + 1) from rfl, List.map_cons]
  congr 1
theorem bk_step0 (n : Int) (v : List Nat) (k : Nat) (hk : k < 16) (h0 : sm v k = 0) : (((bk n v k).set 18 (k : Int)).set (1 + k) (v.getD k 0 : Int)).set 17 ((sm v k : Int) + (v.getD k 0 : Int)) = bk n v (k + 1) := by
  unfold bk
  rw [map_set, map_set, map_set]
  apply List.map_congr_left
  intro j hj
  have hj' : j < 19 := List.mem_range.1 hj
  unfold bf
  by_cases e1 : j = 17
  · subst e1; simp [sm]
  · by_cases e2 : j = 18
    · subst e2; simp [fs, h0, show ¬ 18 = 1 + k by omega]
    · by_cases e3 : j = 1 + k
      · subst e3; simp [show ¬ 1 + k = 0 by omega, show 1 + k < 17 by omega, e1, e2, show 1 + k - 1 = k by omega]
      · simp only [e1, e2, e3, if_false]
        by_cases e4 : j = 0
        · simp [e4]
        · have a1 : j < 17 := by omega
          have a2 : (j - 1 < k + 1) ↔ (j - 1 < k) := by omega
          simp [e4, a1, a2]
theorem bk_step1 (n : Int) (v : List Nat) (k : Nat) (hk : k < 16) (h0 : ¬ sm v k = 0) : ((bk n v k).set (1 + k) (v.getD k 0 : Int)).set 17 ((sm v k : Int) + (v.getD k 0 : Int)) = bk n v (k + 1) := by
  unfold bk
  rw [map_set, map_set]
  apply List.map_congr_left
  intro j hj
  have hj' : j < 19 := List.mem_range.1 hj
  unfold bf
  by_cases e1 : j = 17
  · subst e1; simp [sm]
  · by_cases e2 : j = 18
    · subst e2; simp [fs, h0, show ¬ 18 = 1 + k by omega]
    · by_cases e3 : j = 1 + k
      · subst e3; simp [show ¬ 1 + k = 0 by omega, show 1 + k < 17 by omega, e1, e2, show 1 + k - 1 = k by omega]
      · simp only [e1, e2, e3, if_false]
        by_cases e4 : j = 0
        · simp [e4]
        · have a1 : j < 17 := by omega
          have a2 : (j - 1 < k + 1) ↔ (j - 1 < k) := by omega
          simp [e4, a1, a2]
theorem Rw.bal {g : Nat} {v : List Nat} (h : Rw w g 72 (bl v)) (hl : v.length ≤ 16) : Bal w g v := by
  have hc : ∀ j, j < 19 → w.cell? ⟨g, j, none⟩ = some (.int .i64 (bf v.length v v.length j)) := fun j hj => by
    rw [h.cell (i := j) (by unfold bl; rw [bk_len]; exact hj)]
    unfold bl
    rw [bk_at _ _ _ _ hj]
  refine ⟨hc 0 (by omega), fun i hi => ?_, hc 17 (by omega), hc 18 (by omega)⟩
  rw [hc (1 + i) (by omega)]
  unfold bf
  simp only [show ¬ 1 + i = 0 by omega, if_false, show 1 + i < 17 by omega, if_true, show 1 + i - 1 = i by omega]
  by_cases h : i < v.length
  · simp [h]
  · simp [h, List.getD, List.getElem?_eq_none (show v.length ≤ i by omega)]
def zs19 : List Int := List.replicate 19 0
set_option maxHeartbeats 4000000 in
theorem counted_any {ao : Option Addr} {n c : Nat} {xs : List Int} (hr : RdI w ao n c xs) : Calls Try.prog 33 #[.slice ao n c] w fun e w' => ∃ r, e = .returned (.tuple #[.agg (ints r).toArray, .bool (okI xs)]) ∧ r.length = 19 ∧ (okI xs = true → r = bl (nv xs)) ∧ Below w.heap.size w w' := by
  generalize hW1 : w.alloc (.cells #[.int .i64 0, .int .i64 0, .int .i64 0, .int .i64 0, .int .i64 0, .int .i64 0, .int .i64 0, .int .i64 0, .int .i64 0, .int .i64 0, .int .i64 0, .int .i64 0, .int .i64 0, .int .i64 0, .int .i64 0, .int .i64 0, .int .i64 0, .int .i64 0, .int .i64 0] 72) = W1
  have b1 : Below w.heap.size w W1 := hW1 ▸ balloc (Below.refl _ _)
  have s1 : W1.heap.size = w.heap.size + 1 := by rw [← hW1]; simp
  have k1 : Rw W1 w.heap.size 72 zs19 := by unfold Rw; rw [← hW1]; exact heap_alloc_new w _
  have HR : Hid (RdI w ao n c xs) := hr
  have Hl : Hid (xs.length = n) := hr.len
  clear hr
  by_cases hn : 16 < n
  · have HO1 : Hid (Rw W1 w.heap.size 72 zs19) := k1
    have hf : Hid (okI xs = false) := (show okI xs = false from by unfold okI; rw [decide_eq_false (by have := Hl.out; omega), Bool.false_and])
    have HB1 : Hid (Below w.heap.size w W1) := b1
    clear b1 s1 k1
    go_enter Try.func33, Try.ntmps33
    go_wp2_with (first
      | (refine store_mid 72 (.tmp 2) (.tmp 10) (xs := zs19) (HO1.out.there 0 19 (by show 0 + 19 ≤ 19; omega)) info_bal rfl rfl rfl rfl ?_)
      | fail)
    (try simp only [Exit.inBlock, Exit.then])
    refine bodyPost_ret (v := .tuple #[.agg (ints zs19).toArray, .bool false]) ?_ ?_ ?_
    · exact results_row_tmp rfl _ _ w.heap.size 72 zs19 _ _ rfl rfl (Rw.whole HO1.out rfl) Try.underlying72 rfl info_bal
    · rfl
    · exact ⟨zs19, by rw [hf.out], rfl, (fun hh => by rw [hf.out] at hh; cases hh), bsets (Nat.le_refl _) _ _ HB1.out⟩
  · generalize hW2 : W1.alloc (.cells #[.int .i64 0, .int .i64 0, .int .i64 0, .int .i64 0, .int .i64 0, .int .i64 0, .int .i64 0, .int .i64 0, .int .i64 0, .int .i64 0, .int .i64 0, .int .i64 0, .int .i64 0, .int .i64 0, .int .i64 0, .int .i64 0, .int .i64 0, .int .i64 0, .int .i64 0] 72) = W2
    have b2 : Below W1.heap.size W1 W2 := hW2 ▸ balloc (Below.refl _ _)
    have k2 : Rw W2 W1.heap.size 72 zs19 := by unfold Rw; rw [← hW2]; exact heap_alloc_new W1 _
    generalize hW3 : W2.setCells W1.heap.size 0 (ints ((n : Int) :: List.replicate 18 0)) = W3
    have k3 : Rw W3 W1.heap.size 72 ((n : Int) :: List.replicate 18 0) := by rw [← hW3]; exact Rw.whole k2 rfl
    have kk3 : Kept W2 W3 (fun j => j = W1.heap.size) := by rw [← hW3]; exact ksets (P := fun j => j = W1.heap.size) rfl _ _ _
    have HK1 : Hid (Rw W3 w.heap.size 72 zs19) := (k1.still b2).keep kk3 (by omega)
    have HK2 : Hid (Rw W2 W1.heap.size 72 zs19) := k2
    have HK3 : Hid (Rw W3 W1.heap.size 72 ((n : Int) :: List.replicate 18 0)) := k3
    have HB3 : Hid (Below w.heap.size w W3) := bstepK (bstep b1 b2) kk3 (fun j hj e => by omega)
    have hk1 : w.heap.size < W1.heap.size := by omega
    obtain ⟨v, hv⟩ : ∃ v, v = nv xs := ⟨_, rfl⟩
    have HV : Hid (v = nv xs) := hv
    clear b1 b2 s1 k1 k2 k3 kk3 hv
    go_enter Try.func33, Try.ntmps33
    go_wp2_with (first
      | (refine store_mid 72 (.tmp 4) (.tmp 13) (xs := (n : Int) :: List.replicate 18 0) (HK2.out.there 0 19 (by show 0 + 19 ≤ 19; omega)) info_bal rfl rfl rfl rfl ?_; rw [hW3])
      | fail)
    go_loopw [16] (fun i wr => ∃ k : Nat, k ≤ n ∧ i = .int .i64 (k : Int) ∧ (xs.take k).all in9 = true ∧ sm v k ≤ 144 ∧ Rw wr W1.heap.size 72 (bk (n : Int) v k) ∧ Kept W3 wr (fun j => j = W1.heap.size)) (fun i _ => n - (intOf i).toNat)
    case atStart => exact ⟨0, Nat.zero_le _, rfl, by simp, by simp [sm], by rw [bk_zero]; exact HK3.out, Kept.refl _ _⟩
    case round =>
      obtain ⟨k, hk, rfl, hall, hsm, ho, hb⟩ := hrel
      have HB : Hid (Kept W3 wr (fun j => j = W1.heap.size)) := hb
      have HO : Hid (Rw wr W1.heap.size 72 (bk (n : Int) v k)) := ho
      have HO1 : Hid (Rw wr w.heap.size 72 zs19) := HK1.out.keep hb (by omega)
      have c17 : wr.cell? ⟨W1.heap.size, 17, none⟩ = some (.int .i64 (sm v k : Int)) := by
        rw [ho.cell (i := 17) (by rw [bk_len]; decide), bk_at _ _ _ _ (by decide)]
        rfl
      by_cases hlt : k < n
      · have hRw : RdI wr ao n c xs := HR.out.still (bstepK HB3.out hb (fun j hj e => by omega))
        obtain ⟨g, off, hg, e0⟩ := hRw.at hlt
        have HWk : Hid (∀ w', Calls Try.prog 48 #[.int .i64 (xs.getD k 0), .int .i64 0, .int .i64 9] w' fun e w2 => e = .returned (.bool (in9 (xs.getD k 0))) ∧ w' = w2) := fun w' => within_any (xs.getD k 0) 0 9
        have hmem : Hid (in9 (xs.getD k 0) = false → okI xs = false) := fun h => by
          have hkx : k < xs.length := by have := Hl.out; omega
          unfold okI
          cases ha : xs.all in9 with
          | false => simp
          | true =>
            have := List.all_eq_true.1 ha (xs.getD k 0) (by simp [List.getD, hkx])
            rw [h] at this; cases this
        have hnext : Hid (in9 (xs.getD k 0) = true → (xs.take (k + 1)).all in9 = true) := fun h => by
          have hkx : k < xs.length := by have := Hl.out; omega
          rw [List.take_add_one, List.all_append, hall]
          have e2 : xs[k]? = some (xs.getD k 0) := by simp [List.getD, hkx]
          rw [e2]
          simpa using h
        have hvk : v.getD k 0 = (xs.getD k 0).toNat := by rw [HV.out]; exact nv_at xs k
        have hle : (xs.take (k + 1)).all in9 = true → sm v (k + 1) ≤ 144 := fun h => by
          have hx : in9 (xs.getD k 0) = true := by
            have hkx : k < xs.length := by have := Hl.out; omega
            refine List.all_eq_true.1 h _ ?_
            rw [List.mem_take_iff_getElem]
            exact ⟨k, by omega, by simp [List.getD, hkx]⟩
          have hq : ∀ j, j ≤ k + 1 → sm v j ≤ 9 * j := by
            intro j
            induction j with
            | zero => intro _; simp [sm]
            | succ j ih =>
              intro hj
              have := ih (by omega)
              have hjx : j < xs.length := by have := Hl.out; omega
              have hxj : in9 (xs.getD j 0) = true := by
                refine List.all_eq_true.1 h _ ?_
                rw [List.mem_take_iff_getElem]
                exact ⟨j, by omega, by simp [List.getD, hjx]⟩
              have := of_decide_eq_true hxj
              have h2 : v.getD j 0 = (xs.getD j 0).toNat := by rw [HV.out]; exact nv_at xs j
              simp only [sm]
              omega
          have := hq (k + 1) (Nat.le_refl _)
          omega
        have HLE : Hid ((xs.take (k + 1)).all in9 = true → sm v (k + 1) ≤ 144) := hle
        have HP0 : Hid (sm v k = 0 → (((bk n v k).set 18 (k : Int)).set (1 + k) (v.getD k 0 : Int)).set 17 ((sm v k : Int) + (v.getD k 0 : Int)) = bk n v (k + 1)) := fun h => bk_step0 n v k (by omega) h
        have HP1 : Hid (¬ sm v k = 0 → ((bk n v k).set (1 + k) (v.getD k 0 : Int)).set 17 ((sm v k : Int) + (v.getD k 0 : Int)) = bk n v (k + 1)) := fun h => bk_step1 n v k (by omega) h
        have d1 := fun i => ho.fz i
        have d18 : wr.cell? ⟨W1.heap.size, 18, none⟩ = some (.int .i64 ((bk n v k).getD 18 0)) := ho.cell (i := 18) (by rw [bk_len]; decide)
        have dk : wr.cell? ⟨W1.heap.size, 1 + k, none⟩ = some (.int .i64 ((bk n v k).getD (1 + k) 0)) := ho.cell (i := 1 + k) (by rw [bk_len]; omega)
        have i1 : (0 : Int) ≤ (k : Int) := Int.natCast_nonneg _
        have i2 : (k : Int) < (n : Int) := by omega
        have i3 : (k : Int) < 16 := by omega
        subst hg
        generalize (bk (n : Int) v k).getD 18 0 = u18 at *
        generalize (bk (n : Int) v k).getD (1 + k) 0 = uk at *
        generalize hx : xs.getD k 0 = x at *
        generalize hs : sm v k = t at *
        cases hx9 : in9 x with
        | true =>
          have h9 := of_decide_eq_true hx9
          rw [hx9] at HWk
          have hvx : ((v.getD k 0 : Nat) : Int) = x := by rw [hvk]; omega
          rw [hvx] at HP0 HP1
          have HXL : Hid (sm v (k + 1) ≤ 144) := hle (hnext.out hx9)
          clear hall ho hb hRw hle hvk
          by_cases ht0 : t = 0
          · subst ht0
            have HP := HP0.out rfl
            have HPh : Hid ((((bk n v k).set 18 (k : Int)).set (1 + k) x).set 17 x = bk n v (k + 1)) := (show _ = _ from by simpa using HP)
            clear HP HP0 HP1
            go_wp2_with (first
              | (go_at_call 48; refine (HWk.out _).mono ?_; rintro e w2 ⟨rfl, rfl⟩)
              | fail)
            refine ⟨⟨k + 1, by omega, by go_num, hnext.out hx9, HXL.out, ?_, ?_⟩, by simp [intOf]; omega⟩
            · rw [← HPh.out]
              exact ((HO.out.set 18 (k : Int)).set (1 + k) x).set 17 x
            · exact ((HB.out.trans (kset _ _ _ _ rfl)).trans (kset _ _ _ _ rfl)).trans (kset _ _ _ _ rfl)
          · have HPh : Hid (((bk n v k).set (1 + k) x).set 17 ((t : Int) + x) = bk n v (k + 1)) := HP1.out ht0
            have ht0b : ((t : Int) == 0) = false := by rw [beq_eq_false_iff_ne]; omega
            clear HP0 HP1
            go_wp2_with (first
              | (go_at_call 48; refine (HWk.out _).mono ?_; rintro e w2 ⟨rfl, rfl⟩)
              | fail)
            refine ⟨⟨k + 1, by omega, by go_num, hnext.out hx9, HXL.out, ?_, ?_⟩, by simp [intOf]; omega⟩
            · rw [← HPh.out]
              exact (HO.out.set (1 + k) x).set 17 ((t : Int) + x)
            · exact (HB.out.trans (kset _ _ _ _ rfl)).trans (kset _ _ _ _ rfl)
        | false =>
          rw [hx9] at HWk
          clear hall ho hb hRw hle hvk HP0 HP1
          go_wp2_with (first
            | (go_at_call 48; refine (HWk.out _).mono ?_; rintro e w2 ⟨rfl, rfl⟩)
            | (refine store_mid 72 (.tmp 2) (.tmp 24) (xs := zs19) (HO1.out.there 0 19 (by show 0 + 19 ≤ 19; omega)) info_bal rfl rfl rfl rfl ?_)
            | fail)
          (try simp only [Exit.inBlock, Exit.then])
          refine bodyPost_ret (v := .tuple #[.agg (ints zs19).toArray, .bool false]) ?_ ?_ ?_
          · exact results_row_tmp rfl _ _ w.heap.size 72 zs19 _ _ rfl rfl (Rw.whole HO1.out rfl) Try.underlying72 rfl info_bal
          · rfl
          · exact ⟨zs19, by rw [hmem.out hx9], rfl, (fun hh => by rw [hmem.out hx9] at hh; cases hh), bsets (Nat.le_refl _) _ _ (bstepK HB3.out HB.out (fun j hj e => by omega))⟩
      · obtain rfl : k = n := by omega
        have Hall : Hid (xs.all in9 = true) := by rw [List.take_of_length_le (by have := Hl.out; omega)] at hall; exact hall
        have HOd : Hid (Rw wr.drew w.heap.size 72 zs19) := HO1.out.still (Below.refl _ _).drew
        have hT : T v = sm v k := by unfold T; rw [HV.out, nv_len, Hl.out]
        have FIN0 : ∀ Y, Kept wr.drew Y (fun j => j = w.heap.size) → ∃ r, Ending.returned (.tuple #[.agg (ints (bk (k : Int) v k)).toArray, .bool (decide (0 < sm v k))]) = .returned (.tuple #[.agg (ints r).toArray, .bool (okI xs)]) ∧ r.length = 19 ∧ (okI xs = true → r = bl (nv xs)) ∧ Below w.heap.size w Y := fun Y hY => by
          refine ⟨bk (k : Int) v k, ?_, bk_len _ _ _, fun _ => ?_, ?_⟩
          · unfold okI
            rw [Hall.out, decide_eq_true (show xs.length ≤ 16 by have := Hl.out; omega), ← HV.out, hT]
            simp
          · unfold bl
            rw [← HV.out]
            have : v.length = k := by rw [HV.out, nv_len, Hl.out]
            rw [this]
          · exact bstepK (bstepK HB3.out HB.out (fun j hj e => by omega)) (Kept.trans (Kept.ofBelow (Below.refl _ wr).drew (fun j => j = w.heap.size)) hY) (fun j hj e => by omega)
        clear hall ho hb hT
        obtain ⟨t, ht⟩ : ∃ t, t = sm v k := ⟨_, rfl⟩
        rw [← ht] at c17 hsm FIN0
        clear ht
        have hnc : (k : Int) = ((k : Nat) : Int) := rfl
        by_cases ht0 : 0 < t
        · have FIN : Hid (∀ Y, Kept wr.drew Y (fun j => j = w.heap.size) → ∃ r, Ending.returned (.tuple #[.agg (ints (bk (k : Int) v k)).toArray, .bool true]) = .returned (.tuple #[.agg (ints r).toArray, .bool (okI xs)]) ∧ r.length = 19 ∧ (okI xs = true → r = bl (nv xs)) ∧ Below w.heap.size w Y) := fun Y hY => by
            have := FIN0 Y hY
            rw [decide_eq_true ht0] at this
            exact this
          clear FIN0
          go_wp2
          refine wp_region_held_drew (S := (fun w' => w'.rangeAt W1.heap.size 0 (ints (bk (k : Int) v k)) ∧ w'.cell? ⟨W1.heap.size, 17, none⟩ = some (.int .i64 (t : Int)))) (by kernel_rfl) ⟨Kept.range (Kept.ofBelow (Below.refl _ wr).drew (fun _ => False)) HO.out.all id, below_at (Below.refl _ _).drew c17⟩ (fun hHeld => ?_)
          simp only [Act.put, List.size_toArray, List.length_cons, List.length_nil, Nat.zero_add]
          refine wpAnyH_take (i := 0) (v := .agg (ints (bk (k : Int) v k)).toArray) rfl (by kernel_rfl) (by kernel_rfl) (by kernel_rfl) (fun _ _ _ h => h) (yieldsIf_load_mid (by rfl) 72 (.tmp 4) rfl W1.heap.size (0) (by rfl) (ints (bk (k : Int) v k)) _ (fun w' hS => hS.1) Try.underlying72 rfl (by rw [ints_len, bk_len]; exact info_bal)) hHeld ?_
          simp only [Act.put, List.getElem_toArray, List.getElem_cons_zero, List.getElem_cons_succ, List.setIfInBounds_toArray, List.set_cons_zero, List.set_cons_succ]
          refine wpAnyH_take (i := 1) (v := .pointer (some ⟨W1.heap.size, 17, none⟩)) rfl (by kernel_rfl) (by kernel_rfl) (by kernel_rfl) (fun _ _ _ h => h) (Or.inl ⟨by rfl, fun w' hS => by go_simp⟩) hHeld ?_
          simp only [Act.put, List.getElem_toArray, List.getElem_cons_zero, List.getElem_cons_succ, List.setIfInBounds_toArray, List.set_cons_zero, List.set_cons_succ]
          refine wpAnyH_take (i := 2) (v := .int .i64 (t : Int)) rfl (by kernel_rfl) (by kernel_rfl) (by kernel_rfl) (fun _ _ _ h => h) (Or.inl ⟨by rfl, fun w' hS => by (obtain ⟨s0, s1⟩ := hS; go_simp)⟩) hHeld ?_
          simp only [Act.put, List.getElem_toArray, List.getElem_cons_zero, List.getElem_cons_succ, List.setIfInBounds_toArray, List.set_cons_zero, List.set_cons_succ]
          refine wpAnyH_take (i := 3) (v := .bool true) rfl (by kernel_rfl) (by kernel_rfl) (by kernel_rfl) (fun _ _ _ h => h) (Or.inl ⟨by rfl, fun w' hS => by (go_simp <;> omega)⟩) hHeld ?_
          simp only [Act.put, List.getElem_toArray, List.getElem_cons_zero, List.getElem_cons_succ, List.setIfInBounds_toArray, List.set_cons_zero, List.set_cons_succ]
          refine wpAnyH_ready (rs := [4]) (by kernel_rfl) (by simp) ?_
          refine AllReadyH.cons rfl (fun K hK => ?_) AllReadyH.nil
          split
          · refine wp_store_mid 72 (.tmp 2) (.tmp 40) rfl w.heap.size 0 (ints (bk (k : Int) v k)).toArray rfl rfl (by simpa [ints, bk_len] using HOd.out.there 0 19 (by show 0 + 19 ≤ 19; omega)) (by simpa [ints, bk_len] using info_bal) (all_oneCell_toArray (ints_one _)) ?_
            rw [List.toList_toArray]
            generalize hY : wr.drew.setCells w.heap.size 0 (ints (bk (k : Int) v k)) = Y
            have HY : Hid (Rw Y w.heap.size 72 (bk (k : Int) v k)) := by
              rw [← hY]
              exact Rw.whole HOd.out (by rw [bk_len]; rfl)
            have HYk : Hid (Kept wr.drew Y (fun j => j = w.heap.size)) := (show Kept wr.drew Y (fun j => j = w.heap.size) from by rw [← hY]; exact ksets (P := fun j => j = w.heap.size) rfl _ _ _)
            refine hK.out _ _ ⟨Kept.range HYk.out (Kept.range (Kept.ofBelow (Below.refl _ wr).drew (fun _ => False)) HO.out.all id) (by omega), Kept.cell HYk.out (below_at (Below.refl _ _).drew c17) (by omega)⟩ (fun hHeld => ?_)
            clear hK K
            refine wpAnyH_take (i := 5) (v := .bool true) rfl (by kernel_rfl) (by kernel_rfl) (by kernel_rfl) (fun _ _ _ h => h) (Or.inl ⟨by rfl, fun w' hS => by go_simp⟩) hHeld ?_
            simp only [Act.put, List.getElem_toArray, List.getElem_cons_zero, List.getElem_cons_succ, List.setIfInBounds_toArray, List.set_cons_zero, List.set_cons_succ]
            refine wpAnyH_done (by kernel_rfl) ?_ _
            clear hHeld
            go_wp2
            (try simp only [Exit.inBlock, Exit.then])
            refine bodyPost_ret (v := .tuple #[.agg (ints (bk (k : Int) v k)).toArray, .bool true]) ?_ ?_ ?_
            · exact results_row_tmp rfl _ _ w.heap.size 72 (bk (k : Int) v k) _ _ rfl rfl HY.out Try.underlying72 rfl (by rw [bk_len]; exact info_bal)
            · rfl
            · exact FIN.out Y HYk.out
          · rename_i hne
            exact absurd rfl hne
        · have FIN : Hid (∀ Y, Kept wr.drew Y (fun j => j = w.heap.size) → ∃ r, Ending.returned (.tuple #[.agg (ints (bk (k : Int) v k)).toArray, .bool false]) = .returned (.tuple #[.agg (ints r).toArray, .bool (okI xs)]) ∧ r.length = 19 ∧ (okI xs = true → r = bl (nv xs)) ∧ Below w.heap.size w Y) := fun Y hY => by
            have := FIN0 Y hY
            rw [decide_eq_false ht0] at this
            exact this
          clear FIN0
          go_wp2
          refine wp_region_held_drew (S := (fun w' => w'.rangeAt W1.heap.size 0 (ints (bk (k : Int) v k)) ∧ w'.cell? ⟨W1.heap.size, 17, none⟩ = some (.int .i64 (t : Int)))) (by kernel_rfl) ⟨Kept.range (Kept.ofBelow (Below.refl _ wr).drew (fun _ => False)) HO.out.all id, below_at (Below.refl _ _).drew c17⟩ (fun hHeld => ?_)
          simp only [Act.put, List.size_toArray, List.length_cons, List.length_nil, Nat.zero_add]
          refine wpAnyH_take (i := 0) (v := .agg (ints (bk (k : Int) v k)).toArray) rfl (by kernel_rfl) (by kernel_rfl) (by kernel_rfl) (fun _ _ _ h => h) (yieldsIf_load_mid (by rfl) 72 (.tmp 4) rfl W1.heap.size (0) (by rfl) (ints (bk (k : Int) v k)) _ (fun w' hS => hS.1) Try.underlying72 rfl (by rw [ints_len, bk_len]; exact info_bal)) hHeld ?_
          simp only [Act.put, List.getElem_toArray, List.getElem_cons_zero, List.getElem_cons_succ, List.setIfInBounds_toArray, List.set_cons_zero, List.set_cons_succ]
          refine wpAnyH_take (i := 1) (v := .pointer (some ⟨W1.heap.size, 17, none⟩)) rfl (by kernel_rfl) (by kernel_rfl) (by kernel_rfl) (fun _ _ _ h => h) (Or.inl ⟨by rfl, fun w' hS => by go_simp⟩) hHeld ?_
          simp only [Act.put, List.getElem_toArray, List.getElem_cons_zero, List.getElem_cons_succ, List.setIfInBounds_toArray, List.set_cons_zero, List.set_cons_succ]
          refine wpAnyH_take (i := 2) (v := .int .i64 (t : Int)) rfl (by kernel_rfl) (by kernel_rfl) (by kernel_rfl) (fun _ _ _ h => h) (Or.inl ⟨by rfl, fun w' hS => by (obtain ⟨s0, s1⟩ := hS; go_simp)⟩) hHeld ?_
          simp only [Act.put, List.getElem_toArray, List.getElem_cons_zero, List.getElem_cons_succ, List.setIfInBounds_toArray, List.set_cons_zero, List.set_cons_succ]
          refine wpAnyH_take (i := 3) (v := .bool false) rfl (by kernel_rfl) (by kernel_rfl) (by kernel_rfl) (fun _ _ _ h => h) (Or.inl ⟨by rfl, fun w' hS => by (go_simp <;> omega)⟩) hHeld ?_
          simp only [Act.put, List.getElem_toArray, List.getElem_cons_zero, List.getElem_cons_succ, List.setIfInBounds_toArray, List.set_cons_zero, List.set_cons_succ]
          refine wpAnyH_ready (rs := [4]) (by kernel_rfl) (by simp) ?_
          refine AllReadyH.cons rfl (fun K hK => ?_) AllReadyH.nil
          split
          · refine wp_store_mid 72 (.tmp 2) (.tmp 40) rfl w.heap.size 0 (ints (bk (k : Int) v k)).toArray rfl rfl (by simpa [ints, bk_len] using HOd.out.there 0 19 (by show 0 + 19 ≤ 19; omega)) (by simpa [ints, bk_len] using info_bal) (all_oneCell_toArray (ints_one _)) ?_
            rw [List.toList_toArray]
            generalize hY : wr.drew.setCells w.heap.size 0 (ints (bk (k : Int) v k)) = Y
            have HY : Hid (Rw Y w.heap.size 72 (bk (k : Int) v k)) := by
              rw [← hY]
              exact Rw.whole HOd.out (by rw [bk_len]; rfl)
            have HYk : Hid (Kept wr.drew Y (fun j => j = w.heap.size)) := (show Kept wr.drew Y (fun j => j = w.heap.size) from by rw [← hY]; exact ksets (P := fun j => j = w.heap.size) rfl _ _ _)
            refine hK.out _ _ ⟨Kept.range HYk.out (Kept.range (Kept.ofBelow (Below.refl _ wr).drew (fun _ => False)) HO.out.all id) (by omega), Kept.cell HYk.out (below_at (Below.refl _ _).drew c17) (by omega)⟩ (fun hHeld => ?_)
            clear hK K
            refine wpAnyH_take (i := 5) (v := .bool false) rfl (by kernel_rfl) (by kernel_rfl) (by kernel_rfl) (fun _ _ _ h => h) (Or.inl ⟨by rfl, fun w' hS => by go_simp⟩) hHeld ?_
            simp only [Act.put, List.getElem_toArray, List.getElem_cons_zero, List.getElem_cons_succ, List.setIfInBounds_toArray, List.set_cons_zero, List.set_cons_succ]
            refine wpAnyH_done (by kernel_rfl) ?_ _
            clear hHeld
            go_wp2
            (try simp only [Exit.inBlock, Exit.then])
            refine bodyPost_ret (v := .tuple #[.agg (ints (bk (k : Int) v k)).toArray, .bool false]) ?_ ?_ ?_
            · exact results_row_tmp rfl _ _ w.heap.size 72 (bk (k : Int) v k) _ _ rfl rfl HY.out Try.underlying72 rfl (by rw [bk_len]; exact info_bal)
            · rfl
            · exact FIN.out Y HYk.out
          · rename_i hne
            exact absurd rfl hne
end
end Go.Proofs.Ytapenemfnngniaa.Qm
