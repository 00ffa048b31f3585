import Derived.Test.YtdegjhkjmgimpaaV03
namespace Go.Proofs.Ytdegjhkjmgimpaa.Mb
open Go.RowKit
set_option linter.unusedVariables false
set_option maxRecDepth 100000
set_option linter.unusedSimpArgs false
theorem info_row : (Try.prog.info? 61).map (·.size) = some 16 := by kernel_rfl
theorem info_prop : (Try.prog.info? 63).map (·.size) = some 39 := by kernel_rfl
theorem info_id : (Try.prog.info? 31).map (·.size) = some 4 := by kernel_rfl
def zs : List Int := List.replicate 16 0
theorem zs_len : zs.length = 16 := rfl
section
variable {A A' : Ag} {w w' W : World} {B : Nat} {T : Int}
theorem eq_row_ (xs ys : List Int) (hx : xs.length = 16) (hy : ys.length = 16) : (Op.equalIn 10000 61 (.agg (ints xs).toArray) (.agg (ints ys).toArray)).run Try.prog w = .ok (decide (xs = ys)) w := eq_row 9998 xs ys hx hy
theorem eq_id_ (xs ys : List Int) (hx : xs.length = 4) (hy : ys.length = 4) : (Op.equalIn 10000 31 (.agg (ints xs).toArray) (.agg (ints ys).toArray)).run Try.prog w = .ok (decide (xs = ys)) w := eq_id 9998 xs ys hx hy
theorem eq_prop_ (p q : Pp) (hp : p.L) (hq : q.L) : (Op.equalIn 10000 63 (.agg (ints p.fl).toArray) (.agg (ints q.fl).toArray)).run Try.prog w = .ok (decide (p.fl = q.fl)) w := eq_prop 9997 p q hp hq
theorem Kept.cell {a b : World} {P : Nat → Prop} (k : Kept a b P) {i j : Nat} {v : Value} (hc : a.cell? ⟨i, j, none⟩ = some v) (hp : ¬ P i) : b.cell? ⟨i, j, none⟩ = some v := by
  have := k.block i (World.block_lt_of_cell? a _ hc) hp
  rw [← hc]
  simp [World.cell?, this]
theorem bstepK {w0 w w' : World} {P : Nat → Prop} (h : Below w0.heap.size w0 w) (k : Kept w w' P) (hp : ∀ j, j < w0.heap.size → ¬ P j) : Below w0.heap.size w0 w' := h.trans (k.below h.size hp)
theorem within_any (v lo hi : Int) : Calls Try.prog 26 #[.int .i64 v, .int .i64 lo, .int .i64 hi] w fun e w' => e = .returned (.bool (decide (lo ≤ v ∧ v ≤ hi))) ∧ w = w' := by
  go_enter Try.func26, Try.ntmps26
  go_wp2
  all_goals (go_ret; exact ⟨by simp; first | assumption | omega, rfl⟩)
theorem load_mid {ops : Array Oper} {rest : List Oper} {o : Oper} {a : Act} {Q : Exit → Act → World → Prop} (ty : TypeId) (x : Operand) {b off : Nat} {cs : List Value} (hc : w.rangeAt b off cs) (d : TypeDesc) (hu : Try.prog.underlying ty = some d) (hd : d.isRow = true) (hi : (Try.prog.info? ty).map (·.size) = some cs.length)
    (ho : o.op = .load ty x) (hx : a.eval x = .pointer (some ⟨b, off, none⟩)) (hw : Region.wanted o (yielded ops a.tmps) = true) (h : wpList Try.prog ops Q rest (a.put o.dst (.agg cs.toArray)) w) : wpList Try.prog ops Q (o :: rest) a w :=
  wpList_step fun K hK => by
    rw [if_pos hw]
    exact wp_load_mid ty x ho b off hx cs d hc hu hd hi (hK _ _ h)
theorem store_mid {ops : Array Oper} {rest : List Oper} {o : Oper} {a : Act} {Q : Exit → Act → World → Prop} (ty : TypeId) (x y : Operand) {b off : Nat} {xs : List Int} (ht : w.there b off xs.length) (hi : (Try.prog.info? ty).map (·.size) = some xs.length)
    (ho : o.op = .store ty x y) (hx : a.eval x = .pointer (some ⟨b, off, none⟩)) (hy : a.eval y = .agg (ints xs).toArray) (hw : Region.wanted o (yielded ops a.tmps) = true) (h : wpList Try.prog ops Q rest (a.put o.dst undef) (w.setCells b off (ints xs))) : wpList Try.prog ops Q (o :: rest) a w :=
  wpList_step fun K hK => by
    rw [if_pos hw]
    exact wp_store_mid ty x y ho b off _ hx hy (by simpa [ints] using ht) (by simpa [ints] using hi) (all_oneCell_toArray (ints_one xs)) (hK _ _ (by simpa using h))
set_option maxHeartbeats 1000000 in
theorem match_any (h : A.Ok w B T) (p : Pp) (hp : p.L) (ka kp : Nat) (h1 : w.heap[ka]? = some (.cells #[.pointer (some ⟨A.b, 0, none⟩)] 25 (0, 0))) (h2 : Rw w kp 63 p.fl) (q : Nat) (hq : q < 16) : Calls Try.prog 45 #[.int .i64 q, .pointer (some ⟨ka, 0, none⟩), .pointer (some ⟨kp, 0, none⟩)] w fun e w' => e = .returned (.bool (decide ((A.lat q).set = p.set))) ∧ Below w.heap.size w w' := by
  have r1 := h.lset_r q hq
  have r2 := h2.range 0 p.set (fun j hj => by rw [hp.ls] at hj; rw [Nat.zero_add, hp.fl, hp.at_set j hj]; exact ⟨by omega, rfl⟩)
  have l1 := (h.ll q).ls
  have l2 := hp.ls
  have c0 : w.cell? ⟨ka, 0, none⟩ = some (.pointer (some ⟨A.b, 0, none⟩)) := blk_cell h1 0
  clear h h1 h2
  go_enter Try.func45, Try.ntmps45
  go_wp2
  refine wp_region_held_drew (S := (fun w' => w'.cell? ⟨ka, 0, none⟩ = some (.pointer (some ⟨A.b, 0, none⟩)) ∧ w'.rangeAt A.b (41 + q * 39) (ints (A.lat q).set) ∧ w'.rangeAt kp 0 (ints p.set))) (by kernel_rfl) ⟨below_at (Below.refl _ _).drew c0, (World.rangeAt_drew _ _ _ _).2 r1, (World.rangeAt_drew _ _ _ _).2 r2⟩ (fun hHeld => ?_)
  simp only [Act.put, List.size_toArray, List.length_cons, List.length_nil, Nat.zero_add]
  refine wpAnyH_take (i := 0) (v := .pointer (some ⟨A.b, 0, none⟩)) rfl (by kernel_rfl) (by kernel_rfl) (by kernel_rfl) (fun _ _ _ h => h) (Or.inl ⟨by rfl, fun w' hS => by (obtain ⟨s0, s1, s2⟩ := hS; go_simp)⟩) hHeld ?_
  simp only [Act.put, gA9, gZ9, gC9, sA9, sZ9, sC9]
  refine wpAnyH_take (i := 1) (v := .int .i64 (q : Int)) rfl (by kernel_rfl) (by kernel_rfl) (by kernel_rfl) (fun _ _ _ h => h) (Or.inl ⟨by rfl, fun w' hS => by go_simp⟩) hHeld ?_
  simp only [Act.put, gA9, gZ9, gC9, sA9, sZ9, sC9]
  refine wpAnyH_take (i := 2) (v := .pointer (some ⟨A.b, 0, none⟩)) rfl (by kernel_rfl) (by kernel_rfl) (by kernel_rfl) (fun _ _ _ h => h) (Or.inl ⟨by rfl, fun w' hS => by go_simp⟩) hHeld ?_
  simp only [Act.put, gA9, gZ9, gC9, sA9, sZ9, sC9]
  refine wpAnyH_take (i := 3) (v := .pointer (some ⟨A.b, 41, none⟩)) rfl (by kernel_rfl) (by kernel_rfl) (by kernel_rfl) (fun _ _ _ h => h) (Or.inl ⟨by rfl, fun w' hS => by go_simp⟩) hHeld ?_
  simp only [Act.put, gA9, gZ9, gC9, sA9, sZ9, sC9]
  refine wpAnyH_take (i := 4) (v := .pointer (some ⟨A.b, 41 + q * 39, none⟩)) rfl (by kernel_rfl) (by kernel_rfl) (by kernel_rfl) (fun _ _ _ h => h) (Or.inl ⟨by rfl, fun w' hS => by (go_simp; intro hh; omega)⟩) hHeld ?_
  simp only [Act.put, gA9, gZ9, gC9, sA9, sZ9, sC9]
  refine wpAnyH_take (i := 5) (v := .pointer (some ⟨A.b, 41 + q * 39, none⟩)) rfl (by kernel_rfl) (by kernel_rfl) (by kernel_rfl) (fun _ _ _ h => h) (Or.inl ⟨by rfl, fun w' hS => by go_simp⟩) hHeld ?_
  simp only [Act.put, gA9, gZ9, gC9, sA9, sZ9, sC9]
  refine wpAnyH_take (i := 6) (v := .agg (ints (A.lat q).set).toArray) rfl (by kernel_rfl) (by kernel_rfl) (by kernel_rfl) (fun _ _ _ h => h) (yieldsIf_load_mid (by rfl) 61 (.tmp 10) rfl A.b (41 + q * 39) (by rfl) (ints (A.lat q).set) _ (fun w' hS => hS.2.1) Try.underlying61 rfl (by rw [ints_len, l1]; exact info_row)) hHeld ?_
  simp only [Act.put, gA9, gZ9, gC9, sA9, sZ9, sC9]
  refine wpAnyH_take (i := 7) (v := .pointer (some ⟨kp, 0, none⟩)) rfl (by kernel_rfl) (by kernel_rfl) (by kernel_rfl) (fun _ _ _ h => h) (Or.inl ⟨by rfl, fun w' hS => by go_simp⟩) hHeld ?_
  simp only [Act.put, gA9, gZ9, gC9, sA9, sZ9, sC9]
  refine wpAnyH_take (i := 8) (v := .agg (ints p.set).toArray) rfl (by kernel_rfl) (by kernel_rfl) (by kernel_rfl) (fun _ _ _ h => h) (yieldsIf_load_mid (by rfl) 61 (.tmp 12) rfl kp (0) (by rfl) (ints p.set) _ (fun w' hS => hS.2.2) Try.underlying61 rfl (by rw [ints_len, l2]; exact info_row)) hHeld ?_
  simp only [Act.put, gA9, gZ9, gC9, sA9, sZ9, sC9]
  refine wpAnyH_take (i := 9) (v := .bool (decide ((A.lat q).set = p.set))) rfl (by kernel_rfl) (by kernel_rfl) (by kernel_rfl) (fun _ _ _ h => h) (Or.inl ⟨by rfl, fun w' hS => by (go_simp; rw [eq_row_ _ _ l1 l2]; rfl)⟩) hHeld ?_
  simp only [Act.put, gA9, gZ9, gC9, sA9, sZ9, sC9]
  refine wpAnyH_take (i := 10) (v := .bool (decide ((A.lat q).set = p.set))) rfl (by kernel_rfl) (by kernel_rfl) (by kernel_rfl) (fun _ _ _ h => h) (Or.inl ⟨by rfl, fun w' hS => by go_simp⟩) hHeld ?_
  simp only [Act.put, gA9, gZ9, gC9, sA9, sZ9, sC9]
  refine wpAnyH_done (by kernel_rfl) ?_ _
  clear hHeld
  go_wp2
  go_ret
  exact ⟨rfl, (Below.refl _ _).drew⟩
def Ag.vecK (A : Ag) (p : Pp) (k : Nat) : List Int := (List.range 16).map fun q => if q < k ∧ (A.lat q).set = p.set then (A.lat q).cid else 0
def Ag.vecOf (A : Ag) (p : Pp) : List Int := (A.vecK p A.n).set A.self p.cid
theorem vecK_len (A : Ag) (p : Pp) (k : Nat) : (A.vecK p k).length = 16 := by simp [Ag.vecK]
theorem vecOf_len (A : Ag) (p : Pp) : (A.vecOf p).length = 16 := by simp [Ag.vecOf, vecK_len]
theorem vecK_zero (A : Ag) (p : Pp) : zs = A.vecK p 0 := by
  unfold Ag.vecK zs
  rw [show (List.replicate 16 (0 : Int)) = (List.range 16).map (fun _ => 0) from rfl]
  apply List.map_congr_left
  intro q _
  simp
theorem vecK_skip (A : Ag) (p : Pp) (k : Nat) (h : (A.lat k).set ≠ p.set) : A.vecK p (k + 1) = A.vecK p k := by
  unfold Ag.vecK
  apply List.map_congr_left
  intro q hq
  by_cases e : q = k
  · subst e; simp [h]
  · have : q < k + 1 ↔ q < k := by omega
    simp [this]
theorem vecK_step (A : Ag) (p : Pp) (k : Nat) (hk : k < 16) (h : (A.lat k).set = p.set) : (A.vecK p k).set k (A.lat k).cid = A.vecK p (k + 1) := by
  apply List.ext_getElem?
  intro i
  simp only [Ag.vecK, List.getElem?_set, List.length_map, List.length_range, List.getElem?_map]
  by_cases e : k = i
  · subst e
    simp [hk, h]
  · by_cases h2 : i < 16
    · have : i < k + 1 ↔ i < k := by omega
      simp [e, h2, this]
    · simp [e, h2]
set_option maxHeartbeats 2000000 in
theorem vecOf_any (h : A.Ok w B T) (p : Pp) (hp : p.L) : Calls Try.prog 42 #[.pointer (some ⟨A.b, 0, none⟩), .agg (ints p.fl).toArray] w fun e w' => e = .returned (.agg (ints (A.vecOf p)).toArray) ∧ Below w.heap.size w w' := by
  have h16 := h.n16
  generalize hW1 : w.alloc (.cells #[.pointer (some ⟨A.b, 0, none⟩)] 25) = W1
  generalize hW2 : W1.alloc (.cells (ints p.fl).toArray 63) = W2
  generalize hW3 : W2.alloc (.cells #[.int .i64 0, .int .i64 0, .int .i64 0, .int .i64 0, .int .i64 0, .int .i64 0, .int .i64 0, .int .i64 0, .int .i64 0, .int .i64 0, .int .i64 0, .int .i64 0, .int .i64 0, .int .i64 0, .int .i64 0, .int .i64 0] 61) = W3
  generalize hW4 : W3.alloc (.cells #[.int .i64 0, .int .i64 0, .int .i64 0, .int .i64 0, .int .i64 0, .int .i64 0, .int .i64 0, .int .i64 0, .int .i64 0, .int .i64 0, .int .i64 0, .int .i64 0, .int .i64 0, .int .i64 0, .int .i64 0, .int .i64 0] 61) = W4
  have b1 : Below w.heap.size w W1 := hW1 ▸ balloc (Below.refl _ _)
  have b2 : Below W1.heap.size W1 W2 := hW2 ▸ balloc (Below.refl _ _)
  have b3 : Below W2.heap.size W2 W3 := hW3 ▸ balloc (Below.refl _ _)
  have b4 : Below W3.heap.size W3 W4 := hW4 ▸ balloc (Below.refl _ _)
  have s1 : W1.heap.size = w.heap.size + 1 := by rw [← hW1]; simp
  have s2 : W2.heap.size = W1.heap.size + 1 := by rw [← hW2]; simp
  have s3 : W3.heap.size = W2.heap.size + 1 := by rw [← hW3]; simp
  have k1 : W1.heap[w.heap.size]? = some (.cells #[.pointer (some ⟨A.b, 0, none⟩)] 25 (0, 0)) := by rw [← hW1]; exact heap_alloc_new w _
  have k2 : Rw W2 W1.heap.size 63 p.fl := by unfold Rw; rw [← hW2]; exact heap_alloc_new W1 _
  have k3 : Rw W3 W2.heap.size 61 zs := by unfold Rw; rw [← hW3]; exact heap_alloc_new W2 _
  have k4 : Rw W4 W3.heap.size 61 zs := by unfold Rw; rw [← hW4]; exact heap_alloc_new W3 _
  have hA4 := (((h.still b1).still b2).still b3).still b4
  have k14 : W4.heap[w.heap.size]? = some (.cells #[.pointer (some ⟨A.b, 0, none⟩)] 25 (0, 0)) := (Kept.ofBelow b4 (fun _ => False)).obj ((Kept.ofBelow b3 (fun _ => False)).obj ((Kept.ofBelow b2 (fun _ => False)).obj k1 (fun hh => hh)) (fun hh => hh)) (fun hh => hh)
  have k24 : Rw W4 W1.heap.size 63 p.fl := (k2.still b3).still b4
  have k34 : Rw W4 W2.heap.size 61 zs := k3.still b4
  have b04 : Below w.heap.size w W4 := bstep (bstep (bstep b1 b2) b3) b4
  have hz : #[.int .i64 0, .int .i64 0, .int .i64 0, .int .i64 0, .int .i64 0, .int .i64 0, .int .i64 0, .int .i64 0, .int .i64 0, .int .i64 0, .int .i64 0, .int .i64 0, .int .i64 0, .int .i64 0, .int .i64 0, .int .i64 0] = (ints zs).toArray := rfl
  have c0 : W4.cell? ⟨w.heap.size, 0, none⟩ = some (.pointer (some ⟨A.b, 0, none⟩)) := blk_cell k14 0
  have c1 := hA4.c0
  have lb := h.lt_b
  have HA : Hid (A.Ok W4 B T) := hA4
  have H14 : Hid (W4.heap[w.heap.size]? = some (.cells #[.pointer (some ⟨A.b, 0, none⟩)] 25 (0, 0))) := k14
  have H24 : Hid (Rw W4 W1.heap.size 63 p.fl) := k24
  have H34 : Hid (Rw W4 W2.heap.size 61 zs) := k34
  have H44 : Hid (Rw W4 W3.heap.size 61 zs) := k4
  have Hb : Hid (Below w.heap.size w W4) := b04
  have Hp : Hid p.L := hp
  have Hlt : Hid (A.b < w.heap.size) := lb
  have Hml : Hid (∀ g, A.msv.ownBlock = some g → g < w.heap.size) := fun g hg => (h.mem.lt g hg).2
  have hk0 : w.heap.size < W1.heap.size := by omega
  have hk1 : W1.heap.size < W2.heap.size := by omega
  have hk2 : W2.heap.size < W3.heap.size := by omega
  clear h b1 b2 b3 b4 s1 s2 s3 k1 k2 k3 k4 hA4 k14 k24 k34 b04 hz hp lb
  go_enter Try.func42, Try.ntmps42
  go_wp2
  go_loopw [13] (fun i wr => ∃ k : Nat, k ≤ A.n ∧ i = .int .i64 k ∧ Rw wr W3.heap.size 61 (A.vecK p k) ∧ Kept W4 wr (fun j => j = W3.heap.size)) (fun i _ => A.n - (intOf i).toNat)
  case atStart => exact ⟨0, Nat.zero_le _, rfl, by rw [← vecK_zero]; exact H44.out, Kept.refl _ _⟩
  case round =>
    obtain ⟨k, hk, rfl, ho, hb⟩ := hrel
    have hR : A.Ok wr B T := HA.out.keep hb (fun e => by have := Hlt.out; omega) (fun g hg e => by have := Hml.out g hg; omega)
    have d0 : wr.cell? ⟨w.heap.size, 0, none⟩ = some (.pointer (some ⟨A.b, 0, none⟩)) := blk_cell (hb.obj H14.out (fun e => by omega)) 0
    by_cases hlt : k < A.n
    · have HM : Hid (Calls Try.prog 45 #[.int .i64 k, .pointer (some ⟨w.heap.size, 0, none⟩), .pointer (some ⟨W1.heap.size, 0, none⟩)] wr fun e w' => e = .returned (.bool (decide ((A.lat k).set = p.set))) ∧ Below wr.heap.size wr w') := match_any hR p Hp.out _ _ (hb.obj H14.out (fun e => by omega)) (H24.out.keep hb (fun e => by omega)) k (by omega)
      have HO : Hid (Rw wr W3.heap.size 61 (A.vecK p k)) := ho
      have HB : Hid (Kept W4 wr (fun j => j = W3.heap.size)) := hb
      have HR : Hid (A.Ok wr B T) := hR
      have i2 : (k : Int) < 16 := by omega
      clear ho hb hR
      by_cases hm : (A.lat k).set = p.set
      · rw [decide_eq_true hm] at HM
        have Hm : Hid ((A.lat k).set = p.set) := hm
        clear hm
        go_wp2_with (first | (go_at_call 45; refine HM.out.mono ?_; rintro e w2 ⟨rfl, hb2⟩; have d0' := below_at hb2 d0; have d1 : w2.cell? ⟨A.b, 41 + k * 39 + 16, none⟩ = some (.int .i64 (A.lat k).cid) := (by rw [(HR.out.still hb2).lat_c k 16 (by omega) (by omega), (HR.out.ll k).cid]); have d2 := (HO.out.still hb2).cell (i := k) (by rw [vecK_len]; omega); have d3 := (HO.out.still hb2).fz k) | fail)
        exact ⟨⟨k + 1, by omega, by go_num, by rw [← vecK_step A p k (by omega) Hm.out]; exact (HO.out.still hb2).set k _, (HB.out.trans (Kept.ofBelow hb2 _)).trans (kset _ _ _ _ rfl)⟩, by simp [intOf]; omega⟩
      · rw [decide_eq_false hm] at HM
        have Hm : Hid (¬ (A.lat k).set = p.set) := hm
        clear hm
        go_wp2_with (first | (go_at_call 45; refine HM.out.mono ?_; rintro e w2 ⟨rfl, hb2⟩) | fail)
        exact ⟨⟨k + 1, by omega, by go_num, by rw [vecK_skip A p k Hm.out]; exact HO.out.still hb2, HB.out.trans (Kept.ofBelow hb2 _)⟩, by simp [intOf]; omega⟩
    · obtain rfl : k = A.n := by omega
      have d1 := hR.c1
      have d2 : wr.cell? ⟨W1.heap.size, 16, none⟩ = some (.int .i64 p.cid) := by rw [(H24.out.keep hb (fun e => by omega)).cell (i := 16) (by rw [Hp.out.fl]; omega), Hp.out.cid]
      have e0 := ho.cell (i := A.self) (by rw [vecK_len]; omega)
      have e1 := ho.fz A.self
      have kk := (kset (P := fun j => j = W3.heap.size) wr W3.heap.size A.self (.int .i64 p.cid) rfl).trans (Kept.ofBelow (Below.refl _ _).drew _)
      have HO : Hid (Rw (wr.setCell ⟨W3.heap.size, A.self, none⟩ (.int .i64 p.cid)).drew W3.heap.size 61 (A.vecOf p)) := (ho.set A.self p.cid).still (Below.refl _ _).drew
      have HB : Hid (Kept W4 ((wr.setCell ⟨W3.heap.size, A.self, none⟩ (.int .i64 p.cid)).drew) (fun j => j = W3.heap.size)) := hb.trans kk
      clear ho hb hR
      go_wp2
      refine wp_region_held_drew (S := (fun w' => w'.cell? ⟨w.heap.size, 0, none⟩ = some (.pointer (some ⟨A.b, 0, none⟩)) ∧ w'.cell? ⟨A.b, 1, none⟩ = some (.int .i64 A.self) ∧ w'.cell? ⟨W1.heap.size, 16, none⟩ = some (.int .i64 p.cid))) (by kernel_rfl) ⟨below_at (Below.refl _ _).drew d0, below_at (Below.refl _ _).drew d1, below_at (Below.refl _ _).drew d2⟩ (fun hHeld => ?_)
      simp only [Act.put, List.size_toArray, List.length_cons, List.length_nil, Nat.zero_add]
      refine wpAnyH_take (i := 0) (v := .pointer (some ⟨A.b, 0, none⟩)) rfl (by kernel_rfl) (by kernel_rfl) (by kernel_rfl) (fun _ _ _ h => h) (Or.inl ⟨by rfl, fun w' hS => by (obtain ⟨s0, s1, s2⟩ := hS; go_simp)⟩) hHeld ?_
      simp only [Act.put, gA9, gZ9, gC9, sA9, sZ9, sC9]
      refine wpAnyH_take (i := 1) (v := .pointer (some ⟨A.b, 0, none⟩)) rfl (by kernel_rfl) (by kernel_rfl) (by kernel_rfl) (fun _ _ _ h => h) (Or.inl ⟨by rfl, fun w' hS => by go_simp⟩) hHeld ?_
      simp only [Act.put, gA9, gZ9, gC9, sA9, sZ9, sC9]
      refine wpAnyH_take (i := 2) (v := .pointer (some ⟨A.b, 1, none⟩)) rfl (by kernel_rfl) (by kernel_rfl) (by kernel_rfl) (fun _ _ _ h => h) (Or.inl ⟨by rfl, fun w' hS => by go_simp⟩) hHeld ?_
      simp only [Act.put, gA9, gZ9, gC9, sA9, sZ9, sC9]
      refine wpAnyH_take (i := 3) (v := .int .i64 A.self) rfl (by kernel_rfl) (by kernel_rfl) (by kernel_rfl) (fun _ _ _ h => h) (Or.inl ⟨by rfl, fun w' hS => by (obtain ⟨s0, s1, s2⟩ := hS; go_simp)⟩) hHeld ?_
      simp only [Act.put, gA9, gZ9, gC9, sA9, sZ9, sC9]
      refine wpAnyH_take (i := 4) (v := .pointer (some ⟨W1.heap.size, 16, none⟩)) rfl (by kernel_rfl) (by kernel_rfl) (by kernel_rfl) (fun _ _ _ h => h) (Or.inl ⟨by rfl, fun w' hS => by go_simp⟩) hHeld ?_
      simp only [Act.put, gA9, gZ9, gC9, sA9, sZ9, sC9]
      refine wpAnyH_take (i := 5) (v := .int .i64 p.cid) rfl (by kernel_rfl) (by kernel_rfl) (by kernel_rfl) (fun _ _ _ h => h) (Or.inl ⟨by rfl, fun w' hS => by (obtain ⟨s0, s1, s2⟩ := hS; go_simp)⟩) hHeld ?_
      simp only [Act.put, gA9, gZ9, gC9, sA9, sZ9, sC9]
      refine wpAnyH_take (i := 6) (v := .pointer (some ⟨W3.heap.size, A.self, none⟩)) rfl (by kernel_rfl) (by kernel_rfl) (by kernel_rfl) (fun _ _ _ h => h) (Or.inl ⟨by rfl, fun w' hS => by (go_simp; intro hh; omega)⟩) hHeld ?_
      simp only [Act.put, gA9, gZ9, gC9, sA9, sZ9, sC9]
      refine wpAnyH_ready (rs := [7]) (by kernel_rfl) (by simp) ?_
      refine AllReadyH.cons rfl (fun K hK => ?_) AllReadyH.nil
      go_simp
      refine hK.out _ _ ⟨kk.cell d0 (by omega), kk.cell d1 (by have := Hlt.out; omega), kk.cell d2 (by omega)⟩ (fun hHeld => ?_)
      clear hK K
      refine wpAnyH_done (by kernel_rfl) ?_ _
      clear hHeld
      generalize hV : (wr.setCell ⟨W3.heap.size, A.self, none⟩ (.int .i64 p.cid)).drew = V at *
      have H3 : Hid (Rw V W2.heap.size 61 zs) := H34.out.keep HB.out (fun e => by omega)
      go_wp2_with (first
        | (refine load_mid 61 (.tmp 6) HO.out.all _ Try.underlying61 rfl (by rw [ints_len, vecOf_len]; exact info_row) rfl rfl rfl ?_)
        | (refine store_mid 61 (.tmp 4) (.tmp 36) (H3.out.there 0 (A.vecOf p).length (by rw [vecOf_len]; exact Nat.le_refl _)) (by rw [vecOf_len]; exact info_row) rfl rfl rfl rfl ?_)
        | fail)
      have hfin : Rw (V.setCells W2.heap.size 0 (ints (A.vecOf p))) W2.heap.size 61 (A.vecOf p) := by
        have := Rw.sets (A.vecOf p) 0 V zs H3.out (by rw [vecOf_len]; exact Nat.le_refl _)
        rw [vecOf_len] at this
        simpa [zs] using this
      (try simp only [Exit.inBlock, Exit.then])
      refine bodyPost_ret (v := .agg (ints (A.vecOf p)).toArray) ?_ ?_ ?_
      · exact results_cell_row rfl _ _ W2.heap.size 61 _ (0, 0) _ rfl hfin Try.underlying61 rfl (by rw [List.size_toArray, ints_len, vecOf_len]; exact info_row)
      · rfl
      · exact ⟨rfl, bsets (by omega) _ _ (bstepK Hb.out HB.out (fun j hj e => by omega))⟩
end
end Go.Proofs.Ytdegjhkjmgimpaa.Mb
