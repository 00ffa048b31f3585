import Derived.Test.YtdegjhkjmgimpaaV33
namespace Go.Proofs.Ytdegjhkjmgimpaa.Mb
open Go.RowKit
set_option linter.unusedVariables false
set_option linter.unusedSimpArgs false
section
variable {A A' : Ag} {w w' W : World} {B : Nat} {T : Int}
def Ag.Ix (A : Ag) : Prop := ∀ q, inR (A.own.set.getD q 0) = true
theorem Ag.Ix.rev (h : A.Ix) (p : Pp) (hp : ∀ q, inR (p.set.getD q 0) = true) : (A.revA p).Ix := by
  unfold Ag.revA
  split
  · exact h
  · split
    · exact h
    · exact hp
theorem Ag.Ix.beg (h : A.Ix) (s : List Int) (hp : ∀ q, inR (s.getD q 0) = true) : (A.begA s).Ix := by
  unfold Ag.begA
  split
  · exact h
  · split
    · exact h.rev (A.begP s) (by rw [begP_set]; exact hp)
    · exact h
theorem pad_inR (xs : List Int) (h : xs.all inR = true) (q : Nat) : inR ((pad xs).getD q 0) = true := by
  unfold pad
  by_cases hq : q < 16
  · simp only [List.getD, List.getElem?_map, List.getElem?_range hq, Option.map_some, Option.getD_some]
    by_cases h2 : q < xs.length
    · simp only [List.getElem?_eq_getElem h2, Option.getD_some]
      exact List.all_eq_true.1 h _ (List.getElem_mem h2)
    · simp only [List.getElem?_eq_none (Nat.le_of_not_lt h2), Option.getD_none]
      rfl
  · have e : ((List.range 16).map fun i => xs.getD i 0).getD q 0 = 0 := by simp [List.getD, hq]
    rw [e]
    rfl
theorem Ag.Ix.est (h : A.Ix) (xs : List Int) : (A.estA xs).Ix := by
  unfold Ag.estA
  split
  · exact h
  · rename_i hno
    split
    · exact h
    · have h1 : okL xs A.n = true := by cases hx : okL xs A.n with | false => exact absurd (.inl hx) hno | true => rfl
      unfold okL at h1
      exact h.beg (pad xs) (pad_inR xs (Bool.and_eq_true_iff.1 h1).2)
theorem Ag.Ix.fol (h : A.Ix) (q : Nat) : (A.folA q).Ix := by
  unfold Ag.folA
  split
  · exact h.rev _ h
  · split
    · exact h.beg _ h
    · exact h
theorem Ag.Ix.tk (h : A.Ix) (q i : Int) (p : Pq) : (A.takA q i p).Ix := by
  unfold Ag.takA
  split
  · exact h
  · split
    · exact h
    · split
      · exact h
      · split
        · exact h
        · unfold Ag.tk1
          split
          · exact Ag.Ix.fol (A := A.set1 q.toNat p.pp) h q.toNat
          · exact h
theorem Ag.Ix.stp (h : A.Ix) {o : Opx} {E : Int} (s : Stp A o E A') : A'.Ix := by
  cases s with
  | est _ => exact h.est o.ss
  | tak _ => exact h.tk o.q o.inc o.p
  | ins g c _ _ => exact h
  | apart _ _ => exact h
  | none _ _ _ => exact h
theorem A1_ix (b n s : Nat) (inc fl : Int) (h16 : 1 ≤ n ∧ n ≤ 16 ∧ s < n) (hi : 1 ≤ inc ∧ inc ≤ 4611686018427387904) : (A1 b n s inc fl).Ix := by
  intro q
  rw [A1_set, set_at s q inc (by omega)]
  split
  · unfold inR
    exact decide_eq_true (by omega)
  · rfl
theorem pad_take {A : Ag} {inc : Int} (h : A.Iv inc) : pad (A.own.set.take A.n) = A.own.set := by
  have h16 := h.n16
  apply List.ext_getElem (by rw [pad_len, h.ol.ls])
  intro i h1 h2
  have h3 : i < 16 := by rw [pad_len] at h1; exact h1
  have e1 : (pad (A.own.set.take A.n))[i] = (A.own.set.take A.n).getD i 0 := by unfold pad; simp
  have e2 : A.own.set[i] = A.own.set.getD i 0 := by simp [List.getD, h2]
  refine e1.trans (Eq.trans ?_ e2.symm)
  by_cases hi : A.n ≤ i
  · rw [h.sz i hi]
    simp [List.getD, List.getElem?_take, show ¬ i < A.n by omega]
  · simp [List.getD, List.getElem?_take, show i < A.n by omega]
theorem ok_own {inc : Int} (h : A.Iv inc) (hx : A.Ix) : okL (A.own.set.take A.n) A.n = true := by
  have h16 := h.n16
  unfold okL
  rw [decide_eq_true (by rw [List.length_take, h.ol.ls]; omega), Bool.true_and, List.all_eq_true]
  intro x hm
  obtain ⟨i, hi, rfl⟩ := List.getElem_of_mem (List.mem_of_mem_take hm)
  have := hx i
  simpa [List.getD, hi] using this
theorem est_own {inc : Int} (h : A.Iv inc) (hx : A.Ix) : A.estB (A.own.set.take A.n) = false ∧ A.estE (A.own.set.take A.n) = 0 ∧ A.estA (A.own.set.take A.n) = A := by
  have h1 : ¬ (okL (A.own.set.take A.n) A.n = false ∨ (pad (A.own.set.take A.n)).getD A.self 0 ≠ A.own.set.getD A.self 0) := by
    rw [ok_own h hx, pad_take h]
    rintro (h | h)
    · cases h
    · exact h rfl
  unfold Ag.estB Ag.estE Ag.estA
  rw [if_neg h1, if_neg h1, if_neg h1, if_pos (pad_take h), if_pos (pad_take h), if_pos (pad_take h)]
  exact ⟨rfl, rfl, rfl⟩
end
end Go.Proofs.Ytdegjhkjmgimpaa.Mb
namespace Go.Proofs.Ytdegjhkjmgimpaa.Mb
open Go.RowKit Oe
set_option linter.unusedVariables false
set_option maxRecDepth 100000
set_option linter.unusedSimpArgs false
section
variable {A A' : Ag} {w w' W : World} {B : Nat} {T : Int}
structure Si where
  p : Pq
  vi : List Int
  va : Option Addr
  vk : Nat
  vc : Nat
  vm : List Int
  ui : List Int
  ua : Option Addr
  uk : Nat
  uc : Nat
  um : List Int
  ta : Option Addr
  tn : Nat
  tc : Nat
  ts : List Int
  ok : Bool
  op : Bool
def Si.cs (S : Si) : List Value := [.slice S.p.sa S.p.sn S.p.sc, .int .i64 S.p.cid, .int .i64 S.p.rev, .int .i64 S.p.top, .int .i64 (S.p.prev[0]?.getD 0), .int .i64 (S.p.prev[1]?.getD 0), .int .i64 (S.p.prev[2]?.getD 0), .int .i64 (S.p.prev[3]?.getD 0), .slice S.p.va S.p.vn S.p.vc, .int .i64 (S.vi[0]?.getD 0), .int .i64 (S.vi[1]?.getD 0), .int .i64 (S.vi[2]?.getD 0), .int .i64 (S.vi[3]?.getD 0), .slice S.va S.vk S.vc, .int .i64 (S.ui[0]?.getD 0), .int .i64 (S.ui[1]?.getD 0), .int .i64 (S.ui[2]?.getD 0), .int .i64 (S.ui[3]?.getD 0), .slice S.ua S.uk S.uc, .slice S.ta S.tn S.tc, .bool S.ok, .bool S.op]
structure Si.Rd (S : Si) (w : World) : Prop where
  p : S.p.Rd w
  v4 : S.vi.length = 4
  v : RdM w S.va S.vk S.vm
  vk : S.vk ≤ 16
  u4 : S.ui.length = 4
  u : RdM w S.ua S.uk S.um
  uk : S.uk ≤ 16
  t : RdI w S.ta S.tn S.ts
  tn : S.tn ≤ 17592186044416
theorem Si.Rd.still {S : Si} (h : S.Rd w) (hb : Below w.heap.size w w') : S.Rd w' := { h with p := h.p.still hb, v := h.v.still hb, u := h.u.still hb, t := h.t.still hb }
structure Sg where
  ss : List Int
  vs : List Int
  cid : Int
  rev : Int
  top : Int
  prev : List Int
  vi : List Int
  vm : List Int
  ui : List Int
  um : List Int
  ts : List Int
  ok : Bool
  op : Bool
def Si.sg (S : Si) : Sg := ⟨S.p.ss, S.p.vs, S.p.cid, S.p.rev, S.p.top, S.p.prev, S.vi, S.vm, S.ui, S.um, S.ts, S.ok, S.op⟩
def Ag.sg (A : Ag) : Sg := ⟨A.own.set.take A.n, A.own.vec.take A.n, A.own.cid, A.own.rev, A.own.top, A.own.prev, A.id, A.ms, if A.agr then A.avI else [0, 0, 0, 0], if A.agr then A.msL A.mids else [], if A.agr then A.wl A.tog else [], A.agr, A.chg⟩
theorem range_sub {k t o : Nat} {L cs : List Value} (h : w.heap[k]? = some (.cells L.toArray t (0, 0))) (hs : (L.drop o).take cs.length = cs) : w.rangeAt k o cs := fun j v hv => by
  have hj : j < cs.length := (List.getElem?_eq_some_iff.1 hv).1
  rw [blk_cell h, List.getElem?_toArray, ← hv]
  have e : ((L.drop o).take cs.length)[j]? = cs[j]? := by rw [hs]
  rw [List.getElem?_take_of_lt hj, List.getElem?_drop] at e
  exact e
set_option maxHeartbeats 4000000 in
theorem is_yes (S S' : Si) (h : S.Rd w) (h' : S'.Rd w) (e : S.sg = S'.sg) : Calls Try.prog 12 #[.agg S.cs.toArray, .agg S'.cs.toArray] w fun e w' => e = .returned (.bool true) ∧ Below w.heap.size w w' := by
  generalize hW1 : w.alloc (.cells S.cs.toArray 50) = W1
  have b1 : Below w.heap.size w W1 := by rw [← hW1]; exact balloc (Below.refl _ _)
  have k1 : W1.heap[w.heap.size]? = some (.cells S.cs.toArray 50 (0, 0)) := by rw [← hW1]; exact heap_alloc_new w _
  generalize hW2 : W1.alloc (.cells S'.cs.toArray 50) = W2
  have b2 : Below W1.heap.size W1 W2 := by rw [← hW2]; exact balloc (Below.refl _ _)
  have k2 : W2.heap[W1.heap.size]? = some (.cells S'.cs.toArray 50 (0, 0)) := by rw [← hW2]; exact heap_alloc_new W1 _
  have k1' := (b2.block _ (lt_heap k1)).trans k1
  have r1 := (h.still b1).still b2
  have r2 := (h'.still b1).still b2
  injection e with e1 e2 e3 e4 e5 e6 e7 e8 e9 e10 e11 e12 e13
  have RA0 : Hid (W2.rangeAt w.heap.size 0 [.slice S.p.sa S.p.sn S.p.sc, .int .i64 S.p.cid, .int .i64 S.p.rev, .int .i64 S.p.top, .int .i64 (S.p.prev[0]?.getD 0), .int .i64 (S.p.prev[1]?.getD 0), .int .i64 (S.p.prev[2]?.getD 0), .int .i64 (S.p.prev[3]?.getD 0), .slice S.p.va S.p.vn S.p.vc]) := range_sub k1' rfl
  have RB0 : Hid (W2.rangeAt W1.heap.size 0 [.slice S'.p.sa S'.p.sn S'.p.sc, .int .i64 S'.p.cid, .int .i64 S'.p.rev, .int .i64 S'.p.top, .int .i64 (S'.p.prev[0]?.getD 0), .int .i64 (S'.p.prev[1]?.getD 0), .int .i64 (S'.p.prev[2]?.getD 0), .int .i64 (S'.p.prev[3]?.getD 0), .slice S'.p.va S'.p.vn S'.p.vc]) := range_sub k2 rfl
  have RA9 : Hid (W2.rangeAt w.heap.size 9 [.int .i64 (S.vi[0]?.getD 0), .int .i64 (S.vi[1]?.getD 0), .int .i64 (S.vi[2]?.getD 0), .int .i64 (S.vi[3]?.getD 0), .slice S.va S.vk S.vc]) := range_sub k1' rfl
  have RB9 : Hid (W2.rangeAt W1.heap.size 9 [.int .i64 (S'.vi[0]?.getD 0), .int .i64 (S'.vi[1]?.getD 0), .int .i64 (S'.vi[2]?.getD 0), .int .i64 (S'.vi[3]?.getD 0), .slice S'.va S'.vk S'.vc]) := range_sub k2 rfl
  have RA14 : Hid (W2.rangeAt w.heap.size 14 [.int .i64 (S.ui[0]?.getD 0), .int .i64 (S.ui[1]?.getD 0), .int .i64 (S.ui[2]?.getD 0), .int .i64 (S.ui[3]?.getD 0), .slice S.ua S.uk S.uc]) := range_sub k1' rfl
  have RB14 : Hid (W2.rangeAt W1.heap.size 14 [.int .i64 (S'.ui[0]?.getD 0), .int .i64 (S'.ui[1]?.getD 0), .int .i64 (S'.ui[2]?.getD 0), .int .i64 (S'.ui[3]?.getD 0), .slice S'.ua S'.uk S'.uc]) := range_sub k2 rfl
  have CA19 : Hid (W2.cell? ⟨w.heap.size, 19, none⟩ = some (.slice S.ta S.tn S.tc)) := blk_cell k1' 19
  have CB19 : Hid (W2.cell? ⟨W1.heap.size, 19, none⟩ = some (.slice S'.ta S'.tn S'.tc)) := blk_cell k2 19
  have CA20 : Hid (W2.cell? ⟨w.heap.size, 20, none⟩ = some (.bool S.ok)) := blk_cell k1' 20
  have CB20 : Hid (W2.cell? ⟨W1.heap.size, 20, none⟩ = some (.bool S.ok)) := by rw [e12]; exact blk_cell k2 20
  have CA21 : Hid (W2.cell? ⟨w.heap.size, 21, none⟩ = some (.bool S.op)) := blk_cell k1' 21
  have CB21 : Hid (W2.cell? ⟨W1.heap.size, 21, none⟩ = some (.bool S.op)) := by rw [e13]; exact blk_cell k2 21
  have HP : Hid (Calls Try.prog 22 #[.agg [.slice S.p.sa S.p.sn S.p.sc, .int .i64 S.p.cid, .int .i64 S.p.rev, .int .i64 S.p.top, .int .i64 (S.p.prev[0]?.getD 0), .int .i64 (S.p.prev[1]?.getD 0), .int .i64 (S.p.prev[2]?.getD 0), .int .i64 (S.p.prev[3]?.getD 0), .slice S.p.va S.p.vn S.p.vc].toArray, .agg [.slice S'.p.sa S'.p.sn S'.p.sc, .int .i64 S'.p.cid, .int .i64 S'.p.rev, .int .i64 S'.p.top, .int .i64 (S'.p.prev[0]?.getD 0), .int .i64 (S'.p.prev[1]?.getD 0), .int .i64 (S'.p.prev[2]?.getD 0), .int .i64 (S'.p.prev[3]?.getD 0), .slice S'.p.va S'.p.vn S'.p.vc].toArray] W2 fun e w' => e = .returned (.bool true) ∧ Below W2.heap.size W2 w') := by
    have hh := props_any S.p S'.p r1.p r2.p
    have ht : S.p.same S'.p = true := by
      unfold Pq.same
      rw [e1, e2, e3, e4, e5, e6]
      simp
    rw [ht] at hh
    exact hh
  have HV : Hid (∀ W, Below W2.heap.size W2 W → Calls Try.prog 23 #[.agg [.int .i64 (S.vi[0]?.getD 0), .int .i64 (S.vi[1]?.getD 0), .int .i64 (S.vi[2]?.getD 0), .int .i64 (S.vi[3]?.getD 0), .slice S.va S.vk S.vc].toArray, .agg [.int .i64 (S'.vi[0]?.getD 0), .int .i64 (S'.vi[1]?.getD 0), .int .i64 (S'.vi[2]?.getD 0), .int .i64 (S'.vi[3]?.getD 0), .slice S'.va S'.vk S'.vc].toArray] W fun e w' => e = .returned (.bool true) ∧ Below W.heap.size W w') := fun W hW => by
    have hh := views_any (c1 := S.vc) (c2 := S'.vc) (S.vi[0]?.getD 0) (S.vi[1]?.getD 0) (S.vi[2]?.getD 0) (S.vi[3]?.getD 0) (S'.vi[0]?.getD 0) (S'.vi[1]?.getD 0) (S'.vi[2]?.getD 0) (S'.vi[3]?.getD 0) (r1.v.still hW) (r2.v.still hW) r1.vk r2.vk
    rw [decide_eq_true (by rw [e7]), decide_eq_true e8] at hh
    exact hh
  have HU : Hid (∀ W, Below W2.heap.size W2 W → Calls Try.prog 23 #[.agg [.int .i64 (S.ui[0]?.getD 0), .int .i64 (S.ui[1]?.getD 0), .int .i64 (S.ui[2]?.getD 0), .int .i64 (S.ui[3]?.getD 0), .slice S.ua S.uk S.uc].toArray, .agg [.int .i64 (S'.ui[0]?.getD 0), .int .i64 (S'.ui[1]?.getD 0), .int .i64 (S'.ui[2]?.getD 0), .int .i64 (S'.ui[3]?.getD 0), .slice S'.ua S'.uk S'.uc].toArray] W fun e w' => e = .returned (.bool true) ∧ Below W.heap.size W w') := fun W hW => by
    have hh := views_any (c1 := S.uc) (c2 := S'.uc) (S.ui[0]?.getD 0) (S.ui[1]?.getD 0) (S.ui[2]?.getD 0) (S.ui[3]?.getD 0) (S'.ui[0]?.getD 0) (S'.ui[1]?.getD 0) (S'.ui[2]?.getD 0) (S'.ui[3]?.getD 0) (r1.u.still hW) (r2.u.still hW) r1.uk r2.uk
    rw [decide_eq_true (by rw [e9]), decide_eq_true e10] at hh
    exact hh
  have HI : Hid (∀ W, Below W2.heap.size W2 W → Calls Try.prog 24 #[.slice S.ta S.tn S.tc, .slice S'.ta S'.tn S'.tc] W fun e w' => e = .returned (.bool true) ∧ Below W.heap.size W w') := fun W hW => by
    have hh := ints_any (c1 := S.tc) (c2 := S'.tc) (r1.t.still hW) (r2.t.still hW) (by have := r1.tn; omega)
    rw [decide_eq_true e11] at hh
    exact hh
  have HB2 : Hid (Below w.heap.size w W2) := bstep b1 b2
  clear h h' b1 k1 b2 k2 k1' r1 r2 e1 e2 e3 e4 e5 e6 e7 e8 e9 e10 e11 e12 e13
  go_enter Try.func12, Try.ntmps12
  go_wp2_with (first | (refine wl_at 6 rfl ?_) | fail)
  refine wl_step (by kernel_rfl) fun K hK => ?_
  refine wp_load_mid 33 (.tmp 5) rfl w.heap.size 0 rfl ([.slice S.p.sa S.p.sn S.p.sc, .int .i64 S.p.cid, .int .i64 S.p.rev, .int .i64 S.p.top, .int .i64 (S.p.prev[0]?.getD 0), .int .i64 (S.p.prev[1]?.getD 0), .int .i64 (S.p.prev[2]?.getD 0), .int .i64 (S.p.prev[3]?.getD 0), .slice S.p.va S.p.vn S.p.vc]) _ (RA0.out) Try.underlying33 rfl info_propose ?_
  refine hK _ _ ?_
  clear hK K
  simp only [Act.put, gA9, gZ9, gC9, sA9, sZ9, sC9]
  refine wl_take (v := .pointer (some ⟨W1.heap.size, 0, none⟩)) (by kernel_rfl) (by go_simp) ?_
  simp only [Act.put, gA9, gZ9, gC9, sA9, sZ9, sC9]
  refine wl_step (by kernel_rfl) fun K hK => ?_
  refine wp_load_mid 33 (.tmp 7) rfl W1.heap.size 0 rfl ([.slice S'.p.sa S'.p.sn S'.p.sc, .int .i64 S'.p.cid, .int .i64 S'.p.rev, .int .i64 S'.p.top, .int .i64 (S'.p.prev[0]?.getD 0), .int .i64 (S'.p.prev[1]?.getD 0), .int .i64 (S'.p.prev[2]?.getD 0), .int .i64 (S'.p.prev[3]?.getD 0), .slice S'.p.va S'.p.vn S'.p.vc]) _ (RB0.out) Try.underlying33 rfl info_propose ?_
  refine hK _ _ ?_
  clear hK K
  simp only [Act.put, gA9, gZ9, gC9, sA9, sZ9, sC9]
  refine wl_step (by kernel_rfl) fun K hK => ?_
  go_simp
  refine (HP.out).mono ?_
  rintro e w3 ⟨rfl, hb3⟩
  have B3 : Hid (Below W2.heap.size W2 w3) := hb3
  refine hK _ _ ?_
  clear hK K
  try (simp only [Act.put, gA9, gZ9, gC9, sA9, sZ9, sC9])
  refine wl_take (v := .bool true) (by kernel_rfl) (by go_simp) ?_
  simp only [Act.put, gA9, gZ9, gC9, sA9, sZ9, sC9]
  refine wl_take (v := .pointer (some ⟨w.heap.size, 9, none⟩)) (by kernel_rfl) (by go_simp) ?_
  simp only [Act.put, gA9, gZ9, gC9, sA9, sZ9, sC9]
  refine wl_step (by kernel_rfl) fun K hK => ?_
  refine wp_load_mid 42 (.tmp 11) rfl w.heap.size 9 rfl ([.int .i64 (S.vi[0]?.getD 0), .int .i64 (S.vi[1]?.getD 0), .int .i64 (S.vi[2]?.getD 0), .int .i64 (S.vi[3]?.getD 0), .slice S.va S.vk S.vc]) _ (rng_below RA9.out B3.out) Try.underlying42 rfl info_view ?_
  refine hK _ _ ?_
  clear hK K
  simp only [Act.put, gA9, gZ9, gC9, sA9, sZ9, sC9]
  refine wl_take (v := .pointer (some ⟨W1.heap.size, 9, none⟩)) (by kernel_rfl) (by go_simp) ?_
  simp only [Act.put, gA9, gZ9, gC9, sA9, sZ9, sC9]
  refine wl_step (by kernel_rfl) fun K hK => ?_
  refine wp_load_mid 42 (.tmp 13) rfl W1.heap.size 9 rfl ([.int .i64 (S'.vi[0]?.getD 0), .int .i64 (S'.vi[1]?.getD 0), .int .i64 (S'.vi[2]?.getD 0), .int .i64 (S'.vi[3]?.getD 0), .slice S'.va S'.vk S'.vc]) _ (rng_below RB9.out B3.out) Try.underlying42 rfl info_view ?_
  refine hK _ _ ?_
  clear hK K
  simp only [Act.put, gA9, gZ9, gC9, sA9, sZ9, sC9]
  refine wl_step (by kernel_rfl) fun K hK => ?_
  go_simp
  refine (HV.out w3 B3.out).mono ?_
  rintro e w4 ⟨rfl, hb4⟩
  have B4 : Hid (Below W2.heap.size W2 w4) := bstep B3.out hb4
  refine hK _ _ ?_
  clear hK K
  try (simp only [Act.put, gA9, gZ9, gC9, sA9, sZ9, sC9])
  refine wl_take (v := .bool true) (by kernel_rfl) (by go_simp) ?_
  simp only [Act.put, gA9, gZ9, gC9, sA9, sZ9, sC9]
  refine wl_take (v := .bool true) (by kernel_rfl) (by go_simp) ?_
  simp only [Act.put, gA9, gZ9, gC9, sA9, sZ9, sC9]
  refine wl_take (v := .pointer (some ⟨w.heap.size, 14, none⟩)) (by kernel_rfl) (by go_simp) ?_
  simp only [Act.put, gA9, gZ9, gC9, sA9, sZ9, sC9]
  refine wl_step (by kernel_rfl) fun K hK => ?_
  refine wp_load_mid 42 (.tmp 18) rfl w.heap.size 14 rfl ([.int .i64 (S.ui[0]?.getD 0), .int .i64 (S.ui[1]?.getD 0), .int .i64 (S.ui[2]?.getD 0), .int .i64 (S.ui[3]?.getD 0), .slice S.ua S.uk S.uc]) _ (rng_below RA14.out B4.out) Try.underlying42 rfl info_view ?_
  refine hK _ _ ?_
  clear hK K
  simp only [Act.put, gA9, gZ9, gC9, sA9, sZ9, sC9]
  refine wl_take (v := .pointer (some ⟨W1.heap.size, 14, none⟩)) (by kernel_rfl) (by go_simp) ?_
  simp only [Act.put, gA9, gZ9, gC9, sA9, sZ9, sC9]
  refine wl_step (by kernel_rfl) fun K hK => ?_
  refine wp_load_mid 42 (.tmp 20) rfl W1.heap.size 14 rfl ([.int .i64 (S'.ui[0]?.getD 0), .int .i64 (S'.ui[1]?.getD 0), .int .i64 (S'.ui[2]?.getD 0), .int .i64 (S'.ui[3]?.getD 0), .slice S'.ua S'.uk S'.uc]) _ (rng_below RB14.out B4.out) Try.underlying42 rfl info_view ?_
  refine hK _ _ ?_
  clear hK K
  simp only [Act.put, gA9, gZ9, gC9, sA9, sZ9, sC9]
  refine wl_step (by kernel_rfl) fun K hK => ?_
  go_simp
  refine (HU.out w4 B4.out).mono ?_
  rintro e w5 ⟨rfl, hb5⟩
  have B5 : Hid (Below W2.heap.size W2 w5) := bstep B4.out hb5
  have a19 : w5.cell? ⟨w.heap.size, 19, none⟩ = some (.slice S.ta S.tn S.tc) := below_at B5.out CA19.out
  have b19 : w5.cell? ⟨W1.heap.size, 19, none⟩ = some (.slice S'.ta S'.tn S'.tc) := below_at B5.out CB19.out
  refine hK _ _ ?_
  clear hK K
  try (simp only [Act.put, gA9, gZ9, gC9, sA9, sZ9, sC9])
  refine wl_take (v := .bool true) (by kernel_rfl) (by go_simp) ?_
  simp only [Act.put, gA9, gZ9, gC9, sA9, sZ9, sC9]
  refine wl_take (v := .bool true) (by kernel_rfl) (by go_simp) ?_
  simp only [Act.put, gA9, gZ9, gC9, sA9, sZ9, sC9]
  refine wl_take (v := .pointer (some ⟨w.heap.size, 19, none⟩)) (by kernel_rfl) (by go_simp) ?_
  simp only [Act.put, gA9, gZ9, gC9, sA9, sZ9, sC9]
  refine wl_take (v := .slice S.ta S.tn S.tc) (by kernel_rfl) (by go_simp) ?_
  simp only [Act.put, gA9, gZ9, gC9, sA9, sZ9, sC9]
  refine wl_take (v := .pointer (some ⟨W1.heap.size, 19, none⟩)) (by kernel_rfl) (by go_simp) ?_
  simp only [Act.put, gA9, gZ9, gC9, sA9, sZ9, sC9]
  refine wl_take (v := .slice S'.ta S'.tn S'.tc) (by kernel_rfl) (by go_simp) ?_
  simp only [Act.put, gA9, gZ9, gC9, sA9, sZ9, sC9]
  refine wl_step (by kernel_rfl) fun K hK => ?_
  go_simp
  refine (HI.out w5 B5.out).mono ?_
  rintro e w6 ⟨rfl, hb6⟩
  have B6 : Hid (Below W2.heap.size W2 w6) := bstep B5.out hb6
  have a20 : w6.cell? ⟨w.heap.size, 20, none⟩ = some (.bool S.ok) := below_at B6.out CA20.out
  have b20 : w6.cell? ⟨W1.heap.size, 20, none⟩ = some (.bool S.ok) := below_at B6.out CB20.out
  have a21 : w6.cell? ⟨w.heap.size, 21, none⟩ = some (.bool S.op) := below_at B6.out CA21.out
  have b21 : w6.cell? ⟨W1.heap.size, 21, none⟩ = some (.bool S.op) := below_at B6.out CB21.out
  refine hK _ _ ?_
  clear hK K
  try (simp only [Act.put, gA9, gZ9, gC9, sA9, sZ9, sC9])
  refine wl_take (v := .bool true) (by kernel_rfl) (by go_simp) ?_
  simp only [Act.put, gA9, gZ9, gC9, sA9, sZ9, sC9]
  refine wl_take (v := .bool true) (by kernel_rfl) (by go_simp) ?_
  simp only [Act.put, gA9, gZ9, gC9, sA9, sZ9, sC9]
  refine wl_take (v := .pointer (some ⟨w.heap.size, 20, none⟩)) (by kernel_rfl) (by go_simp) ?_
  simp only [Act.put, gA9, gZ9, gC9, sA9, sZ9, sC9]
  refine wl_take (v := .bool S.ok) (by kernel_rfl) (by go_simp) ?_
  simp only [Act.put, gA9, gZ9, gC9, sA9, sZ9, sC9]
  refine wl_take (v := .pointer (some ⟨W1.heap.size, 20, none⟩)) (by kernel_rfl) (by go_simp) ?_
  simp only [Act.put, gA9, gZ9, gC9, sA9, sZ9, sC9]
  refine wl_take (v := .bool S.ok) (by kernel_rfl) (by go_simp) ?_
  simp only [Act.put, gA9, gZ9, gC9, sA9, sZ9, sC9]
  refine wl_take (v := .bool true) (by kernel_rfl) (by (go_simp <;> simp)) ?_
  simp only [Act.put, gA9, gZ9, gC9, sA9, sZ9, sC9]
  refine wl_take (v := .bool true) (by kernel_rfl) (by go_simp) ?_
  simp only [Act.put, gA9, gZ9, gC9, sA9, sZ9, sC9]
  refine wl_take (v := .bool true) (by kernel_rfl) (by go_simp) ?_
  simp only [Act.put, gA9, gZ9, gC9, sA9, sZ9, sC9]
  refine wl_take (v := .pointer (some ⟨w.heap.size, 21, none⟩)) (by kernel_rfl) (by go_simp) ?_
  simp only [Act.put, gA9, gZ9, gC9, sA9, sZ9, sC9]
  refine wl_take (v := .bool S.op) (by kernel_rfl) (by go_simp) ?_
  simp only [Act.put, gA9, gZ9, gC9, sA9, sZ9, sC9]
  refine wl_take (v := .pointer (some ⟨W1.heap.size, 21, none⟩)) (by kernel_rfl) (by go_simp) ?_
  simp only [Act.put, gA9, gZ9, gC9, sA9, sZ9, sC9]
  refine wl_take (v := .bool S.op) (by kernel_rfl) (by go_simp) ?_
  simp only [Act.put, gA9, gZ9, gC9, sA9, sZ9, sC9]
  refine wl_take (v := .bool true) (by kernel_rfl) (by (go_simp <;> simp)) ?_
  simp only [Act.put, gA9, gZ9, gC9, sA9, sZ9, sC9]
  refine wl_take (v := .bool true) (by kernel_rfl) (by go_simp) ?_
  simp only [Act.put, gA9, gZ9, gC9, sA9, sZ9, sC9]
  refine ⟨?_⟩
  go_wp2
  go_ret
  exact ⟨rfl, bstep HB2.out B6.out⟩
end
end Go.Proofs.Ytdegjhkjmgimpaa.Mb
