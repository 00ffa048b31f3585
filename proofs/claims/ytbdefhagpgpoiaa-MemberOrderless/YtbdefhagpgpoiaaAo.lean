import Derived.Test.YtbdefhagpgpoiaaAj
namespace Go.Proofs.Ytbdefhagpgpoiaa.Mb
open Go.RowKit
set_option linter.unusedVariables false
set_option maxRecDepth 100000
set_option linter.unusedSimpArgs false
theorem wpList_make_cap {P : Program} (w : World) {ops : Array Oper} {rest : List Oper} {o : Oper} {a : Act} {Q : Exit → Act → World → Prop}
    (hg : o.guard = none) (l c : Operand) (t : TypeId) (hop : o.op = Op.makeSlice t l c)
    (e : TypeId) (i : TypeInfo) (z : Value) (h1 : P.underlying t = some (.slice e)) (h2 : P.info? e = some i) (h3 : i.zero = some z) (h4 : i.size = 1) (h5 : z.cells = #[z]) (bytes : Nat) (h6 : i.bytes = bytes)
    (kl kc : IntKind) (L C : Int) (n m : Nat) (hl : a.eval l = .int kl L) (hc : a.eval c = .int kc C) (hL : L = (n : Int)) (hC : C = (m : Int)) (hnm : n ≤ m) (b2 : bytes * m ≤ 281474976710656) (b3 : m ≤ 9223372036854775807)
    (hK : ∀ w', Hid (w'.heap[w.heap.size]? = some (.cells (List.replicate m z).toArray e (0, 0))) → w'.heap.size = w.heap.size + 1 → Below w.heap.size w w' → wpList P ops Q rest (a.put o.dst (.slice (some ⟨w.heap.size, 0, none⟩) n m)) w') :
    wpList P ops Q (o :: rest) a w := by
  refine wpList_plain hg fun K hK' => ?_
  subst h6
  have hrun := run_make (P := P) w t e i z h1 h2 h3 kl kc L C (by omega) (by omega) (by rw [hC, show (i.bytes : Int) * (m : Int) = ((i.bytes * m : Nat) : Int) from by push_cast; rfl]; omega) (by omega)
  have hm : madeCells z.cells (C.toNat * i.size) = (List.replicate m z).toArray := by
    rw [h5, h4, hC]
    simp only [Int.toNat_natCast, Nat.mul_one]
    rw [← toList_madeCells_one, Array.toArray_toList]
  rw [hm] at hrun
  have hLn : L.toNat = n := by omega
  have hCn : C.toNat = m := by omega
  rw [hLn, hCn] at hrun
  unfold Oper.wp
  simp [execOp, hop, hl, hc, hrun, Result.andThen]
  exact hK' _ _ (hK _ (heap_alloc_new w _) (by simp) ((Below.refl _ _).alloc (Nat.le_refl _) _))
theorem info_i : (Try.prog.info? 3).map (fun i => (i.zero, i.size, i.bytes)) = some (some (.int .i64 0), 1, 8) := by kernel_rfl
theorem size_i : (Try.prog.info? 3).map (·.size) = some 1 := by kernel_rfl
section
variable {A A' : Ag} {w w' W : World} {B : Nat} {T : Int}
theorem take_cell {k n : Nat} {r : List Int} {t : Nat} {j : Nat} {v : Value} (h : Rw w k t r) (hv : (ints (r.take n))[j]? = some v) : w.cell? ⟨k, j, none⟩ = some v := by
  have hj : j < (r.take n).length := by have := (List.getElem?_eq_some_iff.1 hv).1; rwa [ints_len] at this
  have hj2 : j < r.length := by rw [List.length_take] at hj; omega
  rw [h.cell hj2]
  rw [ints_at _ _ hj] at hv
  rw [← hv]
  have hjn : j < n := by rw [List.length_take] at hj; omega
  simp [List.getD, List.getElem?_take, hjn]
theorem changing_any (h : A.Ok w B T) : Calls Try.prog 17 #[.pointer (some ⟨A.b, 0, none⟩)] w fun e w' => e = .returned (.bool A.chg) ∧ w = w' := by
  have c0 := h.c670
  clear h
  go_enter Try.func17, Try.ntmps17
  go_wp2
  go_ret
  exact ⟨rfl, rfl⟩
set_option maxHeartbeats 1000000 in
theorem list_any (r : List Int) (hr : r.length = 16) (n : Nat) (hn : n ≤ 16) : Calls Try.prog 38 #[.agg (ints r).toArray, .int .i64 n] w fun e w' => ∃ g, e = .returned (.slice (some ⟨g, 0, none⟩) n n) ∧ w.heap.size ≤ g ∧ Rw w' g 3 (r.take n) ∧ Below w.heap.size w w' := by
  obtain ⟨i0, hi, hz0, hz1, hz2⟩ := info_parts info_i
  generalize hW1 : w.alloc (.cells (ints r).toArray 100) = W1
  have b1 : Below w.heap.size w W1 := hW1 ▸ balloc (Below.refl _ _)
  have k1 : Rw W1 w.heap.size 100 r := by unfold Rw; rw [← hW1]; exact heap_alloc_new w _
  have HB1 : Hid (Below w.heap.size w W1) := b1
  have HK1 : Hid (Rw W1 w.heap.size 100 r) := k1
  have hl : (ints (r.take n)).length = n := by rw [ints_len, List.length_take, hr]; omega
  have HX1 : Hid (∀ v ∈ ints (r.take n), v.oneCell' = true) := ints_one _
  have Hm : Hid ((ints (r.take n)).length = Nat.min 16 n) := by show _ = _; rw [hl]; show n = min 16 n; omega
  have Hl : Hid ((ints (r.take n)).length = n) := hl
  have Hr : Hid (r.length = 16) := hr
  clear b1 k1 hl hr
  go_enter Try.func38, Try.ntmps38
  go_wp2_with (first
    | (at_make; refine wpList_make_cap _ rfl _ _ 33 rfl 3 i0 (.int .i64 0) Try.underlying33 hi hz0 hz1 rfl 8 hz2 .i64 .i64 _ _ n n rfl rfl rfl rfl (Nat.le_refl _) (by omega) (by omega) ?_; intro W2 hW hWs hWb; have HB2 : Hid (Below W1.heap.size W1 W2) := hWb; have HK2 : Hid (W2.heap[W1.heap.size]? = some (.cells (List.replicate n (.int .i64 0)).toArray 3 (0, 0))) := hW.out; have Hsz : Hid (W2.heap.size = W1.heap.size + 1) := hWs; clear hW hWs hWb; have HS : Hid (0 < (ints (r.take n)).length → (some (⟨W1.heap.size, 0, none⟩ : Addr)) = some ⟨W1.heap.size, 0, none⟩ ∧ ∃ ad, (some (⟨w.heap.size, 0, none⟩ : Addr)) = some ad ∧ ∀ j v, (ints (r.take n))[j]? = some v → W2.cell? (ad.add j) = some v) := (fun _ => ⟨rfl, _, rfl, fun j v hv => by rw [Addr.add_mid, Nat.zero_add]; exact take_cell (HK1.out.still HB2.out) hv⟩))
    | (refine wpList_copy_splice rfl _ _ 33 33 rfl 3 Try.underlying33 size_i _ _ n n 16 16 rfl rfl W1.heap.size 0 (List.replicate n (.int .i64 0)) 3 HK2.out (ints (r.take n)) Hm.out HS.out (by rw [Hl.out]; simp) HX1.out W1.heap.size W1 HB2.out (Nat.le_refl _) ?_; intro W3 hg3 hb3; have HB3 : Hid (Below W1.heap.size W1 W3) := hb3; clear hb3)
    | fail)
  go_ret
  refine ⟨_, rfl, HB1.out.size, ?_, bstep HB1.out HB3.out⟩
  have := hg3.out
  unfold Rw
  rw [this]
  congr 2
  unfold splice
  rw [Hl.out]
  simp
set_option maxHeartbeats 400000 in
theorem run_buildop {o : Oper} {ρ : Operand → Value} {w : World} (t : TypeId) (parts : Array (Nat × Operand)) (ho : o.op = .build t parts) (cells : Array Value) (h : Try.prog.built t (parts.map fun (i, x) => (i, ρ x)).toList = some cells) : (execOp ρ o).run Try.prog w = .ok (.value (.agg cells)) w := by
  unfold execOp
  simp only [ho, Sem.run_bind, run_build w t _ cells h, Result.andThen_ok, Sem.run_pure]
end
end Go.Proofs.Ytbdefhagpgpoiaa.Mb
