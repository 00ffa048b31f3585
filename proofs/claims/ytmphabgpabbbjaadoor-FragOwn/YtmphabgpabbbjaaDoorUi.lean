import Derived.Test.YtmphabgpabbbjaaDoorUh
namespace Go.Proofs.YtmphabgpabbbjaaDoor.Fg
open Go.RowKit Mb
set_option linter.unusedVariables false
set_option maxRecDepth 100000
set_option linter.unusedSimpArgs false
section
variable {w w' W : World} {B : Nat}
abbrev z4 : Array Value := #[.int .i64 0, .int .i64 0, .int .i64 0, .slice none 0 0]
theorem part_info : ∃ i : TypeInfo, Tryd.prog.info? 64 = some i ∧ i.zero = some (.agg z4) ∧ i.size = 4 ∧ i.bytes = 48 := by
  have h : (Tryd.prog.info? 64).map (fun i => (i.zero, i.size, i.bytes)) = some (some (.agg z4), 4, 48) := by kernel_rfl
  cases hq : Tryd.prog.info? 64 with
  | none => rw [hq] at h; cases h
  | some i => rw [hq] at h; simp at h; exact ⟨i, rfl, h.1, h.2.1, h.2.2⟩
theorem pcs0 : pcs p0 none = z4.toList := rfl
def Jn.reset (J : Jn) : Jn := { J with ps := fun _ => p0, gs := fun _ => none }
theorem zf (J : Jn) (i : Nat) : J.reset.f i = z4.toList.getD (i % 4) undef := rfl
theorem z4_at (i : Nat) : z4[i % 4]! = z4.toList.getD (i % 4) undef := by
  have : i % 4 < 4 := Nat.mod_lt _ (by omega)
  generalize i % 4 = k at this
  rcases k with _ | _ | _ | _ | k <;> first | rfl | omega
theorem reset_ok {J : Jn} (hb : w'.heap[J.b]? = some (.cells #[.slice (some ⟨J.bp, 0, none⟩) J.n J.n] 56 (0, 0))) (hrow : Fb w' J.bp 64 (J.n * 4) J.reset.f) (h1 : 1 ≤ J.n) (h2 : J.n ≤ 16) (lb : B ≤ J.b) (lp : B ≤ J.bp) : J.reset.Ok w' B :=
  ⟨hb, hrow, h1, h2, fun _ => p0_ok, fun _ _ => rfl, fun s g h => (by cases h), fun s t g h => (by cases h), lb, lp, fun _ _ => rfl⟩
set_option maxHeartbeats 400000 in
theorem new_no {x : Int} (h : ¬ (1 ≤ x ∧ x ≤ 16)) : Calls Tryd.prog 9 #[.int .i64 x] w fun e w' => e = .returned (.tuple #[.pointer none, .int .i64 1]) ∧ w = w' := by
  have HW : Hid (Calls Tryd.prog 25 #[.int .i64 x, .int .i64 1, .int .i64 16] w fun e w' => e = .returned (.bool (inR 1 16 x)) ∧ w = w') := within_any x _ _
  rw [inR_f h] at HW
  clear h
  go_enter Tryd.func9, Tryd.ntmps9
  go_wp2_with (first | (go_at_call 25; refine HW.out.mono ?_; rintro e w2 ⟨rfl, rfl⟩) | fail)
  go_ret2
  exact ⟨rfl, rfl⟩
def jnew (b bp n : Nat) : Jn := ⟨b, bp, n, fun _ => p0, fun _ => none⟩
set_option maxHeartbeats 400000 in
theorem new_ok {n : Nat} (h1 : 1 ≤ n) (h2 : n ≤ 16) : Calls Tryd.prog 9 #[.int .i64 (n : Int)] w fun e w' => ∃ b bp, e = .returned (.tuple #[.pointer (some ⟨b, 0, none⟩), .int .i64 0]) ∧ (jnew b bp n).Ok w' w.heap.size ∧ Below w.heap.size w w' := by
  have HW : Hid (Calls Tryd.prog 25 #[.int .i64 (n : Int), .int .i64 1, .int .i64 16] w fun e w' => e = .returned (.bool (inR 1 16 n)) ∧ w = w') := within_any n _ _
  rw [inR_t (by omega) (by omega)] at HW
  obtain ⟨i0, hi, hz0, hz1, hz2⟩ := part_info
  go_enter Tryd.func9, Tryd.ntmps9
  go_wp2_with (first
    | (go_at_call 25; refine HW.out.mono ?_; rintro e w2 ⟨rfl, rfl⟩)
    | (at_make; refine wpList_make_full _ rfl _ _ 54 rfl w.heap.size 64 i0 (.agg z4) 4 Tryd.underlying54 hi hz0 hz1 .i64 .i64 _ _ n rfl rfl rfl rfl (by rw [hz2]; omega) (by unfold maxLen; omega) (Nat.le_refl _) ?_)
    | fail)
  intro w1 hown hgrow
  have HB1 : Hid (Below w.heap.size w w1) := (Below.refl _ w).grown hgrow (Nat.le_refl _) (fun k hk => by cases hk)
  have HF : Hid (Fb w1 w.heap.size 64 (n * 4) (jnew w1.heap.size w.heap.size n).f) := (show Fb _ _ _ _ _ from by
    rcases hown.2 with ⟨h3, _⟩ | ⟨g, cap, cur, hv, hg, hh, hr1, hr2, hr3, hr4⟩
    · cases h3
    · simp at hv
      obtain ⟨hg', rfl⟩ := hv
      subst hg'
      refine ⟨cur, hh, hr3, fun i hi => ?_⟩
      have e1 : cur[i]? = (cur.toList.take (n * 4))[i]? := by rw [List.getElem?_take]; simp [hi]
      rw [e1, hr4]
      have e2 : (madeCells z4 (n * 4)).toList[i]? = some (z4[i % 4]!) := by
        simp [madeCells, hi, Value.cells]
      rw [e2, z4_at]
      rfl)
  clear hown hgrow hi hz0 hz1 hz2
  go_wp2
  go_ret2
  refine ⟨w1.heap.size, w.heap.size, rfl, ?_, balloc HB1.out⟩
  exact reset_ok (J := jnew w1.heap.size w.heap.size n) (heap_alloc_new _ _) (HF.out.keep (Kept.ofBelow ((Below.refl _ _).alloc (Nat.le_refl _) _) (fun _ => False)) id) h1 h2 HB1.out.size (Nat.le_refl _)
theorem zeroP (w : World) : (zeroValue 64).run Tryd.prog w = .ok (.agg z4) w := by kernel_rfl
theorem zc_len (n : Nat) : (Builtin.zeroCells (Value.agg z4).cells n).toList.length = n * 4 := by
  simp [Builtin.zeroCells, Value.cells]
theorem zc_at (n i : Nat) (h : i < n * 4) : (Builtin.zeroCells (Value.agg z4).cells n).toList[i]? = some (z4.toList.getD (i % 4) undef) := by
  rw [← z4_at]
  simp [Builtin.zeroCells, Value.cells, h]
theorem zc_one (n : Nat) : ∀ u ∈ (Builtin.zeroCells (Value.agg z4).cells n).toList, u.oneCell' = true := by
  intro u hu
  simp [Builtin.zeroCells, Value.cells] at hu
  obtain ⟨a, ha, rfl⟩ := hu
  have : a % 4 < 4 := Nat.mod_lt _ (by omega)
  generalize a % 4 = k at this
  rcases k with _ | _ | _ | _ | k <;> first | rfl | omega
theorem run_clearP (w : World) (ty : TypeId) (b n c : Nat) (hc : ∀ j, j < n * 4 → (w.cell? ⟨b, 0 + j, none⟩).isSome = true) (hf : ∀ j, j < n * 4 → w.frozen? ⟨b, 0 + j, none⟩ = false) :
    (Builtin.clear_ #[54] ty #[.slice (some ⟨b, 0, none⟩) n c]).run Tryd.prog w = .ok (.tuple #[]) (w.setCells b 0 (Builtin.zeroCells (Value.agg z4).cells n).toList) := by
  have hst := run_storeCells_cells (P := Tryd.prog) b 0 _ 0 w (by rw [zc_len n]; simpa using hc) (by rw [zc_len n]; simpa using hf) (zc_one n)
  simp only [Nat.add_zero] at hst
  cases n with
  | zero =>
    have e : (Builtin.zeroCells (Value.agg z4).cells 0).toList = [] := List.eq_nil_of_length_eq_zero (by rw [zc_len])
    rw [e]
    simp [Builtin.clear_, run_underlying Tryd.underlying54, World.setCells]
  | succ n =>
    simp only [Builtin.clear_]
    simp [run_underlying Tryd.underlying54, zeroP, hst]
set_option maxHeartbeats 400000 in
theorem reset_any {J : Jn} (h : J.Ok w B) : Calls Tryd.prog 14 #[.pointer (some ⟨J.b, 0, none⟩)] w fun e w' => e = .returned (.tuple #[]) ∧ J.reset.Ok w' B ∧ Kept w w' (fun k => k = J.bp) := by
  have c0 : w.cell? ⟨J.b, 0, none⟩ = some (.slice (some ⟨J.bp, 0, none⟩) J.n J.n) := blk_cell h.jb 0
  have hcl : ∀ ty, (Builtin.clear_ #[54] ty #[.slice (some ⟨J.bp, 0, none⟩) J.n J.n]).run Tryd.prog w = .ok (.tuple #[]) (w.setCells J.bp 0 (Builtin.zeroCells (Value.agg z4).cells J.n).toList) := fun ty => run_clearP w ty J.bp J.n J.n (fun j hj => by rw [Nat.zero_add, h.row.cell j (by omega)]; rfl) (fun j hj => h.row.fz _)
  have hk := ksets (P := fun k => k = J.bp) (b := J.bp) rfl (Builtin.zeroCells (Value.agg z4).cells J.n).toList 0 w
  have hrow := Fb.sets (Builtin.zeroCells (Value.agg z4).cells J.n).toList 0 w J.f h.row
  generalize w.setCells J.bp 0 (Builtin.zeroCells (Value.agg z4).cells J.n).toList = V at *
  have HF : Hid (J.reset.Ok V B) := reset_ok (hk.obj h.jb h.jp) (hrow.congr fun i hi => by
    rw [zc_len, if_pos (by omega), zf, List.getD, Nat.sub_zero, zc_at _ _ hi]
    rfl) h.n1 h.n16 h.lb h.lp
  have HK : Hid (Kept w V (fun k => k = J.bp)) := hk
  clear h hk hrow
  go_enter Tryd.func14, Tryd.ntmps14
  go_wp2
  go_end0
  exact ⟨rfl, HF.out, HK.out⟩
end
end Go.Proofs.YtmphabgpabbbjaaDoor.Fg
