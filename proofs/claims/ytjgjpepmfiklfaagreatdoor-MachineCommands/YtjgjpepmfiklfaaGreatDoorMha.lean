import Derived.Test.YtjgjpepmfiklfaaGreatDoorAa
import Derived.Maps.OwnSet
namespace Go.Proofs.YtjgjpepmfiklfaaGreatDoor.Mh
open Go.RowKit Mb
set_option linter.unusedVariables false
set_option maxRecDepth 100000
set_option linter.unusedSimpArgs false
section
variable {w w' W : World} {B : Nat}
theorem sets_list {k t : Nat} : ∀ (vs : List Value) (o : Nat) (w : World) (xs : List Value), w.heap[k]? = some (.cells xs.toArray t (0, 0)) → o + vs.length ≤ xs.length → (w.setCells k o vs).heap[k]? = some (.cells (xs.take o ++ vs ++ xs.drop (o + vs.length)).toArray t (0, 0))
  | [], o, w, xs, h, _ => by simpa [World.setCells] using h
  | y :: ys, o, w, xs, h, hl => by
      simp only [List.length_cons] at hl
      have h1 : (w.setCell ⟨k, o, none⟩ y).heap[k]? = some (.cells (xs.set o y).toArray t (0, 0)) := blk_set h (by simp)
      have := sets_list ys (o + 1) _ _ h1 (by simp; omega)
      have e : (xs.set o y).take (o + 1) ++ ys ++ (xs.set o y).drop (o + 1 + ys.length) = xs.take o ++ y :: ys ++ xs.drop (o + (y :: ys).length) := by
        rw [List.take_set, List.drop_set, if_pos (by omega), List.length_cons, show o + (ys.length + 1) = o + 1 + ys.length by omega]
        rw [List.take_add_one, List.set_append]
        simp [show ¬ o < min o xs.length by omega, show min o xs.length = o by omega, show o < xs.length by omega]
      rw [e] at this
      exact this
theorem sets_whole {k t : Nat} {C : Array Value} {L : List Value} (h : w.heap[k]? = some (.cells C t (0, 0))) (hl : C.size = L.length) : (w.setCells k 0 L).heap[k]? = some (.cells L.toArray t (0, 0)) := by
  have := sets_list (k := k) (t := t) L 0 w C.toList (by simpa using h) (by simp [hl])
  have hd : C.toList.drop L.length = [] := List.drop_eq_nil_of_le (by simp [hl])
  simpa [hd] using this
theorem blk_there {k t n : Nat} {C : Array Value} (h : w.heap[k]? = some (.cells C t (0, 0))) (hn : C.size = n) : w.there k 0 n := fun j hj => ⟨by rw [blk_cell h, Nat.zero_add]; simp [show j < C.size by omega], frozen_of_row w _ _ _ _ h⟩
theorem blk_range {k t : Nat} {L : List Value} (h : w.heap[k]? = some (.cells L.toArray t (0, 0))) : w.rangeAt k 0 L := fun j v hv => by
  rw [blk_cell h, Nat.zero_add, List.getElem?_toArray, hv]
theorem load_mid {ops : Array Oper} {rest : List Oper} {o : Oper} {a : Act} {Q : Exit → Act → World → Prop} (ty : TypeId) (x : Operand) {b off : Nat} {cs : List Value} (hc : w.rangeAt b off cs) (d : TypeDesc) (hu : Tryz.prog.underlying ty = some d) (hd : d.isRow = true) (hi : (Tryz.prog.info? ty).map (·.size) = some cs.length)
    (ho : o.op = .load ty x) (hx : a.eval x = .pointer (some ⟨b, off, none⟩)) (hw : Region.wanted o (yielded ops a.tmps) = true) (h : wpList Tryz.prog ops Q rest (a.put o.dst (.agg cs.toArray)) w) : wpList Tryz.prog ops Q (o :: rest) a w :=
  wpList_step fun K hK => by
    rw [if_pos hw]
    exact wp_load_mid ty x ho b off hx cs d hc hu hd hi (hK _ _ h)
theorem store_rowL {ops : Array Oper} {rest : List Oper} {o : Oper} {a : Act} {Q : Exit → Act → World → Prop} (ty : TypeId) (x y : Operand) {b off : Nat} {L : List Value} (ht : w.there b off L.length) (hi : (Tryz.prog.info? ty).map (·.size) = some L.length) (h1 : ∀ u ∈ L, u.oneCell' = true)
    (ho : o.op = .store ty x y) (hx : a.eval x = .pointer (some ⟨b, off, none⟩)) (hy : a.eval y = .agg L.toArray) (hw : Region.wanted o (yielded ops a.tmps) = true) (h : wpList Tryz.prog ops Q rest (a.put o.dst undef) (w.setCells b off L)) : wpList Tryz.prog ops Q (o :: rest) a w :=
  wpList_step fun K hK => by
    rw [if_pos hw]
    exact wp_store_mid ty x y ho b off _ hx hy (by simpa using ht) (by simpa using hi) (all_oneCell_toArray h1) (hK _ _ (by simpa using h))
theorem results_cell {P : Program} {fn : Func} {t ty : Nat} (h : fn.results = #[.cell t ty]) {tmps : Array Value} {b : Nat} {cs : List Value} (hp : tmps.getD t undef = .pointer (some ⟨b, 0, none⟩)) (hc : w.rangeAt b 0 cs) (d : TypeDesc) (hu : P.underlying ty = some d) (hd : d.isRow = true) (hi : (P.info? ty).map (·.size) = some cs.length) : (results fn tmps).run P w = .ok (.agg cs.toArray) w := by
  have h1 := run_loadVar_mid (P := P) w b 0 ty cs d hc hu hd hi
  have hp2 : tmps[t]?.getD undef = .pointer (some ⟨b, 0, none⟩) := by simpa using hp
  simp [results, h, hp2, asAddr, h1]
theorem within_yes {v lo hi : Int} (h1 : lo ≤ v) (h2 : v ≤ hi) : Calls Tryz.prog 28 #[.int .i64 v, .int .i64 lo, .int .i64 hi] w fun e w' => e = .returned (.bool true) ∧ w = w' := by
  go_enter Tryz.func28, Tryz.ntmps28
  go_wp2
  go_ret
  exact ⟨rfl, rfl⟩
theorem isClient_yes {v : Int} (h1 : 0 ≤ v) (h2 : v ≤ 15) : Calls Tryz.prog 27 #[.int .i64 v] w fun e w' => e = .returned (.bool true) ∧ w = w' := by
  go_enter Tryz.func27, Tryz.ntmps27
  go_wp2_with (first | (go_at_call 28; refine (within_yes h1 h2).mono ?_; rintro e w' ⟨rfl, rfl⟩) | fail)
  go_ret
  exact ⟨rfl, rfl⟩
theorem isKey_yes {s : ByteArray} (h1 : 1 ≤ s.size) (h2 : s.size ≤ 8) : Calls Tryz.prog 46 #[.string s] w fun e w' => e = .returned (.bool true) ∧ w = w' := by
  have k1 : (1 : Int) ≤ (s.size : Int) := by omega
  have k2 : (s.size : Int) ≤ 8 := by omega
  go_enter Tryz.func46, Tryz.ntmps46
  go_wp2_with (first | (go_at_call 28; refine (within_yes k1 k2).mono ?_; rintro e w' ⟨rfl, rfl⟩) | fail)
  go_ret
  exact ⟨rfl, rfl⟩
theorem isValue_yes {s : ByteArray} (h2 : s.size ≤ 8) : Calls Tryz.prog 47 #[.string s] w fun e w' => e = .returned (.bool true) ∧ w = w' := by
  have k2 : (s.size : Int) ≤ 8 := by omega
  go_enter Tryz.func47, Tryz.ntmps47
  go_wp2
  go_ret
  exact ⟨rfl, rfl⟩
theorem isEmpty_yes : Calls Tryz.prog 48 #[.string { data := #[] }] w fun e w' => e = .returned (.bool true) ∧ w = w' := by
  go_enter Tryz.func48, Tryz.ntmps48
  go_wp2
  go_ret
  exact ⟨rfl, rfl⟩
end
end Go.Proofs.YtjgjpepmfiklfaaGreatDoor.Mh
