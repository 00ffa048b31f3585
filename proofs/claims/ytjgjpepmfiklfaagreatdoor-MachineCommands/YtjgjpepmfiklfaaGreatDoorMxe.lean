import Derived.Test.YtjgjpepmfiklfaaGreatDoorPutW
import Derived.Test.YtjgjpepmfiklfaaGreatDoorMha
namespace Go.Proofs.YtjgjpepmfiklfaaGreatDoor.Mx
open Go.RowKit Mb Mh Lo
set_option linter.unusedVariables false
set_option maxRecDepth 100000
set_option linter.unusedSimpArgs false
section
variable {w w' W : World} {B : Nat}
theorem wpList_make_cap {P : Program} (w : World) {ops : Array Oper} {rest : List Oper} {o : Oper} {a : Act} {Q : Exit → Act → World → Prop}
    (hg : o.guard = none) (l c : Operand) (t : TypeId) (hop : o.op = Op.makeSlice t l c)
    (e : TypeId) (i : TypeInfo) (z : Value) (h1 : P.underlying t = some (.slice e)) (h2 : P.info? e = some i) (h3 : i.zero = some z) (h4 : i.size = 1) (h5 : z.cells = #[z]) (bytes : Nat) (h6 : i.bytes = bytes)
    (kl kc : IntKind) (L C : Int) (n m : Nat) (hl : a.eval l = .int kl L) (hc : a.eval c = .int kc C) (hL : L = (n : Int)) (hC : C = (m : Int)) (hnm : n ≤ m) (b2 : bytes * m ≤ 281474976710656) (b3 : m ≤ 9223372036854775807)
    (hK : ∀ w', Hid (w'.heap[w.heap.size]? = some (.cells (List.replicate m z).toArray e (0, 0))) → w'.heap.size = w.heap.size + 1 → Below w.heap.size w w' → wpList P ops Q rest (a.put o.dst (.slice (some ⟨w.heap.size, 0, none⟩) n m)) w') :
    wpList P ops Q (o :: rest) a w := by
  refine wpList_plain hg fun K hK' => ?_
  subst h6
  have hrun := run_make (P := P) w t e i z h1 h2 h3 kl kc L C (by omega) (by omega) (by rw [hC, show (i.bytes : Int) * (m : Int) = ((i.bytes * m : Nat) : Int) from by push_cast; rfl]; omega) (by omega)
  have hm : madeCells z.cells (C.toNat * i.size) = (List.replicate m z).toArray := by
    rw [h5, h4, hC]
    simp only [Int.toNat_natCast, Nat.mul_one]
    rw [← toList_madeCells_one, Array.toArray_toList]
  rw [hm] at hrun
  have hLn : L.toNat = n := by omega
  have hCn : C.toNat = m := by omega
  rw [hLn, hCn] at hrun
  unfold Oper.wp
  simp [execOp, hop, hl, hc, hrun, Result.andThen]
  exact hK' _ _ (hK _ (heap_alloc_new w _) (by simp) ((Below.refl _ _).alloc (Nat.le_refl _) _))
theorem wwithin_yes {v lo hi : Int} (h1 : lo ≤ v) (h2 : v ≤ hi) : Calls Tryz.prog 66 #[.int .i64 v, .int .i64 lo, .int .i64 hi] w fun e w' => e = .returned (.bool true) ∧ w = w' := by
  go_enter Tryz.func66, Tryz.ntmps66
  go_wp2
  go_ret
  exact ⟨rfl, rfl⟩
theorem own_made9 {W1 : World} (h : W1.heap[B]? = some (.cells (List.replicate 9 (Value.int .u8 0)).toArray 5 (0, 0))) : Own W1 B (.slice (some ⟨B, 0, none⟩) 0 9) [] :=
  ⟨rfl, .inr ⟨B, 9, _, rfl, Nat.le_refl _, h, Nat.zero_le _, by unfold maxLen; omega, by simp, by simp⟩⟩
set_option maxHeartbeats 2000000 in
theorem putInt_nil {n : Int} (h0 : 0 ≤ n) (h1 : n ≤ 4611686018427387904) : Calls Tryz.prog 43 #[.slice none 0 0, .int .i64 n] w fun e w' => ∃ v, e = .returned (.tuple #[v, .int .i64 0]) ∧ Own w' w.heap.size v (Wm.put 8 n) ∧ Below w.heap.size w w' := by
  obtain ⟨i0, hi, hz0, hz1, hz2⟩ := info_parts info_u8
  go_enter Tryz.func43, Tryz.ntmps43
  go_wp2_with (first
    | (go_at_call 66; refine (wwithin_yes h0 h1).mono ?_; rintro e wx ⟨rfl, rfl⟩)
    | (at_make; refine wpList_make_cap _ rfl _ _ 24 rfl 5 i0 (.int .u8 0) Tryz.underlying24 hi hz0 hz1 rfl 1 hz2 .i64 .i64 _ _ 0 9 rfl rfl rfl rfl (by omega) (by omega) (by omega) ?_)
    | fail)
  intro W1 hW hWs hWb
  have HO : Hid (Own W1 w.heap.size (.slice (some ⟨w.heap.size, 0, none⟩) 0 9) []) := own_made9 hW.out
  have HB : Hid (Below w.heap.size w W1) := hWb
  clear hW hWs hWb
  have hs1 : (Tryz.prog.info? 5).map (·.size) = some 1 := by rw [hi]; simp [hz1]
  obtain ⟨X, hX⟩ : ∃ X, W1.alloc (.cells #[.int .i64 n] 3) = X := ⟨_, rfl⟩
  have HbX : Hid (Below W1.heap.size W1 X) := by rw [← hX]; exact balloc (Below.refl _ _)
  have HXc : Hid (X.heap[W1.heap.size]? = some (.cells #[.int .i64 n] 3 (0, 0))) := by rw [← hX]; exact heap_alloc_new W1 _
  have HPC : Hid (Calls Tryz.prog 67 #[.slice (some ⟨w.heap.size, 0, none⟩) 0 9, .slice (some ⟨W1.heap.size, 0, none⟩) 1 1] X fun e w' => ∃ v', e = .returned v' ∧ Own w' w.heap.size v' (Wm.put 8 n) ∧ Below w.heap.size X w') := by
    have h5 : Own X w.heap.size (.slice (some ⟨w.heap.size, 0, none⟩) 0 9) [] := by rw [← hX]; exact Own.alloc HO.out _
    refine (counts_any w.heap.size _ [] W1.heap.size 0 1 1 [n] X h5 (Nat.le_trans HB.out.size HbX.out.size) rfl ?_ (.inr ⟨_, HXc.out⟩) (lt_heap HXc.out) ?_ (by simp)).mono ?_
    · intro i hi9
      obtain rfl : i = 0 := by omega
      exact blk_cell HXc.out 0
    · intro x hx
      obtain rfl : x = n := by simpa using hx
      exact ⟨h0, h1⟩
    · rintro e w' ⟨v', e1, e2, e3, _⟩
      refine ⟨v', e1, ?_, e3⟩
      simpa [puts] using e2
  go_wp2_with (first
    | (refine wpList_copy_nothing rfl (.tmp 16) (.tmp 17) 24 24 rfl 5 Tryz.underlying24 hs1 _ _ _ _ _ _ rfl rfl (by rfl) ?_)
    | (go_at_call 67; refine HPC.out.mono ?_; rintro e w3 ⟨v', rfl, ho3, hb3⟩)
    | fail)
  (try simp only [Exit.inBlock, Exit.then])
  refine bodyPost_ret (results_tmp2 Tryz.results43 _ _ _) rfl ⟨v', rfl, ho3, ?_⟩
  exact (HB.out.trans (HbX.out.mono HB.out.size)).trans hb3
end
end Go.Proofs.YtjgjpepmfiklfaaGreatDoor.Mx
