import Derived.Test.YtfodkackfahldaaBrc
namespace Go.Proofs.Ytfodkackfahldaa.Lo
open Go.RowKit
set_option linter.unusedVariables false
set_option linter.unusedSimpArgs false
section
variable {w w' W : World}
theorem app_I1 {ops : Array Oper} {rest : List Oper} {o : Oper} {a : Act} {Q : Exit → Act → World → Prop} (hgd : o.guard = none) (s x : Operand)
    (ho : o.op = .call { callee := .builtin .append, args := #[s, x], argTypes := #[22, 22] }) {B : Nat} {v : Value} {xs : List Int} (hs : a.eval s = v) {w0 : World} (hown : OwI w0 B v xs) (y : Int) (hw : w = w0.alloc (.cells #[.int .i64 y] 3))
    (hx : a.eval x = .slice (some ⟨w0.heap.size, 0, none⟩) 1 1) (hn : (xs.length + 1) * 8 ≤ 140737488355328) (hbase : B ≤ w0.heap.size)
    (h : ∀ v' w', Hid (OwI w' B v' (xs ++ [y])) → Hid (Mb.Kept w0 w' (fun k => v.ownBlock = some k)) → Hid (v'.ownBlock = v.ownBlock ∨ ∃ k, v'.ownBlock = some k ∧ w0.heap.size ≤ k) → wpList Try.prog ops Q rest (a.put o.dst v') w') : wpList Try.prog ops Q (o :: rest) a w := by
  subst hw
  have hb : Below w0.heap.size w0 (w0.alloc (.cells #[.int .i64 y] 3)) := bsp _ _ _
  refine app_I hgd s x ho hs (Mb.own_still hown hb) (ys := [y]) hx ⟨rfl, fun h => (by cases h), .inr ⟨w0.heap.size, 0, rfl, fun i hi => ?_⟩⟩ (by omega) (Nat.le_trans hbase hb.size) ?_
  · obtain rfl : i = 0 := by omega
    exact blk_cell (heap_new w0 #[.int .i64 y] 3) 0
  · intro v' w' h1 h2 h3
    refine h v' w' h1 ((Mb.Kept.ofBelow hb (fun k => v.ownBlock = some k)).trans h2.out) ?_
    rcases h3.out with h4 | h4
    · exact .inl h4
    · exact .inr ⟨_, h4, hb.size⟩
def rg (n : Nat) : List Int := (List.range n).map (fun (i : Nat) => (i : Int))
theorem rg_len (n : Nat) : (rg n).length = n := by simp [rg]
theorem rg_succ (n : Nat) : rg (n + 1) = rg n ++ [(n : Int)] := by simp [rg, List.range_succ]
set_option maxRecDepth 100000 in
set_option maxHeartbeats 1000000 in
theorem everybody_any (N : Nat) (w : World) (n2 : N ≤ 16) : Calls Try.prog 10 #[.int .i64 N] w fun r w' => ∃ (a : Option Addr) (c : Nat), r = .returned (.slice a N c) ∧ OwI w' w.heap.size (.slice a N c) (rg N) ∧ Below w.heap.size w w' := by
  go_enter Try.func10, Try.ntmps10
  go_wp2_with fail
  go_loopw [3, 4] (fun v x wr => ∃ (j : Nat) (a : Option Addr) (c : Nat), j ≤ N ∧ x = .int .i64 j ∧ v = .slice a j c ∧ Hid (OwI wr w.heap.size (.slice a j c) (rg j)) ∧ Hid (Below w.heap.size w wr)) (fun _ x _ => N - (intOf x).toNat)
  case atStart => exact ⟨0, none, 0, Nat.zero_le _, rfl, rfl, (show OwI _ _ _ _ from ow_nil _ _ _ _), Below.refl _ _⟩
  case round =>
    obtain ⟨j, a, c, hj, rfl, rfl, ho, hb⟩ := hrel
    by_cases hjn : j < N
    · have j3 : (j : Int) < (N : Int) := by omega
      have hs : w.heap.size ≤ wr.heap.size := hb.out.size
      go_wp2_with (first | (at_builtin; refine app_I1 rfl _ _ rfl rfl ho.out (j : Int) rfl rfl (by rw [rg_len]; omega) hs ?_) | fail)
      intro v' w2 o2 k2 _
      have o2' : OwI w2 w.heap.size v' (rg (j + 1)) := by rw [rg_succ]; exact o2.out
      obtain ⟨a', c', hv⟩ := ow_shape o2'
      rw [rg_len] at hv
      subst hv
      have HO : Hid (OwI w2 w.heap.size (.slice a' (j + 1) c') (rg (j + 1))) := o2'
      have HB : Hid (Below w.heap.size w w2) := (show Below _ _ _ from hb.out.trans (k2.out.below hs (fun k hk e => by have := (World.ownsRow.lt ho.out k e).1; omega)))
      clear o2 k2 o2' ho hb
      go_wp2_with fail
      go_roundw
      case rel => exact ⟨j + 1, a', c', by omega, by go_num, rfl, HO, HB⟩
      case measure => simp [intOf]; omega
    · have hjN : j = N := by omega
      subst hjN
      go_wp2_with fail
      go_ret
      exact ⟨a, c, rfl, ho.out, hb.out⟩
end
end Go.Proofs.Ytfodkackfahldaa.Lo
