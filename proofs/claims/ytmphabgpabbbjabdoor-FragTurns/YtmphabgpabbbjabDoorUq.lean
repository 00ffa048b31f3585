import Derived.Test.YtmphabgpabbbjabDoorUd
import Derived.Test.YtmphabgpabbbjabDoorUe
namespace Go.Proofs.YtmphabgpabbbjabDoor.Fg
open Go.RowKit Mb
set_option linter.unusedVariables false
set_option maxRecDepth 100000
set_option linter.unusedSimpArgs false
section
variable {w w' W : World} {B : Nat}
theorem wl_push {ops : Array Oper} {rest : List Oper} {o : Oper} {a : Act} {Q : Exit → Act → World → Prop} (hgd : o.guard = none) (s x : Operand)
    (ho : o.op = .call { callee := .builtin .append, args := #[s, x], argTypes := #[32, 32] })
    (w0 wb : World) (base : Nat) (v : Value) (xs : List Int) (y : Int) (hs : a.eval s = v) (hown : Own w0 base v xs) (hw : w = w0.alloc (.cells #[.int .u8 y] 5)) (hx : a.eval x = .slice (some ⟨w0.heap.size, 0, none⟩) 1 1)
    (hbytes : xs.length + 1 ≤ 140737488355328) (hbase : base ≤ w0.heap.size) (hbel : Below base wb w0)
    (h : ∀ v' w', Own w' base v' (xs ++ [y]) → Below base wb w' → wpList Tryd.prog ops Q rest (a.put o.dst v') w') : wpList Tryd.prog ops Q (o :: rest) a w := by
  obtain ⟨si, shi, shz0, shz1, shz2⟩ := byte_info
  subst hw
  exact wpList_append_own _ hgd s x 32 ho base 5 si (.int .u8 0) 1 1 Tryd.underlying32 shi shz0 shz1 shz2 rfl (by decide) v xs.length (byts xs) hs (World.ownsRow.alloc hown _) ⟨w0.heap.size, 0, none⟩ 1 1 [.int .u8 y] hx rfl (cell_one_new _ _ _) (by intro u hu; simp at hu; subst hu; rfl) (by unfold maxLen; omega) (by omega) (by simp; omega) fun v' w' h2 h3 _ => h v' w' (own_push rfl h2) (below_push hbel hbase hown h3)
theorem rbe_take (n k j : Nat) (h : j < k) : (be n k).take (j + 1) = (be n k).take j ++ [((n / 256 ^ (k - 1 - j) % 256 : Nat) : Int)] := by
  have hl : j < (be n k).length := by rw [be_len]; exact h
  rw [List.take_succ_eq_append_getElem hl]
  congr 2
  simp [be]
theorem own_block_lt {base g c n : Nat} {bs : List Int} (h : Own w base (.slice (some ⟨g, 0, none⟩) n c) bs) : base ≤ g ∧ g < w.heap.size := World.ownsRow.lt h g rfl
theorem own_grown_other {w1 w3 w4 : World} {b1 b2 : Nat} {v1 v2 : Value} {x1 x2 : List Int} (h1 : Own w1 b1 v1 x1) (hb : w1.heap.size ≤ b2) (h2 : Own w3 b2 v2 x2) (hg : w3.grownBy w4 v1.ownBlock) : Own w4 b2 v2 x2 :=
  h2.keep (Kept.ofGrown hg) fun g hg2 he => by
    have l1 := h1.lt g he.symm
    have l2 := h2.lt g hg2
    omega
end
end Go.Proofs.YtmphabgpabbbjabDoor.Fg
