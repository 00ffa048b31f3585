import Derived.Test.YtjgjpepmfiklfaaGreatDoorMxb
namespace Go.Proofs.YtjgjpepmfiklfaaGreatDoor.Mx
open Go.RowKit Mb Mh
set_option linter.unusedVariables false
set_option maxRecDepth 100000
set_option linter.unusedSimpArgs false
section
variable {w w' W : World} {B : Nat}
theorem ix1 (w : World) : (Instr.index 62 (.agg OPS.toArray) (.int .i64 1)).run Tryz.prog w = .ok (.agg #[fv 46, fv 47, fv 48, fv 49]) w := by kernel_rfl
theorem ix2 (w : World) : (Instr.index 62 (.agg OPS.toArray) (.int .i64 2)).run Tryz.prog w = .ok (.agg #[fv 46, fv 48, fv 48, fv 50]) w := by kernel_rfl
theorem ix3 (w : World) : (Instr.index 62 (.agg OPS.toArray) (.int .i64 3)).run Tryz.prog w = .ok (.agg #[fv 46, fv 47, fv 47, fv 51]) w := by kernel_rfl
theorem ix4 (w : World) : (Instr.index 62 (.agg OPS.toArray) (.int .i64 4)).run Tryz.prog w = .ok (.agg #[fv 46, fv 48, fv 48, fv 52]) w := by kernel_rfl
theorem ix5 (w : World) : (Instr.index 62 (.agg OPS.toArray) (.int .i64 5)).run Tryz.prog w = .ok (.agg #[fv 46, fv 53, fv 48, fv 54]) w := by kernel_rfl
theorem ix6 (w : World) : (Instr.index 62 (.agg OPS.toArray) (.int .i64 6)).run Tryz.prog w = .ok (.agg #[fv 46, fv 48, fv 48, fv 55]) w := by kernel_rfl
theorem ix7 (w : World) : (Instr.index 62 (.agg OPS.toArray) (.int .i64 7)).run Tryz.prog w = .ok (.agg #[fv 46, fv 48, fv 48, fv 56]) w := by kernel_rfl
theorem ix8 (w : World) : (Instr.index 62 (.agg OPS.toArray) (.int .i64 8)).run Tryz.prog w = .ok (.agg #[fv 46, fv 57, fv 48, fv 58]) w := by kernel_rfl
theorem ix9 (w : World) : (Instr.index 62 (.agg OPS.toArray) (.int .i64 9)).run Tryz.prog w = .ok (.agg #[fv 48, fv 59, fv 48, fv 60]) w := by kernel_rfl
theorem opn_info : (Tryz.prog.info? 61).map (·.size) = some 4 := by kernel_rfl
theorem opn_one (a b c d : Nat) : ∀ u ∈ [fv a, fv b, fv c, fv d], u.oneCell' = true := by
  intro u hu
  simp only [List.mem_cons, List.not_mem_nil, or_false] at hu
  rcases hu with rfl | rfl | rfl | rfl <;> rfl
theorem newvar (w : World) (t : Nat) (Z L : List Value) (h : L.length = Z.length) : ∃ A1 V, w.alloc (.cells Z.toArray t) = A1 ∧ Hid (A1.there w.heap.size 0 L.length) ∧ A1.setCells w.heap.size 0 L = V ∧ Hid (V.heap[w.heap.size]? = some (.cells L.toArray t (0, 0))) ∧ Hid (Below w.heap.size w V) := by
  refine ⟨_, _, rfl, ?_, rfl, ?_, ?_⟩
  · exact blk_there (heap_alloc_new w _) (by simp [h])
  · exact sets_whole (heap_alloc_new w _) (by simp [h])
  · exact bsets (Nat.le_refl _) _ _ (balloc (Below.refl _ _))
theorem pFisKey {X : World} (hX : Gl X) (s : ByteArray) : Calls Tryz.prog 46 #[.string s] X fun e w' => e = .returned (.bool (keyB s)) ∧ Below X.heap.size X w' := (isKey_any s).mono fun e w' ⟨h1, h2⟩ => ⟨h1, h2 ▸ Below.refl _ _⟩
theorem pFisValue {X : World} (hX : Gl X) (s : ByteArray) : Calls Tryz.prog 47 #[.string s] X fun e w' => e = .returned (.bool (valB s)) ∧ Below X.heap.size X w' := (isValue_any s).mono fun e w' ⟨h1, h2⟩ => ⟨h1, h2 ▸ Below.refl _ _⟩
theorem pFisEmpty {X : World} (hX : Gl X) (s : ByteArray) : Calls Tryz.prog 48 #[.string s] X fun e w' => e = .returned (.bool (empB s)) ∧ Below X.heap.size X w' := (isEmpty_any s).mono fun e w' ⟨h1, h2⟩ => ⟨h1, h2 ▸ Below.refl _ _⟩
theorem pFisNumber {X : World} (hX : Gl X) (s : ByteArray) : Calls Tryz.prog 53 #[.string s] X fun e w' => e = .returned (.bool (nmB s)) ∧ Below X.heap.size X w' := isNumber_any hX s
theorem pFisToken {X : World} (hX : Gl X) (s : ByteArray) : Calls Tryz.prog 57 #[.string s] X fun e w' => e = .returned (.bool (tkB s)) ∧ Below X.heap.size X w' := isToken_any hX s
theorem pFisClientText {X : World} (hX : Gl X) (s : ByteArray) : Calls Tryz.prog 59 #[.string s] X fun e w' => e = .returned (.bool (ctB s)) ∧ Below X.heap.size X w' := isClientText_any hX s
def fitB (op : Int) (k v o : ByteArray) : Bool :=
  if op = 1 then keyB k && valB v && empB o
  else if op = 2 then keyB k && empB v && empB o
  else if op = 3 then keyB k && valB v && valB o
  else if op = 4 then keyB k && empB v && empB o
  else if op = 5 then keyB k && nmB v && empB o
  else if op = 6 then keyB k && empB v && empB o
  else if op = 7 then keyB k && empB v && empB o
  else if op = 8 then keyB k && tkB v && empB o
  else if op = 9 then empB k && ctB v && empB o
  else false
def askB (cl inc req : Int) : Bool := cliB cl && decide (1 ≤ inc ∧ inc ≤ 4611686018427387904) && decide (1 ≤ req ∧ req ≤ 4611686018427387904)
def okC (cl inc req op : Int) (k v o : ByteArray) : Bool := askB cl inc req && fitB op k v o
end
end Go.Proofs.YtjgjpepmfiklfaaGreatDoor.Mx
