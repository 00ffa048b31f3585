import Derived.Test.YtbjpbcanmpimnabItem3
namespace Go.Proofs.Ytbjpbcanmpimnab.Lo
open Go.RowKit
set_option linter.unusedVariables false

def itemX (k s q st : Int) (body : List Int) (p st2 ss sq : Int) : List Int :=
  if itemOK k s q st body.length p st2 ss sq then (if k = 1 then [1] ++ (puts [s, q, st] ++ (Wm.put 8 body.length ++ body)) else [2] ++ puts [p, st2, ss, sq]) else []
def itemE (k s q st : Int) (n : Nat) (p st2 ss sq : Int) : Int := if itemOK k s q st n p st2 ss sq then 0 else 16

theorem itemOK_cases {k s q st : Int} {n : Nat} {p st2 ss sq : Int} (h : itemOK k s q st n p st2 ss sq = true) :
    (k = 1 ∧ (0 ≤ s ∧ s ≤ 4611686018427387904) ∧ (0 ≤ q ∧ q ≤ 4611686018427387904) ∧ (0 ≤ st ∧ st ≤ 4611686018427387904) ∧ n ≤ 256) ∨
    (k = 2 ∧ (0 ≤ p ∧ p ≤ 4611686018427387904) ∧ (0 ≤ st2 ∧ st2 ≤ 4611686018427387904) ∧ (0 ≤ ss ∧ ss ≤ 4611686018427387904) ∧ (0 ≤ sq ∧ sq ≤ 4611686018427387904)) := by
  unfold itemOK at h
  split at h
  · simp [dataOK, inR] at h
    exact .inl ⟨by assumption, by omega, by omega, by omega, by omega⟩
  · split at h
    · simp [slotOK, inR] at h
      exact .inr ⟨by assumption, by omega, by omega, by omega, by omega⟩
    · simp at h

theorem itemX_len (k s q st : Int) (body : List Int) (p st2 ss sq : Int) : (itemX k s q st body p st2 ss sq).length ≤ 300 := by
  unfold itemX
  split
  · rename_i h
    rcases itemOK_cases h with ⟨rfl, _, _, _, hn⟩ | ⟨rfl, _⟩
    · have h1 := puts_len_le [s, q, st]
      have h2 : (Wm.put 8 (body.length : Int)).length ≤ 2 := by
        by_cases hb : (body.length : Int) < 128
        · rw [put_last 8 _ hb]; simp
        · obtain ⟨f', hf, e, _⟩ := put_step 8 body.length (by omega) (by simp; omega) (by omega)
          rw [e, put_last f' _ (by omega)]
          simp
      simp at h1 ⊢
      omega
    · have h1 := puts_len_le [p, st2, ss, sq]
      simp at h1 ⊢
      omega
  · simp

theorem puts_range (ns : List Int) (h : ∀ x ∈ ns, 0 ≤ x ∧ x ≤ 4611686018427387904) : ∀ y ∈ puts ns, 0 ≤ y ∧ y ≤ 255 := by
  intro y hy
  simp only [puts, List.mem_flatMap] at hy
  obtain ⟨x, hx, hy⟩ := hy
  exact put_range 8 x (h x hx).1 (by have := (h x hx).2; simp; omega) y hy

theorem itemX_range (k s q st : Int) (body : List Int) (p st2 ss sq : Int) (hb : ∀ i, 0 ≤ body.getD i 0 ∧ body.getD i 0 ≤ 255) : ∀ i, 0 ≤ (itemX k s q st body p st2 ss sq).getD i 0 ∧ (itemX k s q st body p st2 ss sq).getD i 0 ≤ 255 := by
  apply getD_range
  intro y hy
  unfold itemX at hy
  split at hy
  · rename_i h
    rcases itemOK_cases h with ⟨rfl, h1, h2, h3, hn⟩ | ⟨rfl, h1, h2, h3, h4⟩
    · simp only [if_true] at hy
      rcases List.mem_append.1 hy with hy | hy
      · simp at hy; omega
      · rcases List.mem_append.1 hy with hy | hy
        · exact puts_range [s, q, st] (by simp only [List.mem_cons, List.not_mem_nil, or_false]; rintro x (rfl | rfl | rfl) <;> assumption) y hy
        · rcases List.mem_append.1 hy with hy | hy
          · exact put_range 8 _ (by omega) (by simp; omega) y hy
          · exact mem_range hb y hy
    · rw [if_neg (by decide)] at hy
      rcases List.mem_append.1 hy with hy | hy
      · simp at hy; omega
      · exact puts_range [p, st2, ss, sq] (by simp only [List.mem_cons, List.not_mem_nil, or_false]; rintro x (rfl | rfl | rfl | rfl) <;> assumption) y hy
  · simp at hy

theorem own_one (w : World) (x : Int) : Own (w.alloc (.cells #[.int .u8 x] 5)) w.heap.size (.slice (some ⟨w.heap.size, 0, none⟩) 1 1) [x] :=
  ⟨by simp, .inr ⟨w.heap.size, 1, #[.int .u8 x], rfl, Nat.le_refl _, heap_alloc_new w _, by simp, by unfold maxLen; omega, by simp, by simp⟩⟩

theorem kept_one (w : World) (o : Obj) : KeptT w (w.alloc o) := KeptT.ofAlloc w o

end Go.Proofs.Ytbjpbcanmpimnab.Lo
