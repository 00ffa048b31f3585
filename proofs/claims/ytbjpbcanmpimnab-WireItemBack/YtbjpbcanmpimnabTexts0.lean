import Derived.Test.YtbjpbcanmpimnabRr5
import Derived.Test.YtbjpbcanmpimnabBookAt
namespace Go.Proofs.Ytbjpbcanmpimnab.Lo
open Go.RowKit Bk
set_option linter.unusedVariables false

def resI (bs : List Int) : It × Int := match decI bs with
  | .ok it => (it, 0)
  | .error x => (⟨0, 0, 0, 0, [], 0, 0, 0, 0⟩, x)

theorem dec_eq (ao : Option Addr) (n c : Nat) (bs : List Int) (w : World) (hr : Rd w ao n c bs) (hnc : n ≤ c) (k s q st : Int) (body : List Int) (p st2 ss sq e0 : Int) (h : resI bs = (⟨k, s, q, st, body, p, st2, ss, sq⟩, e0)) :
    Calls Try.prog 10 #[.slice ao n c] w fun e w' => ∃ ab cb, e = .returned (.tuple #[.agg #[.int .i64 k, .int .i64 s, .int .i64 q, .int .i64 st, .slice ab body.length cb, .int .i64 p, .int .i64 st2, .int .i64 ss, .int .i64 sq], .int .i64 e0]) ∧ Own w' w.heap.size (.slice ab body.length cb) body ∧ Below w.heap.size w w' := by
  unfold resI at h
  split at h
  · rename_i hd
    simp only [Prod.mk.injEq] at h
    obtain ⟨rfl, rfl⟩ := h
    exact dec_ok ao n c bs w hr hnc _ hd
  · rename_i hd
    simp only [Prod.mk.injEq, It.mk.injEq] at h
    obtain ⟨⟨rfl, rfl, rfl, rfl, rfl, rfl, rfl, rfl, rfl⟩, rfl⟩ := h
    refine (dec_err ao n c bs w hr hnc _ hd).mono ?_
    rintro e w' ⟨rfl, hb⟩
    exact ⟨none, 0, rfl, World.ownsRow_nil _ _ _ _, hb⟩

theorem rdec_eq (ao : Option Addr) (n c : Nat) (bs : List Int) (w : World) (hr : Rd w ao n c bs) (hnc : n ≤ c) (k s q st : Int) (body : List Int) (p st2 ss sq e0 : Int) (h : resI bs = (⟨k, s, q, st, body, p, st2, ss, sq⟩, e0)) :
    Calls Try.prog 25 #[.slice ao n c] w fun e w' => ∃ ab cb, e = .returned (.tuple #[.agg #[.int .i64 k, .int .i64 s, .int .i64 q, .int .i64 st, .slice ab body.length cb, .int .i64 p, .int .i64 st2, .int .i64 ss, .int .i64 sq], .int .i64 e0]) ∧ Own w' w.heap.size (.slice ab body.length cb) body ∧ Below w.heap.size w w' := by
  unfold resI at h
  split at h
  · rename_i hd
    simp only [Prod.mk.injEq] at h
    obtain ⟨rfl, rfl⟩ := h
    exact rdec_ok ao n c bs w hr hnc _ hd
  · rename_i hd
    simp only [Prod.mk.injEq, It.mk.injEq] at h
    obtain ⟨⟨rfl, rfl, rfl, rfl, rfl, rfl, rfl, rfl, rfl⟩, rfl⟩ := h
    refine (rdec_err ao n c bs w hr hnc _ hd).mono ?_
    rintro e w' ⟨rfl, hb⟩
    exact ⟨none, 0, rfl, World.ownsRow_nil _ _ _ _, hb⟩

theorem resI_len (bs : List Int) : (resI bs).1.body.length ≤ 256 := by
  unfold resI
  have hd := decI_DI bs
  split
  · rename_i e
    rw [e] at hd
    cases hd with
    | data s q st body a h0 h1 hk hd ht =>
      obtain ⟨a1, a2, a3, a4, n, g1, g2, g3, g4, hf, hbody, ha'⟩ := decD_ok hd
      have h := (cnt_ok g4).2.1
      have := inR_ge h
      rw [hbody, List.length_take]
      omega
    | slot => simp
  · simp

theorem resI_range (bs : List Int) (hr : ∀ i, 0 ≤ bs.getD i 0 ∧ bs.getD i 0 ≤ 255) : ∀ i, 0 ≤ (resI bs).1.body.getD i 0 ∧ (resI bs).1.body.getD i 0 ≤ 255 := by
  unfold resI
  have hd := decI_DI bs
  split
  · rename_i e
    rw [e] at hd
    cases hd with
    | data s q st body a h0 h1 hk hd ht =>
      obtain ⟨a1, a2, a3, a4, n, g1, g2, g3, g4, hf, hbody, ha'⟩ := decD_ok hd
      intro i
      rw [hbody]
      by_cases hi : i < n.toNat
      · have := hr (a4 + i)
        simpa [List.getD, List.getElem?_take, List.getElem?_drop, hi] using this
      · have e : ((bs.drop a4).take n.toNat).getD i 0 = 0 := by simp [List.getD, List.getElem?_take, hi]
        rw [e]; omega
    | slot => simp
  · simp

theorem num_any (v : Int) (w : World) : Calls Try.prog 9 #[.int .i64 v] w fun e w' => e = .returned (.int .i64 v) ∧ w = w' := by
  go_enter Try.func9, Try.ntmps9
  go_wp2
  go_ret
  exact ⟨rfl, rfl⟩

theorem resI_text : resI [1, 1, 1, 0, 3, 4, 5, 6] = (⟨1, 1, 1, 0, [4, 5, 6], 0, 0, 0, 0⟩, 0) := by rfl

theorem own_three (w : World) (x y z : Int) : Own (w.alloc (.cells #[.int .u8 x, .int .u8 y, .int .u8 z] 5)) w.heap.size (.slice (some ⟨w.heap.size, 0, none⟩) 3 3) [x, y, z] :=
  ⟨by simp, .inr ⟨w.heap.size, 3, #[.int .u8 x, .int .u8 y, .int .u8 z], rfl, Nat.le_refl _, heap_alloc_new w _, by simp, by unfold maxLen; omega, by simp, by simp⟩⟩

set_option maxRecDepth 100000 in
theorem text_any (w : World) : Calls Try.prog 26 #[] w fun e w' => ∃ a1 c1, e = .returned (.slice a1 8 c1) ∧ Own w' w.heap.size (.slice a1 8 c1) [1, 1, 1, 0, 3, 4, 5, 6] ∧ Below w.heap.size w w' := by
  go_enter Try.func26, Try.ntmps26
  go_wp2_with fail
  have HB0 : Hid (Below w.heap.size w (w.alloc (.cells #[.int .u8 4, .int .u8 5, .int .u8 6] 5))) := balloc (Below.refl _ _)
  refine (rencI_any 1 1 1 0 (some ⟨w.heap.size, 0, none⟩) 3 [4, 5, 6] 0 0 0 0 _ (own_src (own_three w 4 5 6) (getD_range (by decide))) (by decide)).mono ?_
  rintro e w1 ⟨v', rfl, ho, hb⟩
  have eX : itemX 1 1 1 0 [4, 5, 6] 0 0 0 0 = [1, 1, 1, 0, 3, 4, 5, 6] := by decide
  rw [eX] at ho
  obtain ⟨a1, c1, rfl⟩ := own_slice ho
  have HF : Hid (Own w1 w.heap.size (.slice a1 8 c1) [1, 1, 1, 0, 3, 4, 5, 6] ∧ Below w.heap.size w w1) := ⟨ho.mono HB0.out.size, bstep HB0.out hb⟩
  clear ho hb eX
  go_wp2_with fail
  go_ret
  exact ⟨a1, c1, rfl, HF.out⟩

theorem own_le {w : World} {base n cap : Nat} {ao : Option Addr} {bs : List Int} (h : Own w base (.slice ao n cap) bs) : n ≤ cap := by
  rcases h.2 with ⟨hv, _⟩ | ⟨g, cap', cur, hv, _, _, hc, _⟩
  · simp only [Value.slice.injEq] at hv
    omega
  · simp only [Value.slice.injEq] at hv
    omega

end Go.Proofs.Ytbjpbcanmpimnab.Lo
