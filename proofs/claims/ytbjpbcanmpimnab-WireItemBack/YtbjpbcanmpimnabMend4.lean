import Derived.Test.YtbjpbcanmpimnabMend2
import Derived.Test.YtbjpbcanmpimnabMend3
import Derived.Test.YtbjpbcanmpimnabBack
namespace Go.Proofs.Ytbjpbcanmpimnab.Lo
open Go.RowKit Bk
set_option linter.unusedVariables false

theorem take_range {body : List Int} (k : Nat) (h : ∀ i, 0 ≤ body.getD i 0 ∧ body.getD i 0 ≤ 255) : ∀ i, 0 ≤ (body.take k).getD i 0 ∧ (body.take k).getD i 0 ≤ 255 := by
  intro i
  by_cases hi : i < k
  · have := h i
    simpa [List.getD, List.getElem?_take, hi] using this
  · have e : (body.take k).getD i 0 = 0 := by simp [List.getD, List.getElem?_take, hi]
    rw [e]; omega

theorem mend_any (k s q st : Int) (ao : Option Addr) (c : Nat) (body : List Int) (p st2 ss sq : Int) (w : World) (hr : Rd w ao body.length c body) (hnc : body.length ≤ c) (hlen : body.length ≤ 140737488355328) :
    Calls Try.prog 7 #[.agg #[.int .i64 k, .int .i64 s, .int .i64 q, .int .i64 st, .slice ao body.length c, .int .i64 p, .int .i64 st2, .int .i64 ss, .int .i64 sq]] w fun e w' => ∃ (k1 s1 q1 st1 : Int) (T : List Int) (p1 u1 y1 z1 : Int) (ab : Option Addr) (cb : Nat), e = .returned (.agg #[.int .i64 k1, .int .i64 s1, .int .i64 q1, .int .i64 st1, .slice ab T.length cb, .int .i64 p1, .int .i64 u1, .int .i64 y1, .int .i64 z1]) ∧ itemOK k1 s1 q1 st1 T.length p1 u1 y1 z1 = true ∧ (∀ i, 0 ≤ T.getD i 0 ∧ T.getD i 0 ≤ 255) ∧ Own w' w.heap.size (.slice ab T.length cb) T ∧ Below w.heap.size w w' := by
  by_cases hk : k = 2
  · subst hk
    have hi := into_in p 1 4611686018427387904 (by decide)
    have hg := inR_ge hi
    refine (mend_slot s q st ao body.length c p st2 ss sq _ rfl (by omega) (by omega) w).mono ?_
    rintro e w' ⟨rfl, hb⟩
    refine ⟨_, _, _, _, [], _, _, _, _, none, 0, rfl, ?_, by simp, World.ownsRow_nil _ _ _ _, hb⟩
    unfold itemOK slotOK dataZ
    rw [if_neg (by decide), if_pos rfl, hi, into_in _ _ _ (by omega), into_in _ _ _ (by decide), into_in _ _ _ (by decide)]
    rfl
  · refine (mend_data k s q st hk ao c body _ rfl p st2 ss sq w hr hnc hlen).mono ?_
    rintro e w' ⟨ab, cb, rfl, ho, hb⟩
    refine ⟨_, _, _, _, _, _, _, _, _, ab, cb, rfl, ?_, take_range 256 hr.2.2.2, ho, hb⟩
    unfold itemOK dataOK
    rw [if_pos rfl, into_in _ _ _ (by decide), into_in _ _ _ (by decide), into_in _ _ _ (by decide)]
    simp
    omega

theorem resI_ok {bs : List Int} {it : It} (h : decI bs = .ok it) : resI bs = (it, 0) := by unfold resI; rw [h]

theorem ok_p {k s q st : Int} {body : List Int} {p st2 ss sq : Int} (h : itemOK k s q st body.length p st2 ss sq = true) : p ≥ -9223372036854775808 := by
  rcases itemOK_full h with ⟨_, _, _, _, _, h, _⟩ | ⟨_, h, _⟩
  · omega
  · have := inR_ge h; omega

theorem encI_ok (k s q st : Int) (ao : Option Addr) (c : Nat) (body : List Int) (p st2 ss sq : Int) (X : List Int) (w : World) (hr : Rd w ao body.length c body) (h : itemOK k s q st body.length p st2 ss sq = true) (hX : itemX k s q st body p st2 ss sq = X) :
    Calls Try.prog 8 #[.agg #[.int .i64 k, .int .i64 s, .int .i64 q, .int .i64 st, .slice ao body.length c, .int .i64 p, .int .i64 st2, .int .i64 ss, .int .i64 sq]] w fun e w' => ∃ a1 c1, e = .returned (.tuple #[.slice a1 X.length c1, .int .i64 0]) ∧ Own w' w.heap.size (.slice a1 X.length c1) X ∧ Below w.heap.size w w' := by
  subst hX
  refine (encI_any k s q st ao c body p st2 ss sq w hr (ok_p h)).mono ?_
  rintro e w' ⟨v', rfl, ho, hb⟩
  obtain ⟨a1, c1, rfl⟩ := own_slice ho
  have hE : itemE k s q st body.length p st2 ss sq = 0 := by unfold itemE; rw [if_pos h]
  rw [hE]
  exact ⟨a1, c1, rfl, ho, hb⟩

end Go.Proofs.Ytbjpbcanmpimnab.Lo
