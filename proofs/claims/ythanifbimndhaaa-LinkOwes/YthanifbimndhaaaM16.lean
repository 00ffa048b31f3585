import Derived.Test.YthanifbimndhaaaM15
import Derived.Test.YthanifbimndhaaaM11
import Derived.Maps.AppendAt
import Derived.Laws.OwnMore
namespace Go.Proofs.Ythanifbimndhaaa.Ln
set_option maxHeartbeats 40000000
open Go.RowKit Mb
set_option linter.unusedVariables false
set_option maxRecDepth 100000
set_option linter.unusedSimpArgs false
section
variable {w w' W : World} {B : Nat}
structure DnF (w : World) (la ga : Option Addr) (n : Nat) (mk : Int) : Prop where
 gb : ∃ gb, ga = some ⟨gb, 0, none⟩ /\ (∀ i, i < n -> w.cell? ⟨gb, i * 6 + 4, none⟩ = some (.int .i64 (mk - (i : Int)))) /\ ∀ i, i < 64 -> w.cell? ⟨gb, (n + i) * 6 + 4, none⟩ = some (.int .i64 (mk - 500 - (i : Int)))
 lb : 0 < n -> ∃ lb, la = some ⟨lb, 0, none⟩ /\ ∀ i, i < n -> w.cell? ⟨lb, i * 6 + 4, none⟩ = some (.int .i64 (mk - (i : Int))) /\ w.cell? ⟨lb, i * 6 + 5, none⟩ = some (.slice none 0 0)
theorem shows_done {la va ga : Option Addr} {n lc vn vc gn gc : Nat} {mk : Int} (h : DnF w la ga n mk) (hn : n ≤ 1000000) (hg : gn = n + 64) (hm : -1000000000 ≤ mk /\ mk ≤ 0) : Calls Try.prog 30 #[.agg #[.slice la n lc, .slice ga gn gc, .slice va vn vc, .int .i64 mk, .bool true]] w fun e w' => e = .returned (.bool true) /\ Below w.heap.size w w' := by
 generalize hW : w.alloc (.cells #[.slice la n lc, .slice ga gn gc, .slice va vn vc, .int .i64 mk, .bool true] 48) = W
 have hbW := bW0 hW
 have hk1 : W.heap[w.heap.size]? = some (.cells #[.slice la n lc, .slice ga gn gc, .slice va vn vc, .int .i64 mk, .bool true] 48 (0, 0)) := by rw [<- hW]; exact heap_alloc_new _ _
 have c0 : W.cell? ⟨w.heap.size, 0, none⟩ = some (.slice la n lc) := bC hk1 0
 have HC : Hid (W.cell? ⟨w.heap.size, 0, none⟩ = some (.slice la n lc) /\ W.cell? ⟨w.heap.size, 1, none⟩ = some (.slice ga gn gc) /\ W.cell? ⟨w.heap.size, 3, none⟩ = some (.int .i64 mk) /\ W.cell? ⟨w.heap.size, 4, none⟩ = some (.bool true)) := (show _ /\ _ from ⟨c0, bC hk1 1, bC hk1 3, bC hk1 4⟩)
 have HB : Hid (Below w.heap.size w W) := hbW
 have HH : Hid (DnF w la ga n mk) := h
 have Hg : Hid (gn = n + 64) := hg
 clear h hk1 hbW hg
 obtain ⟨hm1, hm2⟩ := hm
 go_enter Try.func30, Try.ntmps30
 go_wp2
 go_loopw [4] (fun v4 wr => ∃ i : Nat, i ≤ n /\ v4 = .int .i64 (i : Int) /\ Hid (Below w.heap.size w wr /\ Below W.heap.size W wr)) (fun v4 _ => n - (intOf v4).toNat)
 case atStart => exact ⟨0, by omega, rfl, (show _ /\ _ from ⟨HB.out, Below.refl _ _⟩)⟩
 case round =>
  obtain ⟨i, hi, rfl, hs⟩ := hrel
  have d0 := bA hs.out.2 HC.out.1
  have d1 := bA hs.out.2 HC.out.2.1
  have d3 := bA hs.out.2 HC.out.2.2.1
  have d4 := bA hs.out.2 HC.out.2.2.2
  obtain ⟨gb, hgb, hg1, hg2⟩ := HH.out.gb
  by_cases hlt : i < n
  ·have i1 : (0 : Int) ≤ (i : Int) := Int.natCast_nonneg _
   have i2 : (i : Int) < (n : Int) := by omega
   have i3 : (i : Int) < (gn : Int) := by have := Hg.out; omega
   obtain ⟨lb, hlb, hl⟩ := HH.out.lb (by omega)
   have l4 := bA hs.out.1 (hl i hlt).1
   have l5 := bA hs.out.1 (hl i hlt).2
   have g4 := bA hs.out.1 (hg1 i hlt)
   rw [hlb] at d0
   rw [hgb] at d1
   have HN : Hid (Below w.heap.size w wr.drew /\ Below W.heap.size W wr.drew) := (show _ /\ _ from ⟨bstep hs.out.1 (dB _), bstep hs.out.2 (dB _)⟩)
   clear hs hlt hl hlb hgb hg1 hg2
   go_wp2
   refine wp_region_held_drew (S := (fun w' => w'.cell? ⟨w.heap.size, 0, none⟩ = some (.slice (some ⟨lb, 0, none⟩) n lc) /\ w'.cell? ⟨w.heap.size, 1, none⟩ = some (.slice (some ⟨gb, 0, none⟩) gn gc) /\ w'.cell? ⟨w.heap.size, 3, none⟩ = some (.int .i64 mk) /\ w'.cell? ⟨w.heap.size, 4, none⟩ = some (.bool true) /\ w'.cell? ⟨lb, i * 6 + 4, none⟩ = some (.int .i64 (mk - (i : Int))) /\ w'.cell? ⟨lb, i * 6 + 5, none⟩ = some (.slice none 0 0) /\ w'.cell? ⟨gb, i * 6 + 4, none⟩ = some (.int .i64 (mk - (i : Int))))) (by kernel_rfl) ⟨(dW0 d0), (dW0 d1), (dW0 d3), (dW0 d4), (dW0 l4), (dW0 l5), (dW0 g4)⟩ (fun hH => ?_)
   simp only [Act.put, lA, lC, lN, zA]
   refine tG 0 14 (.pointer (some ⟨w.heap.size, 4, none⟩)) rfl hH ?_
   simp only [aP, sA, sZ, sC]
   refine tL 1 15 (.bool true) rfl hH ?_
   simp only [aP, sA, sZ, sC]
   refine tG 2 16 (.bool false) rfl hH ?_
   simp only [aP, sA, sZ, sC]
   refine tG 3 17 (.bool false) rfl hH ?_
   simp only [aP, sA, sZ, sC]
   refine tS 4 18 rfl hH ?_
   simp only [aP, sA, sZ, sC]
   refine tS 5 19 rfl hH ?_
   simp only [aP, sA, sZ, sC]
   refine tS 6 20 rfl hH ?_
   simp only [aP, sA, sZ, sC]
   refine tS 7 21 rfl hH ?_
   simp only [aP, sA, sZ, sC]
   refine tS 8 22 rfl hH ?_
   simp only [aP, sA, sZ, sC]
   refine tS 9 23 rfl hH ?_
   simp only [aP, sA, sZ, sC]
   refine tS 10 24 rfl hH ?_
   simp only [aP, sA, sZ, sC]
   refine tS 11 25 rfl hH ?_
   simp only [aP, sA, sZ, sC]
   refine tS 12 26 rfl hH ?_
   simp only [aP, sA, sZ, sC]
   refine tS 13 27 rfl hH ?_
   simp only [aP, sA, sZ, sC]
   refine tS 14 28 rfl hH ?_
   simp only [aP, sA, sZ, sC]
   refine tS 15 29 rfl hH ?_
   simp only [aP, sA, sZ, sC]
   refine tG 16 30 (.bool false) rfl hH ?_
   simp only [aP, sA, sZ, sC]
   refine tG 17 31 (.bool false) rfl hH ?_
   simp only [aP, sA, sZ, sC]
   refine tK 18 32 (.pointer (some ⟨w.heap.size, 4, none⟩)) rfl hH ?_
   simp only [aP, sA, sZ, sC]
   refine tM 19 33 (.bool true) rfl hH ?_
   simp only [aP, sA, sZ, sC]
   refine tK 20 34 (.bool true) rfl hH ?_
   simp only [aP, sA, sZ, sC]
   refine tK 21 35 (.pointer (some ⟨w.heap.size, 0, none⟩)) rfl hH ?_
   simp only [aP, sA, sZ, sC]
   refine tM 22 36 (.slice (some ⟨lb, 0, none⟩) n lc) rfl hH ?_
   simp only [aP, sA, sZ, sC]
   refine tK 23 37 (.int .i64 (i : Int)) rfl hH ?_
   simp only [aP, sA, sZ, sC]
   refine tK 24 38 (.pointer (some ⟨lb, i * 6, none⟩)) rfl hH ?_
   simp only [aP, sA, sZ, sC]
   refine tK 25 39 (.pointer (some ⟨lb, i * 6 + 4, none⟩)) rfl hH ?_
   simp only [aP, sA, sZ, sC]
   refine tM 26 40 (.int .i64 (mk - (i : Int))) rfl hH ?_
   simp only [aP, sA, sZ, sC]
   refine tK 27 41 (.pointer (some ⟨w.heap.size, 3, none⟩)) rfl hH ?_
   simp only [aP, sA, sZ, sC]
   refine tM 28 42 (.int .i64 mk) rfl hH ?_
   simp only [aP, sA, sZ, sC]
   refine tK 29 43 (.int .i64 (i : Int)) rfl hH ?_
   simp only [aP, sA, sZ, sC]
   refine tX 30 44 (.int .i64 (mk - (i : Int))) rfl (Or.inl ⟨by kernel_rfl, fun w' hS => by (go_simp <;> exact wrap_id (by omega) (by omega))⟩) hH ?_
   simp only [aP, sA, sZ, sC]
   refine tK 31 45 (.bool false) rfl hH ?_
   simp only [aP, sA, sZ, sC]
   refine tK 32 46 (.bool false) rfl hH ?_
   simp only [aP, sA, sZ, sC]
   refine tK 33 47 (.pointer (some ⟨w.heap.size, 0, none⟩)) rfl hH ?_
   simp only [aP, sA, sZ, sC]
   refine tM 34 48 (.slice (some ⟨lb, 0, none⟩) n lc) rfl hH ?_
   simp only [aP, sA, sZ, sC]
   refine tK 35 49 (.int .i64 (i : Int)) rfl hH ?_
   simp only [aP, sA, sZ, sC]
   refine tK 36 50 (.pointer (some ⟨lb, i * 6, none⟩)) rfl hH ?_
   simp only [aP, sA, sZ, sC]
   refine tK 37 51 (.pointer (some ⟨lb, i * 6 + 5, none⟩)) rfl hH ?_
   simp only [aP, sA, sZ, sC]
   refine tM 38 52 (.slice none 0 0) rfl hH ?_
   simp only [aP, sA, sZ, sC]
   refine tK 39 53 (.int .i64 0) rfl hH ?_
   simp only [aP, sA, sZ, sC]
   refine tK 40 54 (.bool false) rfl hH ?_
   simp only [aP, sA, sZ, sC]
   refine tK 41 55 (.bool false) rfl hH ?_
   simp only [aP, sA, sZ, sC]
   refine tK 42 56 (.bool false) rfl hH ?_
   simp only [aP, sA, sZ, sC]
   refine tK 43 57 (.pointer (some ⟨w.heap.size, 1, none⟩)) rfl hH ?_
   simp only [aP, sA, sZ, sC]
   refine tM 44 58 (.slice (some ⟨gb, 0, none⟩) gn gc) rfl hH ?_
   simp only [aP, sA, sZ, sC]
   refine tK 45 59 (.int .i64 (i : Int)) rfl hH ?_
   simp only [aP, sA, sZ, sC]
   refine tK 46 60 (.pointer (some ⟨gb, i * 6, none⟩)) rfl hH ?_
   simp only [aP, sA, sZ, sC]
   refine tK 47 61 (.pointer (some ⟨gb, i * 6 + 4, none⟩)) rfl hH ?_
   simp only [aP, sA, sZ, sC]
   refine tM 48 62 (.int .i64 (mk - (i : Int))) rfl hH ?_
   simp only [aP, sA, sZ, sC]
   refine tK 49 63 (.pointer (some ⟨w.heap.size, 3, none⟩)) rfl hH ?_
   simp only [aP, sA, sZ, sC]
   refine tM 50 64 (.int .i64 mk) rfl hH ?_
   simp only [aP, sA, sZ, sC]
   refine tK 51 65 (.int .i64 (i : Int)) rfl hH ?_
   simp only [aP, sA, sZ, sC]
   refine tX 52 66 (.int .i64 (mk - (i : Int))) rfl (Or.inl ⟨by kernel_rfl, fun w' hS => by (go_simp <;> exact wrap_id (by omega) (by omega))⟩) hH ?_
   simp only [aP, sA, sZ, sC]
   refine tK 53 67 (.bool false) rfl hH ?_
   simp only [aP, sA, sZ, sC]
   refine tK 54 68 (.bool false) rfl hH ?_
   simp only [aP, sA, sZ, sC]
   refine tK 55 69 (.bool false) rfl hH ?_
   simp only [aP, sA, sZ, sC]
   refine tG 56 70 (.bool false) rfl hH ?_
   simp only [aP, sA, sZ, sC]
   refine wpAnyH_done (by kernel_rfl) ?_ _
   clear hH
   clear d0 d1 d3 d4 l4 l5 g4
   generalize wr.drew = wd at *
   go_wp2
   exact ⟨⟨i + 1, by omega, by go_num, HN⟩, by simp [intOf]; omega⟩
  ·have i2 : ¬ (i : Int) < (n : Int) := by omega
   have HS : Hid (Below w.heap.size w wr /\ Below W.heap.size W wr) := hs
   clear hs hg1 hg2 hgb
   generalize wr = wz at *
   go_wp2
   go_loopw [5] (fun v5 wr => ∃ i : Nat, i ≤ 64 /\ v5 = .int .i64 (i : Int) /\ Hid (Below w.heap.size w wr /\ Below W.heap.size W wr)) (fun v5 _ => 64 - (intOf v5).toNat)
   case atStart => exact ⟨0, by omega, rfl, HS⟩
   case round =>
    clear HS d0 d1 d3 d4 i2 hi
    obtain ⟨i, hi, rfl, hs⟩ := hrel
    have d1 := bA hs.out.2 HC.out.2.1
    have d3 := bA hs.out.2 HC.out.2.2.1
    have d4 := bA hs.out.2 HC.out.2.2.2
    obtain ⟨gb, hgb, hg1, hg2⟩ := HH.out.gb
    by_cases hlt : i < 64
    ·have i1 : (0 : Int) ≤ (i : Int) := Int.natCast_nonneg _
     have i2 : (i : Int) < 64 := by omega
     obtain ⟨ni, hni⟩ : ∃ m, n + i = m := ⟨_, rfl⟩
     have n1 : (0 : Int) ≤ (ni : Int) := Int.natCast_nonneg _
     have n2 : (ni : Int) < (gn : Int) := by have := Hg.out; omega
     have g4 := bA hs.out.1 (hg2 i hlt)
     rw [hni] at g4
     rw [hgb] at d1
     have Hni : Hid (n + i = ni) := hni
     have HN : Hid (Below w.heap.size w wr.drew /\ Below W.heap.size W wr.drew) := (show _ /\ _ from ⟨bstep hs.out.1 (dB _), bstep hs.out.2 (dB _)⟩)
     clear hs hlt hgb hg1 hg2 hni
     go_wp2
     refine wp_region_held_drew (S := (fun w' => w'.cell? ⟨w.heap.size, 1, none⟩ = some (.slice (some ⟨gb, 0, none⟩) gn gc) /\ w'.cell? ⟨w.heap.size, 3, none⟩ = some (.int .i64 mk) /\ w'.cell? ⟨gb, ni * 6 + 4, none⟩ = some (.int .i64 (mk - 500 - (i : Int))))) (by kernel_rfl) ⟨(dW0 d1), (dW0 d3), (dW0 g4)⟩ (fun hH => ?_)
     simp only [Act.put, lA, lC, lN, zA]
     refine tG 0 79 (.pointer (some ⟨w.heap.size, 1, none⟩)) rfl hH ?_
     simp only [aP, sA, sZ, sC]
     refine tL 1 80 (.slice (some ⟨gb, 0, none⟩) gn gc) rfl hH ?_
     simp only [aP, sA, sZ, sC]
     refine tG 2 81 (.int .i64 (n : Int)) rfl hH ?_
     simp only [aP, sA, sZ, sC]
     refine tG 3 82 (.int .i64 (i : Int)) rfl hH ?_
     simp only [aP, sA, sZ, sC]
     refine tX 4 83 (.int .i64 (ni : Int)) rfl (Or.inl ⟨by rfl, fun w' hS => by (go_simp <;> (rw [wrap_id (by omega) (by omega)]; have := Hni.out; omega))⟩) hH ?_
     simp only [aP, sA, sZ, sC]
     refine tG 5 84 (.pointer (some ⟨gb, ni * 6, none⟩)) rfl hH ?_
     simp only [aP, sA, sZ, sC]
     refine tG 6 85 (.pointer (some ⟨gb, ni * 6 + 4, none⟩)) rfl hH ?_
     simp only [aP, sA, sZ, sC]
     refine tL 7 86 (.int .i64 (mk - 500 - (i : Int))) rfl hH ?_
     simp only [aP, sA, sZ, sC]
     refine tG 8 87 (.pointer (some ⟨w.heap.size, 3, none⟩)) rfl hH ?_
     simp only [aP, sA, sZ, sC]
     refine tL 9 88 (.int .i64 mk) rfl hH ?_
     simp only [aP, sA, sZ, sC]
     refine tX 10 89 (.int .i64 (mk - 500)) rfl (Or.inl ⟨by rfl, fun w' hS => by (go_simp <;> exact wrap_id (by omega) (by omega))⟩) hH ?_
     simp only [aP, sA, sZ, sC]
     refine tG 11 90 (.int .i64 (i : Int)) rfl hH ?_
     simp only [aP, sA, sZ, sC]
     refine tX 12 91 (.int .i64 (mk - 500 - (i : Int))) rfl (Or.inl ⟨by rfl, fun w' hS => by (go_simp <;> exact wrap_id (by omega) (by omega))⟩) hH ?_
     simp only [aP, sA, sZ, sC]
     refine tG 13 92 (.bool false) rfl hH ?_
     simp only [aP, sA, sZ, sC]
     refine wpAnyH_done (by kernel_rfl) ?_ _
     clear hH
     clear d1 d3 d4 g4
     generalize wr.drew = wd at *
     go_wp2
     exact ⟨⟨i + 1, by omega, by go_num, HN⟩, by simp [intOf]; omega⟩
    ·have i2 : ¬ (i : Int) < 64 := by omega
     have HS : Hid (Below w.heap.size w wr) := hs.out.1
     clear hs hgb hg1 hg2
     go_wp2
     go_ret
     exact ⟨rfl, HS.out⟩
end
def setL (xs : List Value) : Nat -> List Value -> List Value
 | _, [] => xs
 | o, v :: r => setL (xs.set o v) (o + 1) r
theorem setL_out : ∀ (L : List Value) (xs : List Value) (o j : Nat), (j < o ∨ o + L.length ≤ j) -> (setL xs o L)[j]? = xs[j]?
 | [], _, _, _, _ => rfl
 | v :: r, xs, o, j, h => by
   show (setL (xs.set o v) (o + 1) r)[j]? = _
   simp only [List.length_cons] at h
   rw [setL_out r _ _ _ (by omega), List.getElem?_set_ne (by omega)]
theorem setL_in : ∀ (L : List Value) (xs : List Value) (o j : Nat), j < L.length -> o + L.length ≤ xs.length -> (setL xs o L)[o + j]? = L[j]?
 | v :: r, xs, o, 0, _, hl => by
   show (setL (xs.set o v) (o + 1) r)[o + 0]? = _
   simp only [List.length_cons] at hl
   rw [setL_out r _ _ _ (by omega), Nat.add_zero, List.getElem?_set_self (by omega)]
   rfl
 | v :: r, xs, o, j + 1, h, hl => by
   show (setL (xs.set o v) (o + 1) r)[o + (j + 1)]? = _
   simp only [List.length_cons] at h hl
   rw [show o + (j + 1) = o + 1 + j by omega, setL_in r _ _ _ (by omega) (by rw [List.length_set]; omega)]
   simp
section
variable {w w' W : World} {B : Nat}
theorem own_sets {t s g n c : Nat} : ∀ (L : List Value) (o : Nat) (w : World) (xs : List Value), w.ownsRow B t s (.slice (some ⟨g, 0, none⟩) n c) n xs -> (w.setCells g o L).ownsRow B t s (.slice (some ⟨g, 0, none⟩) n c) n (setL xs o L)
 | [], _, _, _, h => h
 | v :: r, o, w, xs, h => own_sets r (o + 1) _ _ (World.ownsRow.stored h o v).1
theorem own_there {t s g n c : Nat} {xs : List Value} (h : w.ownsRow B t s (.slice (some ⟨g, 0, none⟩) n c) n xs) {o m : Nat} (ho : o + m ≤ n * s) : w.there g o m := by
 intro j hj
 refine ⟨?_, World.ownsRow.frozenAt h (o + j)⟩
 rw [World.ownsRow.cellAt h (o + j) (by omega), List.getElem?_eq_getElem (by have := h.1; omega)]
 rfl
theorem own_cut {t s n m c g : Nat} {xs ys : List Value} (h : w.ownsRow B t s (.slice (some ⟨g, 0, none⟩) (n + m) c) (n + m) (xs ++ ys)) (hx : xs.length = n * s) : w.ownsRow B t s (.slice (some ⟨g, 0, none⟩) n c) n xs := by
 rcases h.2 with ⟨h1, h2⟩ | ⟨g', cap, cur, hv, hB, hg, hnc, hcm, hcs, htk⟩
 ·cases h1
 ·simp only [Value.slice.injEq, Option.some.injEq, Addr.mk.injEq] at hv
  obtain ⟨⟨rfl, -⟩, -, rfl⟩ := hv
  refine ⟨hx, .inr ⟨g, c, cur, rfl, hB, hg, by omega, hcm, hcs, ?_⟩⟩
  have h3 := congrArg (List.take (n * s)) htk
  rw [List.take_take, show min (n * s) ((n + m) * s) = n * s by rw [Nat.add_mul]; omega, <- hx, List.take_left] at h3
  rw [<- hx]
  exact h3
theorem run_appK {P : Program} (base : Nat) (t ty e : TypeId) (i : TypeInfo) (z : Value) (size bytes : Nat) (ht : P.underlying t = some (.slice e)) (hi : P.info? e = some i) (hz : i.zero = some z)
  (hsize : i.size = size) (hby : i.bytes = bytes) (hzs : z.cells.size = size) (hsz : 0 < size)
  (v : Value) (n : Nat) (xs : List Value) (hown : w.ownsRow base e size v n xs)
  (a : Addr) (m c : Nat) (news : List Value) (hl : news.length = m * size) (hnews : ∀ j u, news[j]? = some u -> w.cell? (a.add j) = some u) (h1 : ∀ u ∈ news, u.oneCell' = true)
  (hm : 0 < m) (h63 : n + m ≤ maxLen) (hbytes : (n + m) * bytes ≤ 140737488355328) (hbase : base ≤ w.heap.size) :
  ∃ v' w', (Builtin.append_ #[t, t] ty #[v, .slice (some a) m c]).run P w = .ok v' w' /\ w'.ownsRow base e size v' (n + m) (xs ++ news) /\ w.grownBy w' v.ownBlock /\ ((∃ g cap, v = .slice (some ⟨g, 0, none⟩) n cap /\ v' = .slice (some ⟨g, 0, none⟩) (n + m) cap) ∨ v'.ownBlock = some w.heap.size) /\ w'.ownsRow base e size v n xs := by
 obtain ⟨v', w', hr, h2, h3, _, h5⟩ := run_append_own_at (P := P) w base t ty e i z size bytes ht hi hz hsize hby hzs hsz v n xs hown a m c news hl hnews h1 h63 hbytes hbase
 refine ⟨v', w', hr, h2, h3, ?_⟩
 have hx : xs.length = n * size := hown.1
 have hown2 := hown
 rcases hown.2 with ⟨rfl, rfl⟩ | ⟨g, cap, cur, rfl, hbg, hg, hnc, hcm, hcs, htake⟩
 ·refine ⟨.inr ?_, hown.1, .inl ⟨rfl, rfl⟩⟩
  rcases h5 with h5 | h5
  ·rcases h2.2 with ⟨_, h6⟩ | ⟨g, cap, cur, rfl, _⟩
   ·omega
   ·cases h5
  ·exact h5
 ·by_cases hroom : n + m ≤ cap
  ·obtain ⟨w2, hr2, h6, h7⟩ := run_append_fits (P := P) w base t ty e i size ht hi hsize g n cap xs hown2 a m c news hl hnews h1 hroom
   rw [hr] at hr2
   simp only [Result.ok.injEq] at hr2
   obtain ⟨rfl, rfl⟩ := hr2
   exact ⟨.inl ⟨g, cap, rfl, rfl⟩, own_cut h6 hx⟩
  ·have hr2 := run_append_grow (P := P) w t ty e i z ht hi hz ⟨g, 0, none⟩ n cap xs (by rw [hsize]; exact hown.1) (hown.cells (g := g) rfl) a m c news (by rw [hsize]; exact hl) hnews (by omega) (by simp only [maxLen] at h63; omega) (by rw [hby]; exact growslice_fits (by omega) hbytes)
   rw [hr] at hr2
   simp only [Result.ok.injEq] at hr2
   obtain ⟨rfl, rfl⟩ := hr2
   refine ⟨.inr rfl, hown.1, .inr ⟨g, cap, cur, rfl, hbg, ?_, hnc, hcm, hcs, htake⟩⟩
   have hlt : g < w.drew.heap.size := (Array.getElem?_eq_some_iff.1 hg).1
   exact (heap_alloc_old w.drew _ hlt).trans hg
structure ApAt (v v' : Value) (n m sz : Nat) : Prop where
 out : (∃ g cap, v = .slice (some ⟨g, 0, none⟩) n cap /\ v' = .slice (some ⟨g, 0, none⟩) (n + m) cap) ∨ v'.ownBlock = some sz
theorem wl_appK {P : Program} {ops : Array Oper} {rest : List Oper} {o : Oper} {a : Act} {Q : Exit -> Act -> World -> Prop} (hgd : o.guard = none) (s x : Operand) (t : TypeId)
  (ho : o.op = .call { callee := .builtin .append, args := #[s, x], argTypes := #[t, t] })
  (base : Nat) (e : TypeId) (i : TypeInfo) (z : Value) (size bytes : Nat) (ht : P.underlying t = some (.slice e)) (hi : P.info? e = some i) (hz : i.zero = some z)
  (hsize : i.size = size) (hby : i.bytes = bytes) (hzs : z.cells.size = size) (hsz : 0 < size)
  (v : Value) (n : Nat) (xs : List Value) (hs : a.eval s = v) (hown : w.ownsRow base e size v n xs)
  (ad : Addr) (m c : Nat) (news : List Value) (hx : a.eval x = .slice (some ad) m c) (hl : news.length = m * size) (hnews : ∀ j u, news[j]? = some u -> w.cell? (ad.add j) = some u) (h1 : ∀ u ∈ news, u.oneCell' = true)
  (hm : 0 < m) (h63 : n + m ≤ maxLen) (hbytes : (n + m) * bytes ≤ 140737488355328) (hbase : base ≤ w.heap.size)
  (h : ∀ v' w', w'.ownsRow base e size v' (n + m) (xs ++ news) -> w.grownBy w' v.ownBlock -> ApAt v v' n m w.heap.size -> w'.ownsRow base e size v n xs -> wpList P ops Q rest (a.put o.dst v') w') :
  wpList P ops Q (o :: rest) a w := by
 refine wpList_plain hgd fun K hK => ?_
 obtain ⟨v', w', hr, h2, h3, h4, h5⟩ := run_appK (P := P) base t o.type e i z size bytes ht hi hz hsize hby hzs hsz v n xs hown ad m c news hl hnews h1 hm h63 hbytes hbase
 unfold Oper.wp execOp
 simp only [ho, resolve, invoke, builtin, Sem.run_bind, Sem.run_pure, Result.andThen_ok, List.map_toArray, List.map_cons, List.map_nil, hs, hx, hr]
 exact hK _ _ (h v' w' h2 h3 ⟨h4⟩ h5)
theorem wl_pushR {ops : Array Oper} {rest : List Oper} {o : Oper} {a : Act} {Q : Exit -> Act -> World -> Prop} (hgd : o.guard = none) (s x : Operand)
  (ho : o.op = .call { callee := .builtin .append, args := #[s, x], argTypes := #[46, 46] })
  (w0 : World) (v : Value) (vals : List Value) (L : List Value) (hL : L.length = 6) (hL1 : ∀ u ∈ L, u.oneCell' = true) (hs : a.eval s = v) (n : Nat) (hown : w0.ownsRow B 55 6 v n vals) (hw : w = w0.alloc (.cells L.toArray 55)) (hx : a.eval x = .slice (some ⟨w0.heap.size, 0, none⟩) 1 1)
  (hn : n + 1 ≤ 1000000) (hbase : B ≤ w0.heap.size)
  (h : ∀ g cap w', w'.ownsRow B 55 6 (.slice (some ⟨g, 0, none⟩) (n + 1) cap) (n + 1) (vals ++ L) -> Kept w0 w' (fun k => v.ownBlock = some k) -> (v.ownBlock = some g ∨ w0.heap.size ≤ g) -> g < w'.heap.size -> wpList Try.prog ops Q rest (a.put o.dst (.slice (some ⟨g, 0, none⟩) (n + 1) cap)) w') : wpList Try.prog ops Q (o :: rest) a w :=
 wpList_step fun K hK => step_pushR hgd s x ho w0 v vals L hL hL1 hs n hown hw hx hn hbase fun g cap w' h2 h3 h4 h5 => hK _ _ (h g cap w' h2 h3 h4 h5)
def zfr (s : Int) : List Value := [.int .i64 0, .int .i64 0, .int .i64 0, .int .i64 0, .int .i64 s, .slice none 0 0]
theorem zfr_one (s : Int) : ∀ u ∈ zfr s, u.oneCell' = true := by
 intro u hu
 simp only [zfr, List.mem_cons, List.not_mem_nil, or_false] at hu
 rcases hu with rfl | rfl | rfl | rfl | rfl | rfl <;> rfl
def zfs (f : Nat -> Int) (n : Nat) : List Value := (List.range n).flatMap fun i => zfr (f i)
theorem zfs_succ (f : Nat -> Int) (n : Nat) : zfs f (n + 1) = zfs f n ++ zfr (f n) := by simp [zfs, List.range_succ]
theorem zfs_len (f : Nat -> Int) : ∀ n, (zfs f n).length = n * 6
 | 0 => rfl
 | n + 1 => by rw [zfs_succ, List.length_append, zfs_len f n]; simp [zfr]; omega
theorem zfs_get (f : Nat -> Int) (n i j : Nat) (hi : i < n) (hj : j < 6) : (zfs f n)[i * 6 + j]? = (zfr (f i))[j]? := flat_get (fun i => zfr (f i)) 6 (fun _ => rfl) (List.range n) i i (by simp [hi]) j hj
theorem zfs_one (f : Nat -> Int) (n : Nat) : ∀ u ∈ zfs f n, u.oneCell' = true := by
 intro u hu
 simp only [zfs, List.mem_flatMap] at hu
 obtain ⟨i, _, h⟩ := hu
 exact zfr_one _ u h
end
end Go.Proofs.Ythanifbimndhaaa.Ln
