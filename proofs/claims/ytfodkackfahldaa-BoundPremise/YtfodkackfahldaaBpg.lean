import Derived.Test.YtfodkackfahldaaBpf
import Derived.Laws.Rows
import Derived.Deep.RegionWith
namespace Go.Proofs.Ytfodkackfahldaa.Lo
open Go.RowKit
set_option linter.unusedVariables false
set_option linter.unusedSimpArgs false

def upF (f : Nat → Int) (i : Nat) (v : Int) : Nat → Int := fun j => if j = i then v else f j
theorem upF_at (f : Nat → Int) (i : Nat) (v : Int) : upF f i v i = v := by unfold upF; rw [if_pos rfl]
theorem upF_ne (f : Nat → Int) {i j : Nat} (v : Int) (h : j ≠ i) : upF f i v j = f j := by unfold upF; rw [if_neg h]
theorem Nb.set {w : World} {b : Nat} {f : Nat → Int} (h : Nb w b f) {i : Nat} (hi : i < 292) (v : Int) : Nb (w.setCell ⟨b, i, none⟩ (.int .i64 v)) b (upF f i v) := by
  obtain ⟨C, h1, h2, h3⟩ := h
  refine ⟨C.setIfInBounds i (.int .i64 v), heap_setCell_same w b i C 59 _ h1, by rw [Array.size_setIfInBounds, h2], fun j hj => ?_⟩
  by_cases e : j = i
  · subst e
    rw [upF_at, Array.getElem?_setIfInBounds_self_of_lt (by omega)]
  · rw [upF_ne f v e, Array.getElem?_setIfInBounds_ne (by omega)]
    exact h3 j hj
theorem Nb.lt {w : World} {b : Nat} {f : Nat → Int} (h : Nb w b f) : b < w.heap.size := by
  obtain ⟨C, h1, _⟩ := h
  exact (Array.getElem?_eq_some_iff.1 h1).1
theorem Nb.drewN {w : World} {b : Nat} {f : Nat → Int} (h : Nb w b f) (k : Nat) : Nb (w.drewN k) b f := h.on (below_drewN (Below.refl _ _) _)
theorem Nb.fz {w : World} {b : Nat} {f : Nat → Int} (h : Nb w b f) (i : Nat) : w.frozen? ⟨b, i, none⟩ = false := by
  obtain ⟨C, h1, _⟩ := h
  exact frozen_of_row w b i C 59 h1
def loF (f : Nat → Int) (N : Nat) (t : Int) : Nat → Int :=
  if alP f N then (let g := if f 290 = -1 then upF (upF f 290 t) 291 1 else f; upF g 291 (max (g 291) (lgA g N N))) else upF f 290 (-1)
set_option maxRecDepth 100000 in
set_option maxHeartbeats 1000000 in
theorem look_any (b B : Nat) (f : Nat → Int) (N : Nat) (t : Int) (w : World) (h : Nb w b f) (hB : B ≤ b) (hN : f 0 = (N : Int)) (n1 : 1 ≤ N) (n2 : N ≤ 16) : Calls Try.prog 23 #[.pointer (some ⟨b, 0, none⟩), .int .i64 t] w fun e w' => e = .returned (.tuple #[]) ∧ Nb w' b (loF f N t) ∧ Below B w w' := by
  have HA : Hid (Calls Try.prog 41 #[.pointer (some ⟨b, 0, none⟩)] w fun e w' => e = .returned (.bool (decide (alP f N))) ∧ Below w.heap.size w w') := isAlone_any b f N w h hN n1 n2
  have hlt := h.lt
  have HH : Hid (Nb w b f) := h
  have HF : Hid (f 0 = (N : Int)) := hN
  by_cases ha : alP f N
  · have e1 : decide (alP f N) = true := by simpa using ha
    rw [e1] at HA
    by_cases e0 : f 290 = -1
    · have hL : loF f N t = upF (upF (upF f 290 t) 291 1) 291 (max ((upF (upF f 290 t) 291 1) 291) (lgA (upF (upF f 290 t) 291 1) N N)) := by
        unfold loF
        rw [if_pos ha]
        simp only [if_pos e0]
      rw [hL]
      have HE : Hid (f 290 = -1) := e0
      clear ha e1 h hN hL e0
      go_enter Try.func23, Try.ntmps23
      go_wp2_with fail
      refine HA.out.mono ?_
      rintro e w1 ⟨rfl, hb1⟩
      have h1 : Nb w1 b f := HH.out.on hb1
      have HB1 : Hid (Below B w w1) := hb1.mono (by omega)
      have H1 : Hid (Nb w1 b f) := h1
      have c3 := h1.cell (i := 290) (by omega)
      have c4 := h1.cell (i := 291) (by omega)
      have z3 := h1.fz 290
      have h2 : Nb ((w1.setCell ⟨b, 290, none⟩ (.int .i64 t)).setCell ⟨b, 291, none⟩ (.int .i64 1)) b (upF (upF f 290 t) 291 1) := (h1.set (by omega) t).set (by omega) 1
      have HB2 : Hid (Below B w ((w1.setCell ⟨b, 290, none⟩ (.int .i64 t)).setCell ⟨b, 291, none⟩ (.int .i64 1))) := (HB1.out.setCell hB _).setCell hB _
      have z4 := h1.fz 291
      have z5 := (h1.set (i := 290) (by omega) t).fz 291
      have c5 := (h1.set (i := 290) (by omega) t).cell (i := 291) (by omega)
      have H2 : Hid (Nb ((w1.setCell ⟨b, 290, none⟩ (.int .i64 t)).setCell ⟨b, 291, none⟩ (.int .i64 1)) b (upF (upF f 290 t) 291 1)) := h2
      rw [HE.out] at c3
      clear hb1 h1 h2 HA
      go_wp2_with fail
      have c6 := H2.out.cell (i := 291) (by omega)
      rw [upF_at] at c6
      have z6 := H2.out.fz 291
      have HF2 : Hid ((upF (upF f 290 t) 291 1) 0 = (N : Int)) := (show _ = _ from by rw [upF_ne _ _ (by omega), upF_ne _ _ (by omega)]; exact HF.out)
      have HG : Hid ((upF (upF f 290 t) 291 1) 291 = 1) := (show _ = _ from upF_at _ _ _)
      clear c3 c4 c5 z3 z4 z5 H1 HB1
      generalize (w1.setCell ⟨b, 290, none⟩ (.int .i64 t)).setCell ⟨b, 291, none⟩ (.int .i64 1) = V at *
      generalize hg : upF (upF f 290 t) 291 1 = g at *
      have H3 : Hid (Nb V.drew b g) := H2.out.on (Below.refl _ _).drew
      have HLG : Hid (Calls Try.prog 42 #[.pointer (some ⟨b, 0, none⟩)] V.drew fun e w' => e = .returned (.int .i64 (lgA g N N)) ∧ V.drew = w') := longest_any b g N _ H3.out HF2.out n1 n2
      generalize hy : lgA g N N = y at *
      have HZ : Hid (∀ u, u = max 1 y → Nb (V.setCell ⟨b, 291, none⟩ (.int .i64 u)).drew b (upF g 291 (max (g 291) (lgA g N N)))) := (show ∀ u, _ from fun u hu => by
        have h5 := (H2.out.set (i := 291) (by omega) u).on (Below.refl _ _).drew
        rw [HG.out, hy, ← hu]
        exact h5)
      rw [← hg] at HZ
      have HB5 : Hid (∀ u, Below B w (V.setCell ⟨b, 291, none⟩ (.int .i64 u)).drew) := (show ∀ u, _ from fun u => (HB2.out.setCell hB _).drew)
      clear hg hy
      go_region_with (first | (go_at_call 42; refine HLG.out.mono ?_; rintro e w' ⟨rfl, rfl⟩) | fail)
      all_goals go_wp2_with fail
      all_goals (first | go_end0 | ((try simp only [Exit.inBlock, Exit.then]); refine bodyPost_ret (results_none rfl _ _ _) rfl ?_))
      all_goals exact ⟨rfl, HZ.out _ (by omega), HB5.out _⟩
    · have hL : loF f N t = upF f 291 (max (f 291) (lgA f N N)) := by
        unfold loF
        rw [if_pos ha]
        simp only [if_neg e0]
      rw [hL]
      have HE : Hid ((f 290 == -1) = false) := (show _ = _ from by rw [beq_eq_false_iff_ne]; exact e0)
      clear ha e1 h hN hL e0
      go_enter Try.func23, Try.ntmps23
      go_wp2_with fail
      refine HA.out.mono ?_
      rintro e V ⟨rfl, hb1⟩
      have h1 : Nb V b f := HH.out.on hb1
      have HB2 : Hid (Below B w V) := hb1.mono (by omega)
      have H2 : Hid (Nb V b f) := h1
      have c3 := h1.cell (i := 290) (by omega)
      have c4 := h1.cell (i := 291) (by omega)
      have z4 := h1.fz 291
      have e3 := HE.out
      have H3 : Hid (Nb V.drew b f) := H2.out.on (Below.refl _ _).drew
      have HLG : Hid (Calls Try.prog 42 #[.pointer (some ⟨b, 0, none⟩)] V.drew fun e w' => e = .returned (.int .i64 (lgA f N N)) ∧ V.drew = w') := longest_any b f N _ H3.out HF.out n1 n2
      generalize hx : f 291 = x at *
      generalize hy : lgA f N N = y at *
      generalize f 290 = u at *
      have HZ : Hid (∀ u, u = max x y → Nb (V.setCell ⟨b, 291, none⟩ (.int .i64 u)).drew b (upF f 291 (max (f 291) (lgA f N N)))) := (show ∀ u, _ from fun u hu => by
        have h5 := (H2.out.set (i := 291) (by omega) u).on (Below.refl _ _).drew
        rw [hx, hy, ← hu]
        exact h5)
      have HB5 : Hid (∀ u, Below B w (V.setCell ⟨b, 291, none⟩ (.int .i64 u)).drew) := (show ∀ u, _ from fun u => (HB2.out.setCell hB _).drew)
      clear hx hy hb1 h1 HA
      go_wp2_with fail
      go_region_with (first | (go_at_call 42; refine HLG.out.mono ?_; rintro e w' ⟨rfl, rfl⟩) | fail)
      all_goals go_wp2_with fail
      all_goals (first | go_end0 | ((try simp only [Exit.inBlock, Exit.then]); refine bodyPost_ret (results_none rfl _ _ _) rfl ?_))
      all_goals exact ⟨rfl, HZ.out _ (by omega), HB5.out _⟩
  · have e1 : decide (alP f N) = false := by simpa using ha
    rw [e1] at HA
    have hL : loF f N t = upF f 290 (-1) := by unfold loF; rw [if_neg ha]
    rw [hL]
    clear ha e1 h hN hL
    go_enter Try.func23, Try.ntmps23
    go_wp2_with fail
    refine HA.out.mono ?_
    rintro e w1 ⟨rfl, hb1⟩
    have h1 : Nb w1 b f := HH.out.on hb1
    have HB1 : Hid (Below B w w1) := hb1.mono (by omega)
    have H1 : Hid (Nb w1 b f) := h1
    have c3 := h1.cell (i := 290) (by omega)
    have z3 := h1.fz 290
    clear hb1 h1 HA
    go_wp2_with fail
    (first | go_end0 | ((try simp only [Exit.inBlock, Exit.then]); refine bodyPost_ret (results_none rfl _ _ _) rfl ?_))
    exact ⟨rfl, H1.out.set (by omega) (-1), HB1.out.setCell hB _⟩
end Go.Proofs.Ytfodkackfahldaa.Lo
