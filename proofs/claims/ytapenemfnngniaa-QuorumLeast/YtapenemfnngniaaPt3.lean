import Derived.Test.YtapenemfnngniaaPs3
namespace Go.Proofs.Ytapenemfnngniaa.Qm
open Go.RowKit Mb
set_option linter.unusedVariables false
set_option maxRecDepth 100000
set_option linter.unusedSimpArgs false
section
variable {w w' W : World} {B : Nat}
theorem Ll.keep {P : Nat → Prop} {base n : Nat} {v : Value} {E : List El} (h : Ll w base n v E) (k : Kept w w' P) (hr : ∀ g, v.ownBlock = some g → ¬ P g) (ht : ∀ g cur, w.heap[g]? = some (.cells cur 3 (0, 0)) → ¬ P g) : Ll w' base n v E :=
  ⟨k.owns h.row hr, fun e he => own_keepT (h.el e he) k ht⟩
structure Gw (w : World) (B n : Nat) (v : Value) (E : List El) (j : Nat) (g : Value) (wr : World) : Prop where
  row : ∃ X, X.length = j ∧ wr.ownsRow B 22 1 g (E.length + j) (E.map El.v ++ X)
  ll : Ll wr B n v E
  kp : Kept w wr (fun i => some i = v.ownBlock)
  at_ : (∃ gb c, v = .slice (some ⟨gb, 0, none⟩) E.length c ∧ g = .slice (some ⟨gb, 0, none⟩) (E.length + j) c) ∨ (g = .slice none 0 0 ∧ v = .slice none 0 0) ∨ (∃ q, g.ownBlock = some q ∧ w.heap.size ≤ q)
theorem Gw.start {B n : Nat} {v : Value} {E : List El} (h : Ll w B n v E) : Gw w B n v E 0 v w :=
  ⟨⟨[], rfl, by simpa using h.row⟩, h, Kept.refl _ _, by
    rcases h.row.2 with ⟨h1, h2⟩ | ⟨g, cap, cur, hv, _⟩
    · exact .inr (.inl ⟨h1, h1⟩)
    · exact .inl ⟨g, cap, hv, hv⟩⟩
theorem Gw.still {B n j : Nat} {v g : Value} {E : List El} {wr X2 : World} (h : Gw w B n v E j g wr) (hb : Below wr.heap.size wr X2) : Gw w B n v E j g X2 :=
  ⟨by obtain ⟨X, h1, h2⟩ := h.row; exact ⟨X, h1, own_still h2 hb⟩, h.ll.still hb, h.kp.trans (Kept.ofBelow hb _), h.at_⟩
theorem Gw.next {B n j : Nat} {v g g' y : Value} {E : List El} {wr w2 : World} (h : Gw w B n v E j g wr) (X : List Value) (hX : X.length = j)
    (h1 : w2.ownsRow B 22 1 g' (E.length + j + 1) (E.map El.v ++ X ++ [y])) (h2 : wr.grownBy w2 g.ownBlock) (h3 : (∃ gb c, g = .slice (some ⟨gb, 0, none⟩) (E.length + j) c ∧ g' = .slice (some ⟨gb, 0, none⟩) (E.length + j + 1) c) ∨ g'.ownBlock = some wr.heap.size) (h4 : w2.ownsRow B 22 1 g (E.length + j) (E.map El.v ++ X)) (hlt : ∀ q, v.ownBlock = some q → q < w.heap.size) : Gw w B n v E (j + 1) g' w2 := by
  have k := Kept.ofGrown h2
  have hk : ∀ g2 cur, wr.heap[g2]? = some (.cells cur 3 (0, 0)) → ¬ some g2 = g.ownBlock := fun g2 cur hg2 e2 => by
    obtain ⟨X0, _, hr0⟩ := h.row
    obtain ⟨c3, h5⟩ := own_type hr0 e2.symm
    exact ty_ne hg2 h5 (by decide) rfl
  have hkp : Kept w w2 (fun i => some i = v.ownBlock) := h.kp.step k fun q hq => by
    rcases h.at_ with ⟨gb, c, e1, e2⟩ | ⟨e1, e2⟩ | ⟨q2, e1, e2⟩
    · rw [e2] at hq; rw [e1]; exact .inl hq
    · rw [e1] at hq; cases hq
    · rw [e1] at hq
      simp only [Option.some.injEq] at hq
      exact .inr (by omega)
  have hsz := h.kp.size
  refine ⟨⟨X ++ [y], by simp [hX], by simpa [Nat.add_assoc] using h1⟩, ⟨?_, fun e he => own_keepT (h.ll.el e he) k hk⟩, hkp, ?_⟩
  · rcases h.at_ with ⟨gb, c, e1, e2⟩ | ⟨e1, e2⟩ | ⟨q2, e1, e2⟩
    · subst e1
      subst e2
      exact own_cut h4 (by simp)
    · exact k.owns h.ll.row (fun q hq => by rw [e2] at hq; cases hq)
    · exact k.owns h.ll.row (fun q hq e3 => by
        have := hlt q hq
        rw [e1] at e3
        simp only [Option.some.injEq] at e3
        omega)
  · rcases h3 with ⟨gb, c, e1, e2⟩ | e1
    · rcases h.at_ with ⟨gb', c', e3, e4⟩ | ⟨e3, e4⟩ | ⟨q2, e3, e4⟩
      · rw [e1] at e4
        simp only [Value.slice.injEq, Option.some.injEq, Addr.mk.injEq] at e4
        obtain ⟨⟨rfl, -⟩, -, rfl⟩ := e4
        exact .inl ⟨gb, c, e3, e2⟩
      · rw [e1] at e3; cases e3
      · rw [e1] at e3
        refine .inr (.inr ⟨q2, ?_, e4⟩)
        rw [e2]
        exact e3
    · exact .inr (.inr ⟨_, e1, hsz⟩)
set_option maxHeartbeats 4000000 in
theorem grown_yes {B1 B2 n : Nat} {v1 v2 : Value} {E1 E2 : List El} (h1 : Ll w B1 n v1 E1) (h2 : Ll w B2 n v2 E2) (he : E1.map El.s = E2.map El.s) (hn : n ≤ 17592186044416) (hN : E1.length ≤ 100000) (hB1 : B1 ≤ w.heap.size) (hap : ∀ g, v1.ownBlock = some g → v2.ownBlock ≠ some g) : Calls Try.prog 17 #[v1, v2] w fun e w' => e = .returned (.bool true) ∧ Ll w' B1 n v1 E1 ∧ Kept w w' (fun i => some i = v1.ownBlock) := by
  have hlt : ∀ q, v1.ownBlock = some q → q < w.heap.size := fun q hq => (World.ownsRow.lt h1.row q hq).2
  have HLt : Hid (∀ q, v1.ownBlock = some q → q < w.heap.size) := hlt
  have HG0 : Hid (Gw w B1 n v1 E1 0 v1 w) := Gw.start h1
  have HL2 : Hid (∀ wr, Kept w wr (fun i => some i = v1.ownBlock) → Ll wr B2 n v2 E2) := fun wr k => h2.keep k (fun g hg e => hap g e.symm hg) (fun g cur hg e => by
    obtain ⟨c3, h5⟩ := own_type h1.row e.symm
    exact ty_ne hg h5 (by decide) rfl)
  have HE : Hid (E1.map El.s = E2.map El.s) := he
  obtain ⟨a1, c1, hv1⟩ := own_shape h1.row
  have Hv1 : Hid (v1 = .slice a1 E1.length c1) := hv1
  have hv1' : v1 = .slice a1 E1.length c1 := hv1
  clear h1 h2 he hap hlt hv1
  obtain ⟨N, hNe⟩ : ∃ N, E1.length = N := ⟨_, rfl⟩
  have HNe : Hid (E1.length = N) := hNe
  rw [hNe] at hN hv1'
  clear hNe
  subst hv1'
  go_enter Try.func17, Try.ntmps17
  go_wp2_with (fail)
  go_loopw [5, 6] (fun g i wr => ∃ k : Nat, k ≤ 64 ∧ i = .int .i64 (k : Int) ∧ Hid (Gw w B1 n (.slice a1 N c1) E1 k g wr)) (fun _ i _ => 64 - (intOf i).toNat)
  case atStart => exact ⟨0, Nat.zero_le _, rfl, HG0.out⟩
  case round =>
    obtain ⟨k, hk, rfl, HI⟩ := hrel
    clear HG0
    obtain ⟨X, hX, hrow⟩ := HI.out.row
    obtain ⟨ga, gc, hg⟩ := own_shape hrow
    have HX : Hid (X.length = k) := hX
    rw [HNe.out] at hg
    rw [hg] at HI hrow
    rw [hg]
    clear hg hX
    by_cases hlt : k < 64
    · have i2 : (k : Int) < 64 := by omega
      obtain ⟨X1, hX1⟩ : ∃ Y, wr.alloc (.cells #[.int .i64 (-9)] 3) = Y := ⟨_, rfl⟩
      obtain ⟨X2, hX2⟩ : ∃ Y, X1.alloc (.cells #[.slice (some ⟨wr.heap.size, 0, none⟩) 1 1] 22) = Y := ⟨_, rfl⟩
      have b1 : Below wr.heap.size wr X1 := by rw [← hX1]; exact balloc (Below.refl _ _)
      have b2 : Below X1.heap.size X1 X2 := by rw [← hX2]; exact balloc (Below.refl _ _)
      have HB2 : Hid (Below wr.heap.size wr X2) := bstep b1 b2
      have HX2b : Hid (X2.heap[X1.heap.size]? = some (.cells #[.slice (some ⟨wr.heap.size, 0, none⟩) 1 1] 22 (0, 0))) := by rw [← hX2]; exact heap_alloc_new _ _
      have HG2 : Hid (Gw w B1 n (.slice a1 N c1) E1 k (.slice ga (N + k) gc) X2) := HI.out.still HB2.out
      have Hrow2 : Hid (X2.ownsRow B1 22 1 (.slice ga (N + k) gc) (N + k) (E1.map El.v ++ X)) := by
        have := own_still hrow HB2.out
        rw [HNe.out] at this
        exact this
      have Hsz : Hid (B1 ≤ X2.heap.size) := Nat.le_trans hB1 (Nat.le_trans HI.out.kp.size HB2.out.size)
      have HNw : Hid (∀ j u, [Value.slice (some ⟨wr.heap.size, 0, none⟩) 1 1][j]? = some u → X2.cell? ((⟨wr.heap.size + 1, 0, none⟩ : Addr).add j) = some u) := by
        have hs : X1.heap.size = wr.heap.size + 1 := by rw [← hX1]; simp
        rw [← hs, ← hX2]
        exact cell_one_new X1 _ _
      clear hrow b1 b2
      obtain ⟨i0, hi, hz0, hz1, hz2⟩ := iss_info
      subst hX2
      subst hX1
      go_wp2_with (first
        | (at_builtin; refine wpList_app_keep rfl (.tmp 12) (.tmp 14) 32 rfl B1 22 i0 (.slice none 0 0) 24 Try.underlying32 hi hz0 hz1 hz2 (by rfl) _ (N + k) (E1.map El.v ++ X) rfl Hrow2.out ⟨wr.heap.size + 1, 0, none⟩ 1 1 [.slice (some ⟨wr.heap.size, 0, none⟩) 1 1] rfl rfl HNw.out (by intro u hu; rw [List.mem_singleton.1 hu]; rfl) (by decide) (by unfold maxLen; omega) (by omega) Hsz.out ?_)
        | fail)
      intro v' w2 q1 q2 q3 q4
      have HN : Hid (Gw w B1 n (.slice a1 N c1) E1 (k + 1) v' w2) := HG2.out.next X HX.out (by rw [HNe.out, List.append_assoc]; exact q1) q2 (by
        rw [HNe.out]
        rcases q3 with ⟨g, cap, ⟨e1, e2⟩, e3⟩ | e3
        · exact .inl ⟨g, cap, by rw [e1, e2], e3⟩
        · exact .inr (by rw [e3]; simp)) (by rw [HNe.out]; exact q4) HLt.out
      clear q1 q2 q3 q4
      go_wp2_with (fail)
      exact ⟨⟨k + 1, by omega, by go_num, HN.out⟩, by simp [intOf]; omega⟩
    · have i2 : ¬ (k : Int) < 64 := by omega
      obtain rfl : k = 64 := by omega
      have hcap : N + 64 ≤ gc := by
        rcases hrow.2 with ⟨h1, h2⟩ | ⟨g, cap, cur, hv, hB, hg, hnc, hcm, hcs, htk⟩
        · omega
        · simp only [Value.slice.injEq] at hv
          omega
      have hga : ∃ gb, ga = some ⟨gb, 0, none⟩ := by
        obtain ⟨gb, c, e⟩ := own_some hrow (by omega)
        simp only [Value.slice.injEq] at e
        exact ⟨gb, e.1⟩
      obtain ⟨gb, rfl⟩ := hga
      have HLg : Hid (Ll wr B1 n (.slice (some ⟨gb, 0, none⟩) N gc) E1) := ⟨by
        have := hrow
        rw [HNe.out] at this
        have := own_cut this (by simp [HNe.out])
        rw [HNe.out]
        exact this, HI.out.ll.el⟩
      have HLi : Hid (Calls Try.prog 15 #[.slice (some ⟨gb, 0, none⟩) N gc, v2] wr fun e w' => e = .returned (.bool true) ∧ Below wr.heap.size wr w') := lists_yes HLg.out (HL2.out wr HI.out.kp) HE.out hn (by rw [HNe.out]; exact hN)
      have j1 : (N : Int) ≤ (gc : Int) := by omega
      have j0 : (0 : Int) ≤ (N : Int) := Int.natCast_nonneg _
      have HEnd : Hid (∀ Y, Below wr.heap.size wr Y → Ll Y B1 n (.slice a1 N c1) E1 ∧ Kept w Y (fun i => some i = (Value.slice a1 N c1).ownBlock)) := fun Y hY => ⟨HI.out.ll.still hY, HI.out.kp.trans (Kept.ofBelow hY _)⟩
      clear hrow HX
      go_wp2_with (first
        | (go_at_call 15; refine HLi.out.mono ?_; rintro e wn ⟨rfl, hbn⟩; have HBn : Hid (Below wr.heap.size wr wn) := hbn; clear hbn)
        | fail)
      go_ret
      exact ⟨rfl, (HEnd.out _ HBn.out).1, (HEnd.out _ HBn.out).2⟩
end
end Go.Proofs.Ytapenemfnngniaa.Qm
