import Derived.Test.YtghihdenbdnnjaaLkf
namespace Go.Proofs.Ytghihdenbdnnjaa.Ln
open Go.RowKit Mb
set_option linter.unusedVariables false
set_option maxRecDepth 100000
set_option linter.unusedSimpArgs false
section
variable {w w' W : World} {B : Nat} {S S' : St}
def takeN (f : Nat → Option Bd) : Nat → Nat → List Bd
  | _, 0 => []
  | p, m + 1 => match f (p + 1) with
    | some b => b :: takeN f (p + 1) m
    | none => []
theorem takeN_eq (f : Nat → Option Bd) : ∀ (m p : Nat) (bl : List Bd), bl.length ≤ m → (∀ i, i < bl.length → f (p + i + 1) = bl[i]?) → (bl.length = m ∨ f (p + bl.length + 1) = none) → takeN f p m = bl
  | 0, p, bl, h, _, _ => by
      obtain rfl : bl = [] := List.eq_nil_of_length_eq_zero (by omega)
      rfl
  | m + 1, p, [], _, _, h => by
      have : f (p + 1) = none := by simpa using h
      simp [takeN, this]
  | m + 1, p, b :: bl, h1, h2, h3 => by
      have e0 : f (p + 1) = some b := by simpa using h2 0 (by simp)
      simp only [takeN, e0]
      have e := takeN_eq f m (p + 1) bl (by simpa using h1) (fun i hi => by
        have := h2 (i + 1) (by simpa using hi)
        rw [show p + 1 + i + 1 = p + (i + 1) + 1 by omega, this]; simp) (by
        rcases h3 with h3 | h3
        · left; simpa using h3
        · right; rw [show p + 1 + bl.length + 1 = p + (b :: bl).length + 1 by simp; omega]; exact h3)
      rw [e]
theorem takeN_len (f : Nat → Option Bd) : ∀ (m p : Nat), (takeN f p m).length ≤ m
  | 0, p => by simp [takeN]
  | m + 1, p => by
      simp only [takeN]
      split
      · have := takeN_len f m (p + 1); simp; omega
      · simp
theorem takeN_at (f : Nat → Option Bd) : ∀ (m p i : Nat), i < (takeN f p m).length → f (p + i + 1) = (takeN f p m)[i]?
  | 0, p, i, h => by simp [takeN] at h
  | m + 1, p, i, h => by
      cases e : f (p + 1) with
      | none => simp [takeN, e] at h
      | some b =>
        simp only [takeN, e] at h ⊢
        cases i with
        | zero => simpa using e
        | succ i =>
          have := takeN_at f m (p + 1) i (by simpa using h)
          rw [show p + (i + 1) + 1 = p + 1 + i + 1 by omega, this]; simp
theorem takeN_end (f : Nat → Option Bd) : ∀ (m p : Nat), (takeN f p m).length = m ∨ f (p + (takeN f p m).length + 1) = none
  | 0, p => by simp [takeN]
  | m + 1, p => by
      cases e : f (p + 1) with
      | none => right; simp [takeN, e]
      | some b =>
        simp only [takeN, e]
        rcases takeN_end f m (p + 1) with h | h
        · left; simp [h]
        · right; rw [show p + (b :: takeN f (p + 1) m).length + 1 = p + 1 + (takeN f (p + 1) m).length + 1 by simp; omega]; exact h
theorem step_push {ops : Array Oper} {o : Oper} {a : Act} {K : Act → World → Prop} {Q : Exit → Act → World → Prop} {E : Prop} (hgd : o.guard = none) (s x : Operand)
    (ho : o.op = .call { callee := .builtin .append, args := #[s, x], argTypes := #[33, 33] })
    (w0 : World) (base : Nat) (v : Value) (vals : List Value) (y : Value) (hs : a.eval s = v) (n : Nat) (hown : w0.ownsRow base 25 1 v n vals) (hw : w = w0.alloc (.cells #[y] 25)) (hx : a.eval x = .slice (some ⟨w0.heap.size, 0, none⟩) 1 1) (hy : y.oneCell' = true)
    (hn : n + 1 ≤ 1000000) (hbase : base ≤ w0.heap.size)
    (h : ∀ g cap w', w'.ownsRow base 25 1 (.slice (some ⟨g, 0, none⟩) (n + 1) cap) (n + 1) (vals ++ [y]) → Kept w0 w' (fun k => v.ownBlock = some k) → (v.ownBlock = some g ∨ w0.heap.size ≤ g) → g < w'.heap.size → K (a.put o.dst (.slice (some ⟨g, 0, none⟩) (n + 1) cap)) w') : if Region.wanted o (yielded ops a.tmps) = true then Oper.wp Try.prog o a w K Q else E := by
  obtain ⟨i0, hi, hz0, hz1, hz2⟩ := rows_info
  subst hw
  refine step_append_lies _ hgd s x 33 ho base 25 i0 (.slice none 0 0) 1 24 Try.underlying33 hi hz0 hz1 hz2 rfl (by decide) v n vals hs (World.ownsRow.alloc hown _) ⟨w0.heap.size, 0, none⟩ 1 1 [y] hx rfl (cell_one_new _ _ _) (by intro u hu; simp at hu; subst hu; exact hy) (by omega) (by unfold maxLen; omega) (by omega) (by simp; omega) _ rfl fun g cap w' h2 h3 h4 h5 => h g cap w' h2 ?_ ?_ h5
  · exact (Kept.ofBelow ((Below.refl _ w0).alloc (Nat.le_refl _) (.cells #[y] 25)) _).step (Kept.ofGrown h3) (fun j hj => .inl hj.symm)
  · rcases h4 with h4 | h4
    · exact .inl h4
    · right; rw [h4]; simp
def slen : Value → Nat
  | .slice _ n _ => n
  | _ => 0
structure NextO (w w' : World) (S : St) (most : Nat) (e : Ending) : Prop where
  out : ∃ a c, e = .returned (.slice a (takeN S.f S.p most).length c) ∧ w'.ownsRow w.heap.size 25 1 (.slice a (takeN S.f S.p most).length c) (takeN S.f S.p most).length ((takeN S.f S.p most).map Bd.v) ∧ Below w.heap.size w w'
theorem bel_kept {w0 w1 w2 : World} {v : Value} (h : Below w0.heap.size w0 w1) (k : Kept w1 w2 (fun j => v.ownBlock = some j)) (hv : ∀ j, v.ownBlock = some j → w0.heap.size ≤ j) : Below w0.heap.size w0 w2 :=
  ⟨k.os.trans h.os, k.tape.trans h.tape, k.output.trans h.output, Nat.le_trans h.size k.size, fun i hi => (k.block i (Nat.lt_of_lt_of_le hi h.size) (fun e => by have := hv i e; omega)).trans (h.block i hi)⟩
set_option maxHeartbeats 1000000 in
theorem next_any {eb off most : Nat} (h : S.Ok w B) (c0 : w.cell? ⟨eb, off, none⟩ = some (.int .i64 (S.p : Int))) (c1 : w.cell? ⟨eb, off + 1, none⟩ = some S.ring) (hm : most ≤ 20000) : Calls Try.prog 41 #[.pointer (some ⟨eb, off, none⟩), .int .i64 (most : Int)] w fun e w' => NextO w w' S most e := by
  have hle := h.le
  have hp62 := h.p62
  have He : Hid (eb < w.heap.size) := World.block_lt_of_cell? w _ c0
  have HH : Hid (∀ w' n, Below w.heap.size w w' → S.p < n → n ≤ 4611686018427427905 → Calls Try.prog 38 #[.pointer (some ⟨eb, off, none⟩), .int .i64 (n : Int)] w' fun e w2 => e = .returned (.bool (S.f n).isSome) ∧ w' = w2) := fun w' n hb h1 h2 => has_any (h.still hb) (below_at hb c1) h1 h2
  have Hh : Hid (S.Ok w B) := h
  have HC0 : Hid (w.cell? ⟨eb, off, none⟩ = some (.int .i64 (S.p : Int))) := c0
  have HC1 : Hid (w.cell? ⟨eb, off + 1, none⟩ = some S.ring) := c1
  clear h c0 c1
  go_enter Try.func41, Try.ntmps41
  go_wp2
  go_loopw [5] (fun v5 wr => ∃ (bl : List Bd) (a : Option Addr) (k c : Nat), v5 = .slice a k c ∧ Hid (bl.length = k) ∧ k ≤ most ∧ Hid (∀ i, i < k → S.f (S.p + i + 1) = bl[i]?) ∧ Hid (wr.ownsRow w.heap.size 25 1 (.slice a k c) k (bl.map Bd.v)) ∧ Hid (Below w.heap.size w wr)) (fun v5 _ => most - slen v5)
  case atStart => exact ⟨[], none, 0, 0, rfl, rfl, Nat.zero_le _, (fun i hi => by omega), ⟨rfl, .inl ⟨rfl, rfl⟩⟩, Below.refl _ _⟩
  case round =>
    obtain ⟨bl, a, k, c, rfl, Hk, hk, Hf, Ho, HB⟩ := hrel
    have x0 : wr.cell? ⟨eb, off, none⟩ = some (.int .i64 (S.p : Int)) := below_at HB.out HC0.out
    have HEnd : Hid ((k = most ∨ S.f (S.p + k + 1) = none) → takeN S.f S.p most = bl) := (show _ → _ from fun hh => takeN_eq S.f most S.p bl (by rw [Hk.out]; exact hk) (by rw [Hk.out]; exact Hf.out) (by rw [Hk.out]; exact hh))
    by_cases hlt : k < most
    · have hd : decide ((k : Int) < (most : Int)) = true := by rw [decide_eq_true_eq]; omega
      have HH1 : Hid (Calls Try.prog 38 #[.pointer (some ⟨eb, off, none⟩), .int .i64 ((S.p : Int) + (k : Int) + 1)] wr fun e w2 => e = .returned (.bool (S.f (S.p + k + 1)).isSome) ∧ wr = w2) := (show Calls _ _ _ _ _ from by
        have := HH.out wr (S.p + k + 1) HB.out (by omega) (by omega)
        rw [show ((S.p + k + 1 : Nat) : Int) = (S.p : Int) + (k : Int) + 1 by omega] at this
        exact this)
      cases hfe : S.f (S.p + k + 1) with
      | none =>
        rw [hfe] at HH1
        have HE := HEnd.out (.inr hfe)
        have HX : Hid (NextO w wr S most (.returned (.slice a k c))) := (show NextO _ _ _ _ _ from ⟨⟨a, c, by rw [HE, Hk.out], by rw [HE, Hk.out]; exact Ho.out, HB.out⟩⟩)
        clear HE hfe HEnd
        go_wp2_with (first | (go_at_call 38; refine HH1.out.mono ?_; rintro e w2 ⟨rfl, rfl⟩) | fail)
        go_ret
        exact HX.out
      | some b =>
        rw [hfe] at HH1
        have hin := Hh.out.inw _ _ hfe
        have hL : 0 < S.L := by omega
        have x1 : wr.cell? ⟨eb, off + 1, none⟩ = some (.slice (some ⟨S.rb, 0, none⟩) S.L S.L) := by rw [← ring_pos hL]; exact below_at HB.out HC1.out
        obtain ⟨m, hmm⟩ : ∃ m, (S.p + k + 1) % S.L = m := ⟨_, rfl⟩
        have hmL : m < S.L := by rw [← hmm]; exact Nat.mod_lt _ hL
        have Hrb : Hid (S.rb < w.heap.size) := (show S.rb < w.heap.size from (Hh.out.row hL).1.lt)
        obtain ⟨bk, hbk⟩ : ∃ bk, b.k = bk := ⟨_, rfl⟩
        obtain ⟨bl2, hbl⟩ : ∃ bl2, b.bs.length = bl2 := ⟨_, rfl⟩
        have Hbv : Hid (b.v = .slice (some ⟨bk, 0, none⟩) bl2 bl2) := (show b.v = _ from by unfold Bd.v; rw [hbk, hbl])
        have x2 : wr.cell? ⟨S.rb, m * 2 + 1, none⟩ = some (.slice (some ⟨bk, 0, none⟩) bl2 bl2) := by
          rw [← Hbv.out]
          refine below_at HB.out ?_
          have := St.cell_th (Hh.out.row hL).1 hmL
          rw [this, ← hmm, nm_mod hin.1 hin.2, hfe]
          rfl
        have HP : Hid (∀ w', Calls Try.prog 46 #[.slice (some ⟨S.rb, 0, none⟩) S.L S.L, .int .i64 ((S.p : Int) + (k : Int) + 1)] w' fun e w2 => e = .returned (.pointer (some ⟨S.rb, m * 2, none⟩)) ∧ w' = w2) := fun w' => by rw [← hmm, show (S.p : Int) + (k : Int) + 1 = ((S.p + k + 1 : Nat) : Int) by omega]; exact place_any hL (by omega) hle
        have HF2 : Hid (∀ i, i < k + 1 → S.f (S.p + i + 1) = (bl ++ [b])[i]?) := (show ∀ i, i < k + 1 → S.f (S.p + i + 1) = (bl ++ [b])[i]? from fun i hi => by
          have hk2 := Hk.out
          by_cases e : i < k
          · rw [List.getElem?_append_left (by omega)]; exact Hf.out i e
          · obtain rfl : i = k := by omega
            rw [List.getElem?_append_right (by omega), hk2, Nat.sub_self]; exact hfe)
        have HK2 : Hid ((bl ++ [b]).length = k + 1) := (show (bl ++ [b]).length = k + 1 from by rw [List.length_append, Hk.out]; rfl)
        clear hin hfe hmm hbk hbl HEnd
        · go_wp2_with (first | (go_at_call 38; refine HH1.out.mono ?_; rintro e w2 ⟨rfl, rfl⟩) | fail)
          refine wp_region_held_drew (S := (fun w' => w'.cell? ⟨eb, off, none⟩ = some (.int .i64 (S.p : Int)) ∧ w'.cell? ⟨eb, off + 1, none⟩ = some (.slice (some ⟨S.rb, 0, none⟩) S.L S.L) ∧ w'.cell? ⟨S.rb, m * 2 + 1, none⟩ = some (.slice (some ⟨bk, 0, none⟩) bl2 bl2))) (by kernel_rfl) ⟨below_at (Below.refl _ _).drew x0, below_at (Below.refl _ _).drew x1, below_at (Below.refl _ _).drew x2⟩ (fun hHeld => ?_)
          simp only [Act.put, List.size_toArray, List.length_cons, List.length_nil, Nat.zero_add]
          refine wpAnyH_take (i := 0) (v := .slice a k c) rfl (by kernel_rfl) (by kernel_rfl) (by kernel_rfl) (fun _ _ _ h => h) (Or.inl ⟨by rfl, fun w' hS => by go_simp⟩) hHeld ?_
          simp only [Act.put, List.getElem_toArray, List.getElem_cons_zero, List.getElem_cons_succ, List.setIfInBounds_toArray, List.set_cons_zero, List.set_cons_succ]
          refine wpAnyH_take (i := 1) (v := .pointer (some ⟨eb, off, none⟩)) rfl (by kernel_rfl) (by kernel_rfl) (by kernel_rfl) (fun _ _ _ h => h) (Or.inl ⟨by rfl, fun w' hS => by go_simp⟩) hHeld ?_
          simp only [Act.put, List.getElem_toArray, List.getElem_cons_zero, List.getElem_cons_succ, List.setIfInBounds_toArray, List.set_cons_zero, List.set_cons_succ]
          refine wpAnyH_take (i := 2) (v := .pointer (some ⟨eb, off, none⟩)) rfl (by kernel_rfl) (by kernel_rfl) (by kernel_rfl) (fun _ _ _ h => h) (Or.inl ⟨by rfl, fun w' hS => by go_simp⟩) hHeld ?_
          simp only [Act.put, List.getElem_toArray, List.getElem_cons_zero, List.getElem_cons_succ, List.setIfInBounds_toArray, List.set_cons_zero, List.set_cons_succ]
          refine wpAnyH_take (i := 3) (v := .pointer (some ⟨eb, off + 1, none⟩)) rfl (by kernel_rfl) (by kernel_rfl) (by kernel_rfl) (fun _ _ _ h => h) (Or.inl ⟨by rfl, fun w' hS => by go_simp⟩) hHeld ?_
          simp only [Act.put, List.getElem_toArray, List.getElem_cons_zero, List.getElem_cons_succ, List.setIfInBounds_toArray, List.set_cons_zero, List.set_cons_succ]
          refine wpAnyH_take (i := 4) (v := .slice (some ⟨S.rb, 0, none⟩) S.L S.L) rfl (by kernel_rfl) (by kernel_rfl) (by kernel_rfl) (fun _ _ _ h => h) (Or.inl ⟨by rfl, fun w' hS => by (obtain ⟨s0, s1, s2⟩ := hS; go_simp)⟩) hHeld ?_
          simp only [Act.put, List.getElem_toArray, List.getElem_cons_zero, List.getElem_cons_succ, List.setIfInBounds_toArray, List.set_cons_zero, List.set_cons_succ]
          refine wpAnyH_take (i := 5) (v := .pointer (some ⟨eb, off, none⟩)) rfl (by kernel_rfl) (by kernel_rfl) (by kernel_rfl) (fun _ _ _ h => h) (Or.inl ⟨by rfl, fun w' hS => by go_simp⟩) hHeld ?_
          simp only [Act.put, List.getElem_toArray, List.getElem_cons_zero, List.getElem_cons_succ, List.setIfInBounds_toArray, List.set_cons_zero, List.set_cons_succ]
          refine wpAnyH_take (i := 6) (v := .pointer (some ⟨eb, off, none⟩)) rfl (by kernel_rfl) (by kernel_rfl) (by kernel_rfl) (fun _ _ _ h => h) (Or.inl ⟨by rfl, fun w' hS => by go_simp⟩) hHeld ?_
          simp only [Act.put, List.getElem_toArray, List.getElem_cons_zero, List.getElem_cons_succ, List.setIfInBounds_toArray, List.set_cons_zero, List.set_cons_succ]
          refine wpAnyH_take (i := 7) (v := .pointer (some ⟨eb, off, none⟩)) rfl (by kernel_rfl) (by kernel_rfl) (by kernel_rfl) (fun _ _ _ h => h) (Or.inl ⟨by rfl, fun w' hS => by go_simp⟩) hHeld ?_
          simp only [Act.put, List.getElem_toArray, List.getElem_cons_zero, List.getElem_cons_succ, List.setIfInBounds_toArray, List.set_cons_zero, List.set_cons_succ]
          refine wpAnyH_take (i := 8) (v := .int .i64 (S.p : Int)) rfl (by kernel_rfl) (by kernel_rfl) (by kernel_rfl) (fun _ _ _ h => h) (Or.inl ⟨by rfl, fun w' hS => by (obtain ⟨s0, s1, s2⟩ := hS; go_simp)⟩) hHeld ?_
          simp only [Act.put, List.getElem_toArray, List.getElem_cons_zero, List.getElem_cons_succ, List.setIfInBounds_toArray, List.set_cons_zero, List.set_cons_succ]
          refine wpAnyH_take (i := 9) (v := .slice a k c) rfl (by kernel_rfl) (by kernel_rfl) (by kernel_rfl) (fun _ _ _ h => h) (Or.inl ⟨by rfl, fun w' hS => by go_simp⟩) hHeld ?_
          simp only [Act.put, List.getElem_toArray, List.getElem_cons_zero, List.getElem_cons_succ, List.setIfInBounds_toArray, List.set_cons_zero, List.set_cons_succ]
          refine wpAnyH_take (i := 10) (v := .int .i64 (k : Int)) rfl (by kernel_rfl) (by kernel_rfl) (by kernel_rfl) (fun _ _ _ h => h) (Or.inl ⟨by rfl, fun w' hS => by go_simp⟩) hHeld ?_
          simp only [Act.put, List.getElem_toArray, List.getElem_cons_zero, List.getElem_cons_succ, List.setIfInBounds_toArray, List.set_cons_zero, List.set_cons_succ]
          refine wpAnyH_take (i := 11) (v := .int .i64 ((S.p : Int) + (k : Int))) rfl (by kernel_rfl) (by kernel_rfl) (by kernel_rfl) (fun _ _ _ h => h) (Or.inl ⟨by rfl, fun w' hS => by (go_simp; exact wrap_id (by omega) (by omega))⟩) hHeld ?_
          simp only [Act.put, List.getElem_toArray, List.getElem_cons_zero, List.getElem_cons_succ, List.setIfInBounds_toArray, List.set_cons_zero, List.set_cons_succ]
          refine wpAnyH_take (i := 12) (v := .int .i64 ((S.p : Int) + (k : Int) + 1)) rfl (by kernel_rfl) (by kernel_rfl) (by kernel_rfl) (fun _ _ _ h => h) (Or.inl ⟨by rfl, fun w' hS => by (go_simp; exact wrap_id (by omega) (by omega))⟩) hHeld ?_
          simp only [Act.put, List.getElem_toArray, List.getElem_cons_zero, List.getElem_cons_succ, List.setIfInBounds_toArray, List.set_cons_zero, List.set_cons_succ]
          refine wpAnyH_ready (rs := [13]) (by kernel_rfl) (by simp) ?_
          refine AllReadyH.cons rfl (fun K hK => ?_) AllReadyH.nil
          go_simp
          refine (HP.out _).mono ?_
          rintro e w2 ⟨rfl, rfl⟩
          refine hK.out _ _ ⟨below_at (Below.refl _ _).drew x0, below_at (Below.refl _ _).drew x1, below_at (Below.refl _ _).drew x2⟩ (fun hHeld => ?_)
          clear hK K
          refine wpAnyH_take (i := 14) (v := .pointer (some ⟨S.rb, m * 2, none⟩)) rfl (by kernel_rfl) (by kernel_rfl) (by kernel_rfl) (fun _ _ _ h => h) (Or.inl ⟨by rfl, fun w' hS => by go_simp⟩) hHeld ?_
          simp only [Act.put, List.getElem_toArray, List.getElem_cons_zero, List.getElem_cons_succ, List.setIfInBounds_toArray, List.set_cons_zero, List.set_cons_succ]
          refine wpAnyH_take (i := 15) (v := .pointer (some ⟨S.rb, m * 2 + 1, none⟩)) rfl (by kernel_rfl) (by kernel_rfl) (by kernel_rfl) (fun _ _ _ h => h) (Or.inl ⟨by rfl, fun w' hS => by go_simp⟩) hHeld ?_
          simp only [Act.put, List.getElem_toArray, List.getElem_cons_zero, List.getElem_cons_succ, List.setIfInBounds_toArray, List.set_cons_zero, List.set_cons_succ]
          refine wpAnyH_take (i := 16) (v := .slice (some ⟨bk, 0, none⟩) bl2 bl2) rfl (by kernel_rfl) (by kernel_rfl) (by kernel_rfl) (fun _ _ _ h => h) (Or.inl ⟨by rfl, fun w' hS => by (obtain ⟨s0, s1, s2⟩ := hS; go_simp)⟩) hHeld ?_
          simp only [Act.put, List.getElem_toArray, List.getElem_cons_zero, List.getElem_cons_succ, List.setIfInBounds_toArray, List.set_cons_zero, List.set_cons_succ]
          have y0 := below_at (Below.refl _ _).drew x0
          have y1 := below_at (Below.refl _ _).drew x1
          have y2 := below_at (Below.refl _ _).drew x2
          have HoD : Hid (wr.drew.ownsRow w.heap.size 25 1 (.slice a k c) k (bl.map Bd.v)) := own_still Ho.out (Below.refl _ _).drew
          have HbD : Hid (Below w.heap.size w wr.drew) := (show Below _ _ _ from HB.out.trans ((Below.refl _ _).drew.mono HB.out.size))
          clear Ho HB x0 x1 x2
          generalize wr.drew = D at *
          refine wpAnyH_ready (rs := [17]) (by kernel_rfl) (by simp) ?_
          refine AllReadyH.cons rfl (fun K hK => ?_) AllReadyH.nil
          go_simp
          refine hK.out _ _ ⟨below_at (balloc (Below.refl _ _)) y0, below_at (balloc (Below.refl _ _)) y1, below_at (balloc (Below.refl _ _)) y2⟩ (fun hHeld => ?_)
          clear hK K
          refine wpAnyH_ready (rs := [18]) (by kernel_rfl) (by simp) ?_
          refine AllReadyH.cons rfl (fun K hK => ?_) AllReadyH.nil
          refine step_push rfl (.tmp 22) (.tmp 39) rfl D w.heap.size (.slice a k c) (bl.map Bd.v) (.slice (some ⟨bk, 0, none⟩) bl2 bl2) rfl k HoD.out rfl rfl rfl (by omega) HbD.out.size (fun g cap D2 ho2 hk2 hg2 _ => ?_)
          have HO2 : Hid (D2.ownsRow w.heap.size 25 1 (.slice (some ⟨g, 0, none⟩) (k + 1) cap) (k + 1) ((bl ++ [b]).map Bd.v)) := (show D2.ownsRow _ _ _ _ _ _ from by rw [List.map_append]; show D2.ownsRow _ _ _ _ _ (bl.map Bd.v ++ [b.v]); rw [Hbv.out]; exact ho2)
          have hav : ∀ j, (Value.slice a k c).ownBlock = some j → w.heap.size ≤ j := fun j hj => (World.ownsRow.lt HoD.out j hj).1
          have HB2 : Hid (Below w.heap.size w D2) := bel_kept HbD.out hk2 hav
          have keep : ∀ (q i : Nat) (u : Value), q < w.heap.size → D.cell? ⟨q, i, none⟩ = some u → D2.cell? ⟨q, i, none⟩ = some u := fun q i u hq hc => kept_cell hk2 (fun e => by have := hav q e; omega) hc
          refine hK.out _ _ ⟨keep _ _ _ He.out y0, keep _ _ _ He.out y1, keep _ _ _ Hrb.out y2⟩ (fun hHeld => ?_)
          clear hK K keep hav ho2 hk2 hg2 y0 y1 y2
          simp only [Act.put, List.getElem_toArray, List.getElem_cons_zero, List.getElem_cons_succ, List.setIfInBounds_toArray, List.set_cons_zero, List.set_cons_succ]
          refine wpAnyH_take (i := 19) (v := .slice (some ⟨g, 0, none⟩) (k + 1) cap) rfl (by kernel_rfl) (by kernel_rfl) (by kernel_rfl) (fun _ _ _ h => h) (Or.inl ⟨by rfl, fun w' hS => by go_simp⟩) hHeld ?_
          simp only [Act.put, List.getElem_toArray, List.getElem_cons_zero, List.getElem_cons_succ, List.setIfInBounds_toArray, List.set_cons_zero, List.set_cons_succ]
          refine wpAnyH_done (by kernel_rfl) ?_ _
          clear hHeld
          go_wp2
          go_roundw
          case rel => exact ⟨bl ++ [b], _, k + 1, cap, rfl, HK2, by omega, HF2, HO2, HB2⟩
          case measure => simp [slen]; omega
    · obtain rfl : k = most := by omega
      have hd : decide ((k : Int) < (k : Int)) = false := by rw [decide_eq_false_iff_not]; omega
      have HE := HEnd.out (.inl rfl)
      have HX : Hid (NextO w wr S k (.returned (.slice a k c))) := (show NextO _ _ _ _ _ from ⟨⟨a, c, by rw [HE, Hk.out], by rw [HE, Hk.out]; exact Ho.out, HB.out⟩⟩)
      clear HE HEnd
      go_wp2
      go_ret
      exact HX.out
end
end Go.Proofs.Ytghihdenbdnnjaa.Ln
