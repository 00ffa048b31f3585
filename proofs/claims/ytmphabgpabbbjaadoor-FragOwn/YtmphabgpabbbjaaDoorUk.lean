import Derived.Test.YtmphabgpabbbjaaDoorUj
namespace Go.Proofs.YtmphabgpabbbjaaDoor.Fg
open Go.RowKit Mb
set_option linter.unusedVariables false
set_option maxRecDepth 100000
set_option linter.unusedSimpArgs false
section
variable {w w' W : World} {B : Nat}
set_option maxHeartbeats 400000 in
theorem take_arg {J : Jn} (h : J.Ok w B) {x : Int} (hx : ¬ (0 ≤ x ∧ x < (J.n : Int))) {ao : Option Addr} {n c : Nat} : Calls Tryd.prog 10 #[.pointer (some ⟨J.b, 0, none⟩), .int .i64 x, .slice ao n c] w fun e w' => e = .returned (.tuple #[.slice none 0 0, .bool false, .int .i64 1]) ∧ w = w' := by
  have HS : Hid (Calls Tryd.prog 26 #[.pointer (some ⟨J.b, 0, none⟩), .int .i64 x] w fun e w' => e = .returned (.bool (inR 0 ((J.n : Int) - 1) x)) ∧ w = w') := h.sender x
  rw [inR_f (by omega)] at HS
  clear h hx
  go_enter Tryd.func10, Tryd.ntmps10
  go_wp2_with (first | (go_at_call 26; refine HS.out.mono ?_; rintro e w2 ⟨rfl, rfl⟩) | fail)
  exact bodyPost_ret (v := .tuple #[.slice none 0 0, .bool false, .int .i64 1]) (by simp [results, Tryd.results10, go_sem]) rfl ⟨rfl, rfl⟩
set_option maxHeartbeats 400000 in
theorem take_form {J : Jn} (h : J.Ok w B) {k : Nat} (hk : k < J.n) {ao : Option Addr} {n c : Nat} {bs : List Int} (hr : Rd w ao n c bs) (hn : n ≤ 140737488355328) (hf : form bs = false) : Calls Tryd.prog 10 #[.pointer (some ⟨J.b, 0, none⟩), .int .i64 (k : Int), .slice ao n c] w fun e w' => e = .returned (.tuple #[.slice none 0 0, .bool false, .int .i64 91]) ∧ Below w.heap.size w w' := by
  have HS : Hid (Calls Tryd.prog 26 #[.pointer (some ⟨J.b, 0, none⟩), .int .i64 (k : Int)] w fun e w' => e = .returned (.bool (inR 0 ((J.n : Int) - 1) k)) ∧ w = w') := h.sender k
  rw [inR_t (by omega) (by omega)] at HS
  have HO : Hid (Calls Tryd.prog 27 #[.slice ao n c] w fun e w' => e = .returned (.tuple #[.agg #[.int .i64 0, .int .i64 0, .int .i64 0], .slice none 0 0, .bool false]) ∧ Below w.heap.size w w') := (opened_any hr hn).mono fun e w' ⟨A, m, d, he, _, hb⟩ => ⟨by rw [he, hf]; rfl, hb⟩
  clear h hr hf
  go_enter Tryd.func10, Tryd.ntmps10
  go_wp2_with (first | (go_at_call 26; refine HS.out.mono ?_; rintro e w2 ⟨rfl, rfl⟩) | (go_at_call 27; refine HO.out.mono ?_; rintro e w3 ⟨rfl, hb3⟩) | fail)
  exact bodyPost_ret (v := .tuple #[.slice none 0 0, .bool false, .int .i64 91]) (by simp [results, Tryd.results10, go_sem]) rfl ⟨rfl, balloc hb3⟩
structure TkOut (w w' : World) (B : Nat) (J : Jn) (k : Nat) (o : Out) (e : Ending) : Prop where
  out : ∃ (ra : Option Addr) (rn rc : Nat) (g : Option Nat), e = .returned (.tuple #[.slice ra rn rc, .bool o.b.isSome, .int .i64 (o.e : Int)]) ∧ (o.b = none → ra = none ∧ rn = 0 ∧ rc = 0) ∧ (∀ b, o.b = some b → ∃ g', ra = some ⟨g', 0, none⟩ ∧ rn = b.length ∧ rc = b.length ∧ Bk w' g' b ∧ By b ∧ B ≤ g' ∧ ¬ (J.put k o.p g).own g' ∧ (J.own g' ∨ w.heap.size ≤ g')) ∧ (J.put k o.p g).Ok w' B ∧ Kept w w' J.own ∧ (∀ j, (J.put k o.p g).own j → J.own j ∨ w.heap.size ≤ j)
theorem put_self (J : Jn) (k : Nat) : J.put k (J.ps k) (J.gs k) = J := by simp [Jn.put, upd_self]
theorem jf_byte (J : Jn) (i : Nat) (x : Int) : J.f i ≠ .int .u8 x := by
  unfold Jn.f
  have : i % 4 < 4 := Nat.mod_lt _ (by omega)
  generalize i % 4 = j at this
  generalize J.ps (i / 4) = p
  generalize J.gs (i / 4) = g
  rcases j with _ | _ | _ | _ | j
  · simp [pcs]
  · simp [pcs]
  · simp [pcs]
  · cases g <;> simp [pcs, slg]
  · omega
theorem rd_keep_row {J : Jn} {N : Nat} {A : Option Addr} {m d : Nat} {xs : List Int} (hrow : Fb w J.bp 64 N J.f) (hr : Rd w A m d xs) (k : Kept w w' (fun j => j = J.bp)) : Rd w' A m d xs := by
  by_cases hm : m = 0
  · exact ⟨hr.len, hr.cap, hr.nil, .inl hm, hr.by_⟩
  · refine hr.keep k fun b off he hb => ?_
    have hb' : b = J.bp := hb
    rcases hr.at_ with h0 | ⟨b', off', h1, h2⟩
    · omega
    · rw [he] at h1
      cases h1
      have hc := h2 0 (by omega)
      rw [hb'] at hc
      obtain ⟨C, h3, h4, h5⟩ := hrow
      rw [blk_cell h3] at hc
      by_cases hi : off + 0 < N
      · rw [h5 _ hi] at hc
        exact jf_byte J _ _ (by simpa using hc)
      · rw [Array.getElem?_eq_none (by omega)] at hc
        cases hc
theorem put_cells {J : Jn} {k : Nat} {s q l : Nat} {qb : List Int} {g : Nat} (hk : k < J.n) (hl : qb.length = l) (h : Fb w J.bp 64 (J.n * 4) (J.put k ⟨s, q, qb⟩ (some g)).f) :
    w.cell? ⟨J.bp, k * 4, none⟩ = some (.int .i64 (s : Int)) ∧ w.cell? ⟨J.bp, k * 4 + 1, none⟩ = some (.int .i64 (l : Int)) ∧ w.cell? ⟨J.bp, k * 4 + 2, none⟩ = some (.int .i64 (q : Int)) ∧ w.cell? ⟨J.bp, k * 4 + 3, none⟩ = some (.slice (some ⟨g, 0, none⟩) s s) := by
  have e : ∀ j, j < 4 → w.cell? ⟨J.bp, k * 4 + j, none⟩ = some ((pcs ⟨s, q, qb⟩ (some g)).getD j undef) := fun j hj => by
    have := (J.put k ⟨s, q, qb⟩ (some g)).cell (w := w) (s := k) (j := j) hk hj h
    rw [show (J.put k ⟨s, q, qb⟩ (some g)).ps k = ⟨s, q, qb⟩ from upd_same _ _ _, show (J.put k ⟨s, q, qb⟩ (some g)).gs k = some g from upd_same _ _ _] at this
    exact this
  subst hl
  exact ⟨e 0 (by omega), e 1 (by omega), e 2 (by omega), e 3 (by omega)⟩
theorem row_place {J : Jn} {k : Nat} {s q : Nat} {qb qc : List Int} {g : Nat} (hk : k < J.n) (h : Fb w J.bp 64 (J.n * 4) (J.put k ⟨s, q, qb⟩ (some g)).f) : Fb (w.setCell ⟨J.bp, k * 4 + 1, none⟩ (.int .i64 (qc.length : Int))) J.bp 64 (J.n * 4) (J.put k ⟨s, q, qc⟩ (some g)).f :=
  (h.set (k * 4 + 1) _).congr fun i hi => by
    rw [jf_put, jf_put]
    by_cases e : i = k * 4 + 1
    · subst e
      rw [if_pos rfl, if_pos (by rw [pcs_len]; omega)]
      rw [show k * 4 + 1 - k * 4 = 1 by omega]
      rfl
    · rw [if_neg e]
      rw [pcs_len, pcs_len]
      by_cases h2 : k * 4 ≤ i ∧ i < k * 4 + 4
      · rw [if_pos h2, if_pos h2]
        have : i - k * 4 = 0 ∨ i - k * 4 = 2 ∨ i - k * 4 = 3 := by omega
        rcases this with e2 | e2 | e2 <;> rw [e2] <;> rfl
      · rw [if_neg h2, if_neg h2]
set_option maxHeartbeats 2000000 in
theorem take_misfit {J : Jn} (h : J.Ok w B) {k : Nat} (hk : k < J.n) {ao : Option Addr} {n c : Nat} {bs : List Int} (hr : Rd w ao n c bs) (hn : n ≤ 140737488355328) (hf : form bs = true) (hp0 : pl bs ≠ 0) (hft : fits (J.ps k) bs = false) : Calls Tryd.prog 10 #[.pointer (some ⟨J.b, 0, none⟩), .int .i64 (k : Int), .slice ao n c] w fun e w' => e = .returned (.tuple #[.slice none 0 0, .bool false, .int .i64 91]) ∧ Below w.heap.size w w' := by
  have HS : Hid (Calls Tryd.prog 26 #[.pointer (some ⟨J.b, 0, none⟩), .int .i64 (k : Int)] w fun e w' => e = .returned (.bool (inR 0 ((J.n : Int) - 1) k)) ∧ w = w') := h.sender k
  rw [inR_t (by omega) (by omega)] at HS
  have HO : Hid (Calls Tryd.prog 27 #[.slice ao n c] w fun e w' => ∃ A m d, e = .returned (.tuple #[.agg #[.int .i64 (sz bs : Int), .int .i64 (pl bs : Int), .int .i64 (sm bs : Int)], .slice A m d, .bool true]) ∧ Rd w' A m d (bs.drop 8) ∧ Below w.heap.size w w') := (opened_any hr hn).mono fun e w' ⟨A, m, d, he, hrd, hb⟩ => ⟨A, m, d, by rw [he, hf]; rfl, hrd hf, hb⟩
  have hform := (form_iff bs).1 hf
  have hby := hr.by_
  have n1 := h.n1
  have n16 := h.n16
  have i1 : (0 : Int) ≤ (k : Int) := Int.natCast_nonneg _
  have i2 : (k : Int) < (J.n : Int) := by omega
  have Hh : Hid (J.Ok w B) := h
  clear h hr hf
  go_enter Tryd.func10, Tryd.ntmps10
  go_wp2_with (first | (go_at_call 26; refine HS.out.mono ?_; rintro e w2 ⟨rfl, rfl⟩) | (go_at_call 27; refine HO.out.mono ?_) | fail)
  rintro e W1 ⟨A, m, d, rfl, hrd, hb1⟩
  have c0 : W1.cell? ⟨J.b, 0, none⟩ = some (.slice (some ⟨J.bp, 0, none⟩) J.n J.n) := below_at hb1 (blk_cell Hh.out.jb 0)
  generalize hW2 : W1.alloc (.cells #[.int .i64 (sz bs : Int), .int .i64 (pl bs : Int), .int .i64 (sm bs : Int)] 59) = W2
  have hb2 : Below w.heap.size w W2 := by rw [← hW2]; exact balloc hb1
  have hb12 : Below W1.heap.size W1 W2 := by rw [← hW2]; exact balloc (Below.refl _ _)
  have hblk : W2.heap[W1.heap.size]? = some (.cells #[.int .i64 (sz bs : Int), .int .i64 (pl bs : Int), .int .i64 (sm bs : Int)] 59 (0, 0)) := by rw [← hW2]; exact heap_alloc_new _ _
  have c2 : W2.cell? ⟨J.b, 0, none⟩ = some (.slice (some ⟨J.bp, 0, none⟩) J.n J.n) := below_at hb12 c0
  have hge : w.heap.size ≤ W1.heap.size := hb1.size
  generalize hkd : W1.heap.size = kd at *
  have x0 : W2.cell? ⟨kd, 0, none⟩ = some (.int .i64 (sz bs : Int)) := blk_cell hblk 0
  have x1 : W2.cell? ⟨kd, 1, none⟩ = some (.int .i64 (pl bs : Int)) := blk_cell hblk 1
  have x2 : W2.cell? ⟨kd, 2, none⟩ = some (.int .i64 (sm bs : Int)) := blk_cell hblk 2
  have Hok : Hid (J.Ok W2 B) := Hh.out.still hb2
  have Hrd : Hid (Rd W2 A m d (bs.drop 8)) := hrd.still (by rw [hkd]; exact hb12)
  have Hb2 : Hid (Below w.heap.size w W2) := hb2
  have hp0' : ((pl bs : Int) == 0) = false := by rw [beq_eq_false_iff_ne]; omega
  have r0 : W2.cell? ⟨J.bp, k * 4, none⟩ = some (.int .i64 ((J.ps k).sz : Int)) := J.cell hk (j := 0) (by omega) Hok.out.row
  have r1 : W2.cell? ⟨J.bp, k * 4 + 1, none⟩ = some (.int .i64 ((J.ps k).bs.length : Int)) := J.cell hk (j := 1) (by omega) Hok.out.row
  have r2 : W2.cell? ⟨J.bp, k * 4 + 2, none⟩ = some (.int .i64 ((J.ps k).sm : Int)) := J.cell hk (j := 2) (by omega) Hok.out.row
  have HQ : Hid (decide ((sz bs : Int) = ((J.ps k).sz : Int) ∧ (pl bs : Int) = ((J.ps k).bs.length : Int) ∧ (sm bs : Int) = ((J.ps k).sm : Int)) = false) := (show _ = _ from by
    unfold fits beg at hft
    rw [if_neg hp0] at hft
    rw [decide_eq_false_iff_not] at hft ⊢
    omega)
  clear hblk hrd hb1 hb12 c0 hb2 hp0
  generalize (J.ps k).sz = h0 at *
  generalize (J.ps k).bs.length = h1 at *
  generalize (J.ps k).sm = h2 at *
  go_wp2_with fail
  refine wp_region_held_drew (S := (fun w' => w'.cell? ⟨kd, 0, none⟩ = some (.int .i64 (sz bs : Int)) ∧ w'.cell? ⟨kd, 1, none⟩ = some (.int .i64 (pl bs : Int)) ∧ w'.cell? ⟨kd, 2, none⟩ = some (.int .i64 (sm bs : Int)) ∧ w'.cell? ⟨J.bp, k * 4, none⟩ = some (.int .i64 (h0 : Int)) ∧ w'.cell? ⟨J.bp, k * 4 + 1, none⟩ = some (.int .i64 (h1 : Int)) ∧ w'.cell? ⟨J.bp, k * 4 + 2, none⟩ = some (.int .i64 (h2 : Int)))) (by kernel_rfl) ⟨below_at (Below.refl _ _).drew x0, below_at (Below.refl _ _).drew x1, below_at (Below.refl _ _).drew x2, below_at (Below.refl _ _).drew r0, below_at (Below.refl _ _).drew r1, below_at (Below.refl _ _).drew r2⟩ (fun hHeld => ?_)
  simp only [Act.put, List.size_toArray, List.length_cons, List.length_nil, Nat.zero_add]
  refine wpAnyH_take (i := 0) (v := .agg #[.int .i64 (sz bs : Int), .int .i64 (pl bs : Int), .int .i64 (sm bs : Int)]) rfl (by kernel_rfl) (by kernel_rfl) (by kernel_rfl) (fun _ _ _ h => h) (Or.inl ⟨by rfl, fun w' hS => by (obtain ⟨s0, s1, s2, s3, s4, s5⟩ := hS; go_simp)⟩) hHeld ?_
  simp only [Act.put, List.getElem_toArray, List.getElem_cons_zero, List.getElem_cons_succ, List.setIfInBounds_toArray, List.set_cons_zero, List.set_cons_succ]
  refine wpAnyH_take (i := 1) (v := .pointer (some ⟨J.bp, k * 4, none⟩)) rfl (by kernel_rfl) (by kernel_rfl) (by kernel_rfl) (fun _ _ _ h => h) (Or.inl ⟨by rfl, fun w' hS => by go_simp⟩) hHeld ?_
  simp only [Act.put, List.getElem_toArray, List.getElem_cons_zero, List.getElem_cons_succ, List.setIfInBounds_toArray, List.set_cons_zero, List.set_cons_succ]
  refine wpAnyH_take (i := 2) (v := .pointer (some ⟨J.bp, k * 4, none⟩)) rfl (by kernel_rfl) (by kernel_rfl) (by kernel_rfl) (fun _ _ _ h => h) (Or.inl ⟨by rfl, fun w' hS => by go_simp⟩) hHeld ?_
  simp only [Act.put, List.getElem_toArray, List.getElem_cons_zero, List.getElem_cons_succ, List.setIfInBounds_toArray, List.set_cons_zero, List.set_cons_succ]
  refine wpAnyH_take (i := 3) (v := .pointer (some ⟨J.bp, k * 4, none⟩)) rfl (by kernel_rfl) (by kernel_rfl) (by kernel_rfl) (fun _ _ _ h => h) (Or.inl ⟨by rfl, fun w' hS => by go_simp⟩) hHeld ?_
  simp only [Act.put, List.getElem_toArray, List.getElem_cons_zero, List.getElem_cons_succ, List.setIfInBounds_toArray, List.set_cons_zero, List.set_cons_succ]
  refine wpAnyH_take (i := 4) (v := .agg #[.int .i64 (h0 : Int), .int .i64 (h1 : Int), .int .i64 (h2 : Int)]) rfl (by kernel_rfl) (by kernel_rfl) (by kernel_rfl) (fun _ _ _ h => h) (Or.inl ⟨by rfl, fun w' hS => by (obtain ⟨s0, s1, s2, s3, s4, s5⟩ := hS; go_simp)⟩) hHeld ?_
  simp only [Act.put, List.getElem_toArray, List.getElem_cons_zero, List.getElem_cons_succ, List.setIfInBounds_toArray, List.set_cons_zero, List.set_cons_succ]
  refine wpAnyH_take (i := 5) (v := .bool (!(false))) rfl (by kernel_rfl) (by kernel_rfl) (by kernel_rfl) (fun _ _ _ h => h) (Or.inl ⟨by rfl, fun w' hS => run_neqop 59 (.tmp 42) (.tmp 46) 59 rfl _ _ (by rfl) (by rfl) (by kernel_rfl) _ ((by rw [eq_head]; rw [HQ.out]))⟩) hHeld ?_
  simp only [Act.put, List.getElem_toArray, List.getElem_cons_zero, List.getElem_cons_succ, List.setIfInBounds_toArray, List.set_cons_zero, List.set_cons_succ]
  refine wpAnyH_done (by kernel_rfl) ?_ _
  clear hHeld
  go_wp2
  exact bodyPost_ret (v := .tuple #[.slice none 0 0, .bool false, .int .i64 91]) (by simp [results, Tryd.results10, go_sem]) rfl ⟨rfl, Hb2.out.drew⟩
end
end Go.Proofs.YtmphabgpabbbjaaDoor.Fg
