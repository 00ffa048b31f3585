import Derived.Test.YtnhhjelplmdloaaV19
import Derived.Laws.BytesArg
namespace Go.Proofs.Ytnhhjelplmdloaa.Et
open Go.RowKit Go.Maps
set_option linter.unusedVariables false
set_option linter.unusedSimpArgs false
set_option maxRecDepth 100000
section
variable {R R' : Rn} {w w' W w1 : World} {B m : Nat}
end
end Go.Proofs.Ytnhhjelplmdloaa.Et
namespace Go.Proofs.Ytnhhjelplmdloaa.Et
open Go.RowKit Go.Maps
set_option linter.unusedVariables false
set_option linter.unusedSimpArgs false
set_option maxRecDepth 100000
section
variable {w w' W w1 : World} {B m : Nat}
theorem conv_rd {ao : Option Addr} {n c : Nat} {bs : List Int} (h : Rd w ao n c bs) : (convert 35 9 (.slice ao n c)).run Try.prog w = .ok (.string (strOfNums bs)) w := by
  obtain ⟨h1, h2, h3, h4⟩ := h
  cases ao with
  | none =>
    obtain ⟨rfl, rfl⟩ := h2 rfl
    obtain rfl : bs = [] := List.eq_nil_of_length_eq_zero h1
    exact run_convert_bytes_nil w 35 5 Try.underlying35 Try.underlying5 0 0 9 Try.underlying9
  | some a =>
    rcases h3 with h3 | ⟨b, off, hab, hc⟩
    · subst h3
      obtain rfl : bs = [] := List.eq_nil_of_length_eq_zero h1
      rw [run_convert_bytes_string w 35 9 5 _ 0 c Try.underlying35 Try.underlying5 Try.underlying9, run_bytesToString w a 0 c [] (by simpa using run_loadCells_list (P := Try.prog) w a [] (fun j v hj => by simp at hj))]
      rfl
    · obtain rfl : a = ⟨b, off, none⟩ := by simpa using hab
      exact run_convert_bytes_arg w 35 5 Try.underlying35 Try.underlying5 b off n c bs h1 hc 9 Try.underlying9
set_option maxHeartbeats 400000 in
theorem same_any {a1 a2 : Option Addr} {n c1 c2 : Nat} {bs : List Int} (h1 : Rd w a1 n c1 bs) (h2 : Rd w a2 n c2 bs) : Calls Try.prog 28 #[.slice a1 n c1, .slice a2 n c2] w fun e w' => e = .returned (.bool true) ∧ w = w' := by
  have k1 := conv_rd h1
  have k2 := conv_rd h2
  generalize strOfNums bs = S at k1 k2
  clear h1 h2
  go_enter Try.func28, Try.ntmps28
  go_wp2
  go_ret
  exact ⟨by simp, rfl⟩
set_option maxHeartbeats 400000 in
theorem alike_any (fi fs fd fu : Int) {a1 a2 : Option Addr} {n c1 c2 : Nat} {bs : List Int} (h1 : Rd w a1 n c1 bs) (h2 : Rd w a2 n c2 bs) : Calls Try.prog 39 #[.agg #[.int .i64 fi, .int .i64 fs, .int .i64 fd, .int .i64 fu, .slice a1 n c1], .agg #[.int .i64 fi, .int .i64 fs, .int .i64 fd, .int .i64 fu, .slice a2 n c2]] w fun e w' => e = .returned (.bool true) ∧ Below w.heap.size w w' := by
  generalize hW : (w.alloc (.cells #[.int .i64 fi, .int .i64 fs, .int .i64 fd, .int .i64 fu, .slice a1 n c1] 43)).alloc (.cells #[.int .i64 fi, .int .i64 fs, .int .i64 fd, .int .i64 fu, .slice a2 n c2] 43) = W
  have hbW : Below w.heap.size w W := by rw [← hW]; exact balloc (balloc (Below.refl _ w))
  obtain ⟨d0, d1, d2, d3, d4⟩ := fl_cells (show W.heap[w.heap.size]? = some (.cells #[.int .i64 fi, .int .i64 fs, .int .i64 fd, .int .i64 fu, .slice a1 n c1] 43 (0, 0)) by rw [← hW]; exact blk_alloc (heap_alloc_new w _))
  obtain ⟨e0, e1, e2, e3, e4⟩ := fl_cells (show W.heap[w.heap.size + 1]? = some (.cells #[.int .i64 fi, .int .i64 fs, .int .i64 fd, .int .i64 fu, .slice a2 n c2] 43 (0, 0)) by
    rw [← hW]
    have := heap_alloc_new (w.alloc (.cells #[.int .i64 fi, .int .i64 fs, .int .i64 fd, .int .i64 fu, .slice a1 n c1] 43)) (.cells #[.int .i64 fi, .int .i64 fs, .int .i64 fd, .int .i64 fu, .slice a2 n c2] 43)
    simpa using this)
  have HS := same_any (h1.still hbW) (h2.still hbW)
  clear h1 h2
  go_enter Try.func39, Try.ntmps39
  go_wp2_with (first | (go_at_call 28; refine HS.mono ?_; rintro e w1 ⟨rfl, rfl⟩) | fail)
  all_goals (go_ret; exact ⟨by simp, hbW⟩)
theorem RdF.still {ao : Option Addr} {n : Nat} {ds : List Fd} (h : RdF w ao n ds) (hb : Below w.heap.size w w') : RdF w' ao n ds := by
  obtain ⟨fs, h1, h2, h3, h4⟩ := h
  refine ⟨fs, h1, h2, fun f hf => (h3 f hf).still hb, h4.elim (fun hh => Or.inl hh) (fun hh => Or.inr ?_)⟩
  obtain ⟨g, hg, hc⟩ := hh
  refine ⟨g, hg, fun i hi j hj => ?_⟩
  have h5 := hc i hi j hj
  have : ∃ u, (fs.getD i f0).cs[j]? = some u := ⟨_, Array.getElem?_eq_getElem (by show j < (fs.getD i f0).cs.size; exact hj)⟩
  obtain ⟨u, hu⟩ := this
  rw [hu] at h5 ⊢
  exact below_at hb h5
theorem RdF.at {ao : Option Addr} {n k : Nat} {ds : List Fd} (h : RdF w ao n ds) (hk : k < n) : ∃ (g : Nat) (f : Fx), ao = some ⟨g, 0, none⟩ ∧ ds[k]? = some f.d ∧ Rd w f.a f.n f.c f.bs ∧ w.cell? ⟨g, k * 5, none⟩ = some (.int .i64 f.id) ∧ w.cell? ⟨g, k * 5 + 1, none⟩ = some (.int .i64 f.src) ∧ w.cell? ⟨g, k * 5 + 2, none⟩ = some (.int .i64 f.dst) ∧ w.cell? ⟨g, k * 5 + 3, none⟩ = some (.int .i64 f.due) ∧ w.cell? ⟨g, k * 5 + 4, none⟩ = some (.slice f.a f.n f.c) := by
  obtain ⟨fs, h1, h2, h3, h4⟩ := h
  rcases h4 with h4 | ⟨g, hg, hc⟩
  · omega
  · refine ⟨g, fs.getD k f0, hg, ?_, h3 _ (mem_getD (by omega)), hc k hk 0 (by omega), hc k hk 1 (by omega), hc k hk 2 (by omega), hc k hk 3 (by omega), hc k hk 4 (by omega)⟩
    rw [← h1]
    simp [List.getD, List.getElem?_eq_getElem (show k < fs.length by omega)]
theorem RdF.len {ao : Option Addr} {n : Nat} {ds : List Fd} (h : RdF w ao n ds) : n = ds.length := by
  obtain ⟨fs, h1, h2, h3, h4⟩ := h
  rw [← h1, List.length_map, h2]
set_option maxHeartbeats 400000 in
theorem lists_any {a1 a2 : Option Addr} {n1 n2 c1 c2 : Nat} {ds : List Fd} (h1 : RdF w a1 n1 ds) (h2 : RdF w a2 n2 ds) (hn : n1 ≤ 2199023255552) : Calls Try.prog 22 #[.slice a1 n1 c1, .slice a2 n2 c2] w fun e w' => e = .returned (.bool true) ∧ Below w.heap.size w w' := by
  obtain rfl : n1 = n2 := by rw [h1.len, h2.len]
  have H1 : Hid (RdF w a1 n1 ds) := h1
  have H2 : Hid (RdF w a2 n1 ds) := h2
  clear h1 h2
  go_enter Try.func22, Try.ntmps22
  go_wp2
  go_loopw [5] (fun i wr => ∃ k : Nat, k ≤ n1 ∧ i = .int .i64 k ∧ Below w.heap.size w wr) (fun i _ => n1 - (intOf i).toNat)
  case atStart => exact ⟨0, Nat.zero_le _, rfl, Below.refl _ _⟩
  case round =>
    obtain ⟨k, hk, rfl, hb⟩ := hrel
    by_cases hlt : k < n1
    · obtain ⟨g, f, hg, hd, hr, x0, x1, x2, x3, x4⟩ := (H1.out.still hb).at hlt
      obtain ⟨g', f', hg', hd', hr', y0, y1, y2, y3, y4⟩ := (H2.out.still hb).at hlt
      have he : f.d = f'.d := by rw [hd] at hd'; simpa using hd'
      have e1 : f'.id = f.id := (congrArg Fd.id he).symm
      have e2 : f'.src = f.src := (congrArg Fd.src he).symm
      have e3 : f'.dst = f.dst := (congrArg Fd.dst he).symm
      have e4 : f'.due = f.due := (congrArg Fd.due he).symm
      have e5 : f'.bs = f.bs := (congrArg Fd.bs he).symm
      have e6 : f'.n = f.n := by rw [← hr.1, ← hr'.1, e5]
      rw [e1] at y0
      rw [e2] at y1
      rw [e3] at y2
      rw [e4] at y3
      rw [e6] at y4 hr'
      rw [e5] at hr'
      have HL : Hid (∀ w', Below wr.heap.size wr w' → Calls Try.prog 39 #[.agg #[.int .i64 f.id, .int .i64 f.src, .int .i64 f.dst, .int .i64 f.due, .slice f.a f.n f.c], .agg #[.int .i64 f.id, .int .i64 f.src, .int .i64 f.dst, .int .i64 f.due, .slice f'.a f.n f'.c]] w' fun e w2 => e = .returned (.bool true) ∧ Below w'.heap.size w' w2) := fun w' hb' => alike_any _ _ _ _ (hr.still hb') (hr'.still hb')
      have HB : Hid (Below w.heap.size w wr) := hb
      have i1 : (0 : Int) ≤ (k : Int) := Int.natCast_nonneg _
      have i2 : (k : Int) < (n1 : Int) := by omega
      rw [hg, hg']
      clear e1 e2 e3 e4 e5 e6 he hd hd' hr hr' hb hg hg'
      go_wp2
      refine wp_region_held_drew (S := (fun w' => w'.cell? ⟨g, k * 5, none⟩ = some (.int .i64 f.id) ∧ w'.cell? ⟨g, k * 5 + 1, none⟩ = some (.int .i64 f.src) ∧ w'.cell? ⟨g, k * 5 + 2, none⟩ = some (.int .i64 f.dst) ∧ w'.cell? ⟨g, k * 5 + 3, none⟩ = some (.int .i64 f.due) ∧ w'.cell? ⟨g, k * 5 + 4, none⟩ = some (.slice f.a f.n f.c) ∧ w'.cell? ⟨g', k * 5, none⟩ = some (.int .i64 f.id) ∧ w'.cell? ⟨g', k * 5 + 1, none⟩ = some (.int .i64 f.src) ∧ w'.cell? ⟨g', k * 5 + 2, none⟩ = some (.int .i64 f.dst) ∧ w'.cell? ⟨g', k * 5 + 3, none⟩ = some (.int .i64 f.due) ∧ w'.cell? ⟨g', k * 5 + 4, none⟩ = some (.slice f'.a f.n f'.c))) (by kernel_rfl) ⟨x0, x1, x2, x3, x4, y0, y1, y2, y3, y4⟩ (fun hHeld => ?_)
      simp only [Act.put, List.size_toArray, List.length_cons, List.length_nil, Nat.zero_add]
      refine wpAnyH_take (i := 0) (v := .slice (some ⟨g, 0, none⟩) n1 c1) rfl (by kernel_rfl) (by kernel_rfl) (by kernel_rfl) (fun _ _ _ h => h) (Or.inl ⟨by rfl, fun w' hS => by go_simp⟩) hHeld ?_
      simp only [Act.put, List.getElem_toArray, List.getElem_cons_zero, List.getElem_cons_succ, List.setIfInBounds_toArray, List.set_cons_zero, List.set_cons_succ]
      refine wpAnyH_take (i := 1) (v := .int .i64 (k : Int)) rfl (by kernel_rfl) (by kernel_rfl) (by kernel_rfl) (fun _ _ _ h => h) (Or.inl ⟨by rfl, fun w' hS => by go_simp⟩) hHeld ?_
      simp only [Act.put, List.getElem_toArray, List.getElem_cons_zero, List.getElem_cons_succ, List.setIfInBounds_toArray, List.set_cons_zero, List.set_cons_succ]
      refine wpAnyH_take (i := 2) (v := .pointer (some ⟨g, k * 5, none⟩)) rfl (by kernel_rfl) (by kernel_rfl) (by kernel_rfl) (fun _ _ _ h => h) (Or.inl ⟨by rfl, fun w' hS => by go_simp⟩) hHeld ?_
      simp only [Act.put, List.getElem_toArray, List.getElem_cons_zero, List.getElem_cons_succ, List.setIfInBounds_toArray, List.set_cons_zero, List.set_cons_succ]
      refine wpAnyH_take (i := 3) (v := .agg #[.int .i64 f.id, .int .i64 f.src, .int .i64 f.dst, .int .i64 f.due, .slice f.a f.n f.c]) rfl (by kernel_rfl) (by kernel_rfl) (by kernel_rfl) (fun _ _ _ h => h) (Or.inl ⟨by rfl, fun w' hS => by (obtain ⟨s0, s1, s2, s3, s4, t0, t1, t2, t3, t4⟩ := hS; go_simp)⟩) hHeld ?_
      simp only [Act.put, List.getElem_toArray, List.getElem_cons_zero, List.getElem_cons_succ, List.setIfInBounds_toArray, List.set_cons_zero, List.set_cons_succ]
      refine wpAnyH_take (i := 4) (v := .slice (some ⟨g', 0, none⟩) n1 c2) rfl (by kernel_rfl) (by kernel_rfl) (by kernel_rfl) (fun _ _ _ h => h) (Or.inl ⟨by rfl, fun w' hS => by go_simp⟩) hHeld ?_
      simp only [Act.put, List.getElem_toArray, List.getElem_cons_zero, List.getElem_cons_succ, List.setIfInBounds_toArray, List.set_cons_zero, List.set_cons_succ]
      refine wpAnyH_take (i := 5) (v := .int .i64 (k : Int)) rfl (by kernel_rfl) (by kernel_rfl) (by kernel_rfl) (fun _ _ _ h => h) (Or.inl ⟨by rfl, fun w' hS => by go_simp⟩) hHeld ?_
      simp only [Act.put, List.getElem_toArray, List.getElem_cons_zero, List.getElem_cons_succ, List.setIfInBounds_toArray, List.set_cons_zero, List.set_cons_succ]
      refine wpAnyH_take (i := 6) (v := .pointer (some ⟨g', k * 5, none⟩)) rfl (by kernel_rfl) (by kernel_rfl) (by kernel_rfl) (fun _ _ _ h => h) (Or.inl ⟨by rfl, fun w' hS => by go_simp⟩) hHeld ?_
      simp only [Act.put, List.getElem_toArray, List.getElem_cons_zero, List.getElem_cons_succ, List.setIfInBounds_toArray, List.set_cons_zero, List.set_cons_succ]
      refine wpAnyH_take (i := 7) (v := .agg #[.int .i64 f.id, .int .i64 f.src, .int .i64 f.dst, .int .i64 f.due, .slice f'.a f.n f'.c]) rfl (by kernel_rfl) (by kernel_rfl) (by kernel_rfl) (fun _ _ _ h => h) (Or.inl ⟨by rfl, fun w' hS => by (obtain ⟨s0, s1, s2, s3, s4, t0, t1, t2, t3, t4⟩ := hS; go_simp)⟩) hHeld ?_
      simp only [Act.put, List.getElem_toArray, List.getElem_cons_zero, List.getElem_cons_succ, List.setIfInBounds_toArray, List.set_cons_zero, List.set_cons_succ]
      refine wpAnyH_ready (rs := [8]) (by kernel_rfl) (by simp) ?_
      refine AllReadyH.cons rfl (fun K hK => ?_) AllReadyH.nil
      go_simp
      refine (HL.out _ (by repeat (first | exact Below.refl _ _ | apply Below.drew))).mono ?_
      rintro e w2 ⟨rfl, hb2⟩
      have B2 : Below wr.heap.size wr w2 := bstep (by repeat (first | exact Below.refl _ _ | apply Below.drew)) hb2
      refine hK.out _ _ ⟨below_at B2 x0, below_at B2 x1, below_at B2 x2, below_at B2 x3, below_at B2 x4, below_at B2 y0, below_at B2 y1, below_at B2 y2, below_at B2 y3, below_at B2 y4⟩ (fun hHeld => ?_)
      clear hK K
      refine wpAnyH_take (i := 9) (v := .bool false) rfl (by kernel_rfl) (by kernel_rfl) (by kernel_rfl) (fun _ _ _ h => h) (Or.inl ⟨by rfl, fun w' hS => by go_simp⟩) hHeld ?_
      simp only [Act.put, List.getElem_toArray, List.getElem_cons_zero, List.getElem_cons_succ, List.setIfInBounds_toArray, List.set_cons_zero, List.set_cons_succ]
      refine wpAnyH_done (by kernel_rfl) ?_ _
      clear hHeld
      go_wp2
      exact ⟨⟨k + 1, by omega, by go_num, bstep HB.out B2⟩, by simp [intOf]; omega⟩
    · obtain rfl : k = n1 := by omega
      go_wp2
      go_ret
      exact ⟨rfl, hb⟩
end
end Go.Proofs.Ytnhhjelplmdloaa.Et
