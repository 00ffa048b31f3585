import Derived.Test.YthogcanfinjfdaaMi
import Derived.Laws.BytesArg
namespace Go.Proofs.Ythogcanfinjfdaa.Et
open Go.RowKit Go.Maps
set_option linter.unusedVariables false
set_option linter.unusedSimpArgs false
set_option maxRecDepth 100000
section
variable {R R' : Rn} {w w' W w1 : World} {B m : Nat}

set_option maxHeartbeats 400000 in
theorem rdo_path (b : Nat) (v : Ev) (hk : v.k = 8 ∨ v.k = 9 ∨ v.k = 10) (S : Ending → World → Prop) (HR : ∀ w', Below w.heap.size w w' → Calls Try.prog 93 #[.pointer (some ⟨b, 0, none⟩), .agg v.cs] w' fun e w2 => (∃ y, e = .returned (.int .i64 y)) ∧ S e w2) : Calls Try.prog 86 #[.pointer (some ⟨b, 0, none⟩), .agg v.cs] w S := by
  generalize hW : w.alloc (.cells v.cs 41) = W
  have hbW : Below w.heap.size w W := by rw [← hW]; exact balloc (Below.refl _ w)
  have hblk : W.heap[w.heap.size]? = some (.cells v.cs 41 (0, 0)) := by rw [← hW]; exact heap_alloc_new w _
  obtain ⟨e0, e1, e2, e3, e4, e5⟩ := ev_cells hblk
  obtain ⟨r0, r1, r2, r3, r4, r5, r6⟩ := ev_rest hblk
  have Hb : Hid (Below w.heap.size w W) := hbW
  unfold Ev.cs at hW ⊢
  have HR : Hid (∀ w', Below w.heap.size w w' → Calls Try.prog 93 #[.pointer (some ⟨b, 0, none⟩), .agg v.cs] w' fun e w2 => (∃ y, e = .returned (.int .i64 y)) ∧ S e w2) := HR
  unfold Ev.cs at HR
  clear hbW hblk
  rcases hk with hk | hk | hk <;>
  · rw [hk] at HR e0 hW ⊢
    go_enter Try.func86, Try.ntmps86
    go_wp2_with (first | (go_at_call 93; refine (HR.out _ (by repeat (first | exact Below.refl _ _ | exact Hb.out | apply below_drewN | apply Below.drew | apply balloc))).mono ?_; rintro e w2 ⟨⟨y, rfl⟩, hR⟩) | fail)
    all_goals first | exact hR | (go_ret; exact hR)

set_option maxHeartbeats 400000 in
theorem rdo_split (b : Nat) (v : Ev) (hk : v.k = 11) (S : Ending → World → Prop) (HR : ∀ w', Below w.heap.size w w' → Calls Try.prog 94 #[.pointer (some ⟨b, 0, none⟩), .slice v.sa v.sn v.sc] w' fun e w2 => (∃ y, e = .returned (.int .i64 y)) ∧ S e w2) : Calls Try.prog 86 #[.pointer (some ⟨b, 0, none⟩), .agg v.cs] w S := by
  generalize hW : w.alloc (.cells v.cs 41) = W
  have hbW : Below w.heap.size w W := by rw [← hW]; exact balloc (Below.refl _ w)
  have hblk : W.heap[w.heap.size]? = some (.cells v.cs 41 (0, 0)) := by rw [← hW]; exact heap_alloc_new w _
  obtain ⟨e0, e1, e2, e3, e4, e5⟩ := ev_cells hblk
  obtain ⟨r0, r1, r2, r3, r4, r5, r6⟩ := ev_rest hblk
  have Hb : Hid (Below w.heap.size w W) := hbW
  unfold Ev.cs at hW ⊢
  have HR : Hid (∀ w', Below w.heap.size w w' → Calls Try.prog 94 #[.pointer (some ⟨b, 0, none⟩), .slice v.sa v.sn v.sc] w' fun e w2 => (∃ y, e = .returned (.int .i64 y)) ∧ S e w2) := HR
  clear hbW hblk
  · rw [hk] at e0 hW ⊢
    go_enter Try.func86, Try.ntmps86
    go_wp2_with (first | (go_at_call 94; refine (HR.out _ (by repeat (first | exact Below.refl _ _ | exact Hb.out | apply below_drewN | apply Below.drew | apply balloc))).mono ?_; rintro e w2 ⟨⟨y, rfl⟩, hR⟩) | fail)
    all_goals first | exact hR | (go_ret; exact hR)

set_option maxHeartbeats 400000 in
theorem rdo_none (h : R.Ok w B) (hA : R.all.length ≤ 2199023255551) (v : Ev) (hk : v.k = 12 ∨ v.k = 13 ∨ v.k = 15 ∨ v.k = 16) (hno : atN R v.a = -1) : Calls Try.prog 86 #[.pointer (some ⟨R.b, 0, none⟩), .agg v.cs] w fun e w' => e = .returned (.int .i64 34) ∧ Below w.heap.size w w' := by
  generalize hW : w.alloc (.cells v.cs 41) = W
  have hbW : Below w.heap.size w W := by rw [← hW]; exact balloc (Below.refl _ w)
  have hblk : W.heap[w.heap.size]? = some (.cells v.cs 41 (0, 0)) := by rw [← hW]; exact heap_alloc_new w _
  obtain ⟨e0, e1, e2, e3, e4, e5⟩ := ev_cells hblk
  obtain ⟨r0, r1, r2, r3, r4, r5, r6⟩ := ev_rest hblk
  have Hb : Hid (Below w.heap.size w W) := hbW
  unfold Ev.cs at hW ⊢
  have HA : Hid (∀ w', Below w.heap.size w w' → Calls Try.prog 91 #[.pointer (some ⟨R.b, 0, none⟩), .int .i64 v.a] w' fun e w2 => e = .returned (.int .i64 (-1)) ∧ Below w.heap.size w w2) := fun w' hb => (at_any (h.still hb) (by omega) v.a).mono fun e w2 ⟨x1, x2⟩ => ⟨by rw [x1, hno], bstep hb x2⟩
  clear hbW hblk h hno
  rcases hk with hk | hk | hk | hk <;>
  · rw [hk] at e0 hW ⊢
    go_enter Try.func86, Try.ntmps86
    go_wp2_with (first | (go_at_call 91; refine (HA.out _ (by repeat (first | exact Below.refl _ _ | exact Hb.out | apply below_drewN | apply Below.drew | apply balloc))).mono ?_; rintro e w2 ⟨rfl, hb2⟩) | fail)
    all_goals (go_ret; exact ⟨rfl, hb2⟩)

set_option maxHeartbeats 400000 in
theorem rdo_packet (h : R.Ok w B) (hA : R.all.length ≤ 2199023255551) (v : Ev) (hk : v.k = 12 ∨ v.k = 13 ∨ v.k = 15 ∨ v.k = 16) (i : Nat) (hi : atN R v.a = i) (S : Ending → World → Prop) (HR : ∀ w', Below w.heap.size w w' → Calls Try.prog 95 #[.pointer (some ⟨R.b, 0, none⟩), .agg v.cs, .int .i64 i] w' fun e w2 => (∃ y, e = .returned (.int .i64 y)) ∧ S e w2) : Calls Try.prog 86 #[.pointer (some ⟨R.b, 0, none⟩), .agg v.cs] w S := by
  generalize hW : w.alloc (.cells v.cs 41) = W
  have hbW : Below w.heap.size w W := by rw [← hW]; exact balloc (Below.refl _ w)
  have hblk : W.heap[w.heap.size]? = some (.cells v.cs 41 (0, 0)) := by rw [← hW]; exact heap_alloc_new w _
  obtain ⟨e0, e1, e2, e3, e4, e5⟩ := ev_cells hblk
  obtain ⟨r0, r1, r2, r3, r4, r5, r6⟩ := ev_rest hblk
  have Hb : Hid (Below w.heap.size w W) := hbW
  unfold Ev.cs at hW ⊢
  have HA : Hid (∀ w', Below w.heap.size w w' → Calls Try.prog 91 #[.pointer (some ⟨R.b, 0, none⟩), .int .i64 v.a] w' fun e w2 => e = .returned (.int .i64 i) ∧ Below w'.heap.size w' w2) := fun w' hb => (at_any (h.still hb) (by omega) v.a).mono fun e w2 ⟨x1, x2⟩ => ⟨by rw [x1, hi], x2⟩
  have HR : Hid (∀ w', Below w.heap.size w w' → Calls Try.prog 95 #[.pointer (some ⟨R.b, 0, none⟩), .agg v.cs, .int .i64 i] w' fun e w2 => (∃ y, e = .returned (.int .i64 y)) ∧ S e w2) := HR
  unfold Ev.cs at HR
  have HBk : Hid (∀ w', Below W.heap.size W w' → w'.heap[w.heap.size]? = some (.cells v.cs 41 (0, 0))) := fun w' hb => (hb.block _ (lt_heap hblk)).trans hblk
  have i1 : (0 : Int) ≤ (i : Int) := Int.natCast_nonneg _
  clear hbW hblk h hi
  rcases hk with hk | hk | hk | hk <;>
  · rw [hk] at HR e0 hW ⊢
    go_enter Try.func86, Try.ntmps86
    go_wp2_with (first
      | (go_at_call 91; refine (HA.out _ (by repeat (first | exact Below.refl _ _ | exact Hb.out | apply below_drewN | apply Below.drew | apply balloc))).mono ?_; rintro e w2 ⟨rfl, hb2⟩; have B2 : Hid (Below w.heap.size w w2) := (bstep Hb.out hb2); obtain ⟨t0, t1, t2, t3, t4, t5⟩ := ev_cells (HBk.out _ hb2); obtain ⟨q0, q1, q2, q3, q4, q5, q6⟩ := ev_rest (HBk.out _ hb2); rw [hk] at t0)
      | (go_at_call 95; refine (HR.out _ B2.out).mono ?_; rintro e w3 ⟨⟨y, rfl⟩, hR⟩)
      | fail)
    all_goals first | exact hR | (go_ret; exact hR)

set_option maxHeartbeats 400000 in
theorem rdo_inject (b : Nat) (v : Ev) (hk : v.k = 17) (S : Int → World → Prop) (HR : ∀ w', Below w.heap.size w w' → Calls Try.prog 89 #[.pointer (some ⟨b, 0, none⟩), .int .i64 v.a, .int .i64 v.b, .slice v.ba v.bn v.bc, .bool false] w' fun e w2 => ∃ x y, e = .returned (.tuple #[.int .i64 x, .int .i64 y]) ∧ S y w2) : Calls Try.prog 86 #[.pointer (some ⟨b, 0, none⟩), .agg v.cs] w fun e w' => ∃ y, e = .returned (.int .i64 y) ∧ S y w' := by
  generalize hW : w.alloc (.cells v.cs 41) = W
  have hbW : Below w.heap.size w W := by rw [← hW]; exact balloc (Below.refl _ w)
  have hblk : W.heap[w.heap.size]? = some (.cells v.cs 41 (0, 0)) := by rw [← hW]; exact heap_alloc_new w _
  obtain ⟨e0, e1, e2, e3, e4, e5⟩ := ev_cells hblk
  obtain ⟨r0, r1, r2, r3, r4, r5, r6⟩ := ev_rest hblk
  have Hb : Hid (Below w.heap.size w W) := hbW
  unfold Ev.cs at hW ⊢
  have HR : Hid (∀ w', Below w.heap.size w w' → Calls Try.prog 89 #[.pointer (some ⟨b, 0, none⟩), .int .i64 v.a, .int .i64 v.b, .slice v.ba v.bn v.bc, .bool false] w' fun e w2 => ∃ x y, e = .returned (.tuple #[.int .i64 x, .int .i64 y]) ∧ S y w2) := HR
  clear hbW hblk
  rw [hk] at e0 hW ⊢
  go_enter Try.func86, Try.ntmps86
  go_wp2_with (first | (go_at_call 89; refine (HR.out _ (by repeat (first | exact Below.refl _ _ | exact Hb.out | apply below_drewN | apply Below.drew | apply balloc))).mono ?_; rintro e w2 ⟨x, y, rfl, hR⟩) | fail)
  all_goals (go_ret; exact ⟨y, rfl, hR⟩)

set_option maxHeartbeats 400000 in
theorem rdo_other (b : Nat) (v : Ev) (hk : doKind v.k = false) : Calls Try.prog 86 #[.pointer (some ⟨b, 0, none⟩), .agg v.cs] w fun e w' => e = .returned (.int .i64 1) ∧ Below w.heap.size w w' := by
  have k1 : v.k ≠ 8 ∧ v.k ≠ 9 ∧ v.k ≠ 10 ∧ v.k ≠ 11 ∧ v.k ≠ 12 ∧ v.k ≠ 13 ∧ v.k ≠ 15 ∧ v.k ≠ 16 ∧ v.k ≠ 17 := by
    simp [doKind] at hk
    omega
  obtain ⟨j1, j2, j3, j4, j5, j6, j7, j8, j9⟩ := k1
  generalize hW : w.alloc (.cells v.cs 41) = W
  have hbW : Below w.heap.size w W := by rw [← hW]; exact balloc (Below.refl _ w)
  have hblk : W.heap[w.heap.size]? = some (.cells v.cs 41 (0, 0)) := by rw [← hW]; exact heap_alloc_new w _
  obtain ⟨e0, e1, e2, e3, e4, e5⟩ := ev_cells hblk
  obtain ⟨r0, r1, r2, r3, r4, r5, r6⟩ := ev_rest hblk
  have Hb : Hid (Below w.heap.size w W) := hbW
  unfold Ev.cs at hW ⊢
  clear hbW hblk hk
  go_enter Try.func86, Try.ntmps86
  go_wp2
  all_goals first | (go_ret; exact ⟨rfl, Hb.out⟩) | (exfalso; omega)
end
end Go.Proofs.Ythogcanfinjfdaa.Et
namespace Go.Proofs.Ythogcanfinjfdaa.Et
open Go.RowKit Go.Maps
set_option linter.unusedVariables false
set_option linter.unusedSimpArgs false
set_option maxRecDepth 100000
section
variable {w w' W w1 : World} {B m : Nat}
theorem num_any (x : Int) : Calls Try.prog 32 #[.int .i64 x] w fun e w' => e = .returned (.int .i64 x) ∧ w = w' := by
  go_enter Try.func32, Try.ntmps32
  go_wp2
  go_ret
  exact ⟨rfl, rfl⟩
theorem conv_rd {ao : Option Addr} {n c : Nat} {bs : List Int} (h : Rd w ao n c bs) : (convert 30 9 (.slice ao n c)).run Try.prog w = .ok (.string (strOfNums bs)) w := by
  obtain ⟨h1, h2, h3, h4⟩ := h
  cases ao with
  | none =>
    obtain ⟨rfl, rfl⟩ := h2 rfl
    obtain rfl : bs = [] := List.eq_nil_of_length_eq_zero h1
    exact run_convert_bytes_nil w 30 5 Try.underlying30 Try.underlying5 0 0 9 Try.underlying9
  | some a =>
    rcases h3 with h3 | ⟨b, off, hab, hc⟩
    · subst h3
      obtain rfl : bs = [] := List.eq_nil_of_length_eq_zero h1
      rw [run_convert_bytes_string w 30 9 5 _ 0 c Try.underlying30 Try.underlying5 Try.underlying9, run_bytesToString w a 0 c [] (by simpa using run_loadCells_list (P := Try.prog) w a [] (fun j v hj => by simp at hj))]
      rfl
    · obtain rfl : a = ⟨b, off, none⟩ := by simpa using hab
      exact run_convert_bytes_arg w 30 5 Try.underlying30 Try.underlying5 b off n c bs h1 hc 9 Try.underlying9
set_option maxHeartbeats 400000 in
theorem same_any {a1 a2 : Option Addr} {n c1 c2 : Nat} {bs : List Int} (h1 : Rd w a1 n c1 bs) (h2 : Rd w a2 n c2 bs) : Calls Try.prog 46 #[.slice a1 n c1, .slice a2 n c2] w fun e w' => e = .returned (.bool true) ∧ w = w' := by
  have k1 := conv_rd h1
  have k2 := conv_rd h2
  generalize strOfNums bs = S at k1 k2
  clear h1 h2
  go_enter Try.func46, Try.ntmps46
  go_wp2
  go_ret
  exact ⟨by simp, rfl⟩
set_option maxHeartbeats 400000 in
theorem alike_any (fi fs fd fu : Int) {a1 a2 : Option Addr} {n c1 c2 : Nat} {bs : List Int} (h1 : Rd w a1 n c1 bs) (h2 : Rd w a2 n c2 bs) : Calls Try.prog 50 #[.agg #[.int .i64 fi, .int .i64 fs, .int .i64 fd, .int .i64 fu, .slice a1 n c1], .agg #[.int .i64 fi, .int .i64 fs, .int .i64 fd, .int .i64 fu, .slice a2 n c2]] w fun e w' => e = .returned (.bool true) ∧ Below w.heap.size w w' := by
  generalize hW : (w.alloc (.cells #[.int .i64 fi, .int .i64 fs, .int .i64 fd, .int .i64 fu, .slice a1 n c1] 48)).alloc (.cells #[.int .i64 fi, .int .i64 fs, .int .i64 fd, .int .i64 fu, .slice a2 n c2] 48) = W
  have hbW : Below w.heap.size w W := by rw [← hW]; exact balloc (balloc (Below.refl _ w))
  obtain ⟨d0, d1, d2, d3, d4⟩ := fl_cells (show W.heap[w.heap.size]? = some (.cells #[.int .i64 fi, .int .i64 fs, .int .i64 fd, .int .i64 fu, .slice a1 n c1] 48 (0, 0)) by rw [← hW]; exact blk_alloc (heap_alloc_new w _))
  obtain ⟨e0, e1, e2, e3, e4⟩ := fl_cells (show W.heap[w.heap.size + 1]? = some (.cells #[.int .i64 fi, .int .i64 fs, .int .i64 fd, .int .i64 fu, .slice a2 n c2] 48 (0, 0)) by
    rw [← hW]
    have := heap_alloc_new (w.alloc (.cells #[.int .i64 fi, .int .i64 fs, .int .i64 fd, .int .i64 fu, .slice a1 n c1] 48)) (.cells #[.int .i64 fi, .int .i64 fs, .int .i64 fd, .int .i64 fu, .slice a2 n c2] 48)
    simpa using this)
  have HS := same_any (h1.still hbW) (h2.still hbW)
  clear h1 h2
  go_enter Try.func50, Try.ntmps50
  go_wp2_with (first | (go_at_call 46; refine HS.mono ?_; rintro e w1 ⟨rfl, rfl⟩) | fail)
  all_goals (go_ret; exact ⟨by simp, hbW⟩)
theorem RdF.still {ao : Option Addr} {n : Nat} {ds : List Fd} (h : RdF w ao n ds) (hb : Below w.heap.size w w') : RdF w' ao n ds := by
  obtain ⟨fs, h1, h2, h3, h4⟩ := h
  refine ⟨fs, h1, h2, fun f hf => (h3 f hf).still hb, h4.elim (fun hh => Or.inl hh) (fun hh => Or.inr ?_)⟩
  obtain ⟨g, hg, hc⟩ := hh
  refine ⟨g, hg, fun i hi j hj => ?_⟩
  have h5 := hc i hi j hj
  have : ∃ u, (fs.getD i f0).cs[j]? = some u := ⟨_, Array.getElem?_eq_getElem (by show j < (fs.getD i f0).cs.size; exact hj)⟩
  obtain ⟨u, hu⟩ := this
  rw [hu] at h5 ⊢
  exact below_at hb h5
theorem RdF.at {ao : Option Addr} {n k : Nat} {ds : List Fd} (h : RdF w ao n ds) (hk : k < n) : ∃ (g : Nat) (f : Fx), ao = some ⟨g, 0, none⟩ ∧ ds[k]? = some f.d ∧ Rd w f.a f.n f.c f.bs ∧ w.cell? ⟨g, k * 5, none⟩ = some (.int .i64 f.id) ∧ w.cell? ⟨g, k * 5 + 1, none⟩ = some (.int .i64 f.src) ∧ w.cell? ⟨g, k * 5 + 2, none⟩ = some (.int .i64 f.dst) ∧ w.cell? ⟨g, k * 5 + 3, none⟩ = some (.int .i64 f.due) ∧ w.cell? ⟨g, k * 5 + 4, none⟩ = some (.slice f.a f.n f.c) := by
  obtain ⟨fs, h1, h2, h3, h4⟩ := h
  rcases h4 with h4 | ⟨g, hg, hc⟩
  · omega
  · refine ⟨g, fs.getD k f0, hg, ?_, h3 _ (mem_getD (by omega)), hc k hk 0 (by omega), hc k hk 1 (by omega), hc k hk 2 (by omega), hc k hk 3 (by omega), hc k hk 4 (by omega)⟩
    rw [← h1]
    simp [List.getD, List.getElem?_eq_getElem (show k < fs.length by omega)]
theorem RdF.len {ao : Option Addr} {n : Nat} {ds : List Fd} (h : RdF w ao n ds) : n = ds.length := by
  obtain ⟨fs, h1, h2, h3, h4⟩ := h
  rw [← h1, List.length_map, h2]
set_option maxHeartbeats 400000 in
theorem lists_any {a1 a2 : Option Addr} {n1 n2 c1 c2 : Nat} {ds : List Fd} (h1 : RdF w a1 n1 ds) (h2 : RdF w a2 n2 ds) (hn : n1 ≤ 2199023255552) : Calls Try.prog 28 #[.slice a1 n1 c1, .slice a2 n2 c2] w fun e w' => e = .returned (.bool true) ∧ Below w.heap.size w w' := by
  obtain rfl : n1 = n2 := by rw [h1.len, h2.len]
  have H1 : Hid (RdF w a1 n1 ds) := h1
  have H2 : Hid (RdF w a2 n1 ds) := h2
  clear h1 h2
  go_enter Try.func28, Try.ntmps28
  go_wp2
  go_loopw [5] (fun i wr => ∃ k : Nat, k ≤ n1 ∧ i = .int .i64 k ∧ Below w.heap.size w wr) (fun i _ => n1 - (intOf i).toNat)
  case atStart => exact ⟨0, Nat.zero_le _, rfl, Below.refl _ _⟩
  case round =>
    obtain ⟨k, hk, rfl, hb⟩ := hrel
    by_cases hlt : k < n1
    · obtain ⟨g, f, hg, hd, hr, x0, x1, x2, x3, x4⟩ := (H1.out.still hb).at hlt
      obtain ⟨g', f', hg', hd', hr', y0, y1, y2, y3, y4⟩ := (H2.out.still hb).at hlt
      have he : f.d = f'.d := by rw [hd] at hd'; simpa using hd'
      have e1 : f'.id = f.id := (congrArg Fd.id he).symm
      have e2 : f'.src = f.src := (congrArg Fd.src he).symm
      have e3 : f'.dst = f.dst := (congrArg Fd.dst he).symm
      have e4 : f'.due = f.due := (congrArg Fd.due he).symm
      have e5 : f'.bs = f.bs := (congrArg Fd.bs he).symm
      have e6 : f'.n = f.n := by rw [← hr.1, ← hr'.1, e5]
      rw [e1] at y0
      rw [e2] at y1
      rw [e3] at y2
      rw [e4] at y3
      rw [e6] at y4 hr'
      rw [e5] at hr'
      have HL : Hid (∀ w', Below wr.heap.size wr w' → Calls Try.prog 50 #[.agg #[.int .i64 f.id, .int .i64 f.src, .int .i64 f.dst, .int .i64 f.due, .slice f.a f.n f.c], .agg #[.int .i64 f.id, .int .i64 f.src, .int .i64 f.dst, .int .i64 f.due, .slice f'.a f.n f'.c]] w' fun e w2 => e = .returned (.bool true) ∧ Below w'.heap.size w' w2) := fun w' hb' => alike_any _ _ _ _ (hr.still hb') (hr'.still hb')
      have HB : Hid (Below w.heap.size w wr) := hb
      have i1 : (0 : Int) ≤ (k : Int) := Int.natCast_nonneg _
      have i2 : (k : Int) < (n1 : Int) := by omega
      rw [hg, hg']
      clear e1 e2 e3 e4 e5 e6 he hd hd' hr hr' hb hg hg'
      go_wp2
      refine wp_region_held_drew (S := (fun w' => w'.cell? ⟨g, k * 5, none⟩ = some (.int .i64 f.id) ∧ w'.cell? ⟨g, k * 5 + 1, none⟩ = some (.int .i64 f.src) ∧ w'.cell? ⟨g, k * 5 + 2, none⟩ = some (.int .i64 f.dst) ∧ w'.cell? ⟨g, k * 5 + 3, none⟩ = some (.int .i64 f.due) ∧ w'.cell? ⟨g, k * 5 + 4, none⟩ = some (.slice f.a f.n f.c) ∧ w'.cell? ⟨g', k * 5, none⟩ = some (.int .i64 f.id) ∧ w'.cell? ⟨g', k * 5 + 1, none⟩ = some (.int .i64 f.src) ∧ w'.cell? ⟨g', k * 5 + 2, none⟩ = some (.int .i64 f.dst) ∧ w'.cell? ⟨g', k * 5 + 3, none⟩ = some (.int .i64 f.due) ∧ w'.cell? ⟨g', k * 5 + 4, none⟩ = some (.slice f'.a f.n f'.c))) (by kernel_rfl) ⟨x0, x1, x2, x3, x4, y0, y1, y2, y3, y4⟩ (fun hHeld => ?_)
      simp only [Act.put, List.size_toArray, List.length_cons, List.length_nil, Nat.zero_add]
      refine wpAnyH_take (i := 0) (v := .slice (some ⟨g, 0, none⟩) n1 c1) rfl (by kernel_rfl) (by kernel_rfl) (by kernel_rfl) (fun _ _ _ h => h) (Or.inl ⟨by rfl, fun w' hS => by go_simp⟩) hHeld ?_
      simp only [Act.put, List.getElem_toArray, List.getElem_cons_zero, List.getElem_cons_succ, List.setIfInBounds_toArray, List.set_cons_zero, List.set_cons_succ]
      refine wpAnyH_take (i := 1) (v := .int .i64 (k : Int)) rfl (by kernel_rfl) (by kernel_rfl) (by kernel_rfl) (fun _ _ _ h => h) (Or.inl ⟨by rfl, fun w' hS => by go_simp⟩) hHeld ?_
      simp only [Act.put, List.getElem_toArray, List.getElem_cons_zero, List.getElem_cons_succ, List.setIfInBounds_toArray, List.set_cons_zero, List.set_cons_succ]
      refine wpAnyH_take (i := 2) (v := .pointer (some ⟨g, k * 5, none⟩)) rfl (by kernel_rfl) (by kernel_rfl) (by kernel_rfl) (fun _ _ _ h => h) (Or.inl ⟨by rfl, fun w' hS => by go_simp⟩) hHeld ?_
      simp only [Act.put, List.getElem_toArray, List.getElem_cons_zero, List.getElem_cons_succ, List.setIfInBounds_toArray, List.set_cons_zero, List.set_cons_succ]
      refine wpAnyH_take (i := 3) (v := .agg #[.int .i64 f.id, .int .i64 f.src, .int .i64 f.dst, .int .i64 f.due, .slice f.a f.n f.c]) rfl (by kernel_rfl) (by kernel_rfl) (by kernel_rfl) (fun _ _ _ h => h) (Or.inl ⟨by rfl, fun w' hS => by (obtain ⟨s0, s1, s2, s3, s4, t0, t1, t2, t3, t4⟩ := hS; go_simp)⟩) hHeld ?_
      simp only [Act.put, List.getElem_toArray, List.getElem_cons_zero, List.getElem_cons_succ, List.setIfInBounds_toArray, List.set_cons_zero, List.set_cons_succ]
      refine wpAnyH_take (i := 4) (v := .slice (some ⟨g', 0, none⟩) n1 c2) rfl (by kernel_rfl) (by kernel_rfl) (by kernel_rfl) (fun _ _ _ h => h) (Or.inl ⟨by rfl, fun w' hS => by go_simp⟩) hHeld ?_
      simp only [Act.put, List.getElem_toArray, List.getElem_cons_zero, List.getElem_cons_succ, List.setIfInBounds_toArray, List.set_cons_zero, List.set_cons_succ]
      refine wpAnyH_take (i := 5) (v := .int .i64 (k : Int)) rfl (by kernel_rfl) (by kernel_rfl) (by kernel_rfl) (fun _ _ _ h => h) (Or.inl ⟨by rfl, fun w' hS => by go_simp⟩) hHeld ?_
      simp only [Act.put, List.getElem_toArray, List.getElem_cons_zero, List.getElem_cons_succ, List.setIfInBounds_toArray, List.set_cons_zero, List.set_cons_succ]
      refine wpAnyH_take (i := 6) (v := .pointer (some ⟨g', k * 5, none⟩)) rfl (by kernel_rfl) (by kernel_rfl) (by kernel_rfl) (fun _ _ _ h => h) (Or.inl ⟨by rfl, fun w' hS => by go_simp⟩) hHeld ?_
      simp only [Act.put, List.getElem_toArray, List.getElem_cons_zero, List.getElem_cons_succ, List.setIfInBounds_toArray, List.set_cons_zero, List.set_cons_succ]
      refine wpAnyH_take (i := 7) (v := .agg #[.int .i64 f.id, .int .i64 f.src, .int .i64 f.dst, .int .i64 f.due, .slice f'.a f.n f'.c]) rfl (by kernel_rfl) (by kernel_rfl) (by kernel_rfl) (fun _ _ _ h => h) (Or.inl ⟨by rfl, fun w' hS => by (obtain ⟨s0, s1, s2, s3, s4, t0, t1, t2, t3, t4⟩ := hS; go_simp)⟩) hHeld ?_
      simp only [Act.put, List.getElem_toArray, List.getElem_cons_zero, List.getElem_cons_succ, List.setIfInBounds_toArray, List.set_cons_zero, List.set_cons_succ]
      refine wpAnyH_ready (rs := [8]) (by kernel_rfl) (by simp) ?_
      refine AllReadyH.cons rfl (fun K hK => ?_) AllReadyH.nil
      go_simp
      refine (HL.out _ (by repeat (first | exact Below.refl _ _ | apply Below.drew))).mono ?_
      rintro e w2 ⟨rfl, hb2⟩
      have B2 : Below wr.heap.size wr w2 := bstep (by repeat (first | exact Below.refl _ _ | apply Below.drew)) hb2
      refine hK.out _ _ ⟨below_at B2 x0, below_at B2 x1, below_at B2 x2, below_at B2 x3, below_at B2 x4, below_at B2 y0, below_at B2 y1, below_at B2 y2, below_at B2 y3, below_at B2 y4⟩ (fun hHeld => ?_)
      clear hK K
      refine wpAnyH_take (i := 9) (v := .bool false) rfl (by kernel_rfl) (by kernel_rfl) (by kernel_rfl) (fun _ _ _ h => h) (Or.inl ⟨by rfl, fun w' hS => by go_simp⟩) hHeld ?_
      simp only [Act.put, List.getElem_toArray, List.getElem_cons_zero, List.getElem_cons_succ, List.setIfInBounds_toArray, List.set_cons_zero, List.set_cons_succ]
      refine wpAnyH_done (by kernel_rfl) ?_ _
      clear hHeld
      go_wp2
      exact ⟨⟨k + 1, by omega, by go_num, bstep HB.out B2⟩, by simp [intOf]; omega⟩
    · obtain rfl : k = n1 := by omega
      go_wp2
      go_ret
      exact ⟨rfl, hb⟩
end
end Go.Proofs.Ythogcanfinjfdaa.Et
namespace Go.Proofs.Ythogcanfinjfdaa.Et
open Go.RowKit Go.Maps
set_option linter.unusedVariables false
set_option linter.unusedSimpArgs false
set_option maxRecDepth 100000
section
variable {w w' W w1 : World} {B m : Nat}
theorem wpList_append_rd {P : Program} (w : World) {ops : Array Oper} {rest : List Oper} {o : Oper} {a : Act} {Q : Exit → Act → World → Prop} (hgd : o.guard = none) (s x : Operand) (t : TypeId)
    (ho : o.op = .call { callee := .builtin .append, args := #[s, x], argTypes := #[t, t] })
    (base : Nat) (e : TypeId) (i : TypeInfo) (z : Value) (bytes : Nat) (ht : P.underlying t = some (.slice e)) (hi : P.info? e = some i) (hz : i.zero = some z)
    (hsize : i.size = 1) (hby : i.bytes = bytes) (hzs : z.cells.size = 1)
    (v : Value) (n : Nat) (xs : List Value) (hs : a.eval s = v) (hown : w.ownsRow base e 1 v n xs)
    (ao : Option Addr) (m c : Nat) (news : List Value) (hx : a.eval x = .slice ao m c) (hnone : ao = none → m = 0 ∧ c = 0) (hl : news.length = m) (hnews : ∀ ad, ao = some ad → ∀ j u, news[j]? = some u → w.cell? (ad.add j) = some u) (h1 : ∀ u ∈ news, u.oneCell' = true)
    (h63 : n + m ≤ maxLen) (hbytes : (n + m) * bytes ≤ 140737488355328) (hbase : base ≤ w.heap.size)
    (h : ∀ v' w', w'.ownsRow base e 1 v' (n + m) (xs ++ news) → w.grownBy w' v.ownBlock → wpList P ops Q rest (a.put o.dst v') w') : wpList P ops Q (o :: rest) a w := by
  cases ao with
  | some ad => exact wpList_append_own w hgd s x t ho base e i z 1 bytes ht hi hz hsize hby hzs (by decide) v n xs hs hown ad m c news hx (by omega) (hnews ad rfl) h1 h63 hbytes hbase fun v' w' h2 h3 _ => h v' w' h2 h3
  | none =>
    obtain ⟨rfl, rfl⟩ := hnone rfl
    obtain rfl : news = [] := List.eq_nil_of_length_eq_zero hl
    exact wpList_append_own_none hgd s x t ho base e i 1 ht hi v n xs hs hown hx (h v w (by simpa using hown) (World.grownBy.refl _ _))
theorem rd_cells {ao : Option Addr} {n c : Nat} {bs : List Int} (h : Rd w ao n c bs) : ∀ ad, ao = some ad → ∀ j u, (bs.map (Value.int .u8))[j]? = some u → w.cell? (ad.add j) = some u := fun ad ha => h.cells ad ha
theorem row_nil (w : World) (B t s : Nat) : w.ownsRow B t s (.slice none 0 0) 0 [] := ⟨by simp, .inl ⟨rfl, rfl⟩⟩
def mk (k : Nat) : List Int := (List.range k).map fun (i : Nat) => (90 : Int) + (i : Int)
theorem mk_succ (k : Nat) : mk (k + 1) = mk k ++ [(90 : Int) + (k : Int)] := by simp [mk, List.range_succ]
theorem mk_len (k : Nat) : (mk k).length = k := by simp [mk]
theorem mk_at (k i : Nat) (hi : i < k) : (mk k).getD i 0 = 90 + (i : Int) := by simp [mk, List.getD, hi]
def Marked (w : World) (B g n c : Nat) (bs : List Int) : Prop := w.ownsRow B 5 1 (.slice (some ⟨g, 0, none⟩) (n + 64) c) (n + 64) ((bs ++ mk 64).map (Value.int .u8))
set_option maxHeartbeats 400000 in
theorem spare_any {ao : Option Addr} {n c : Nat} {bs : List Int} (hr : Rd w ao n c bs) (hlen : n ≤ 140737488351232) : Calls Try.prog 60 #[.slice ao n c] w fun e w' => ∃ g cap, e = .returned (.slice (some ⟨g, 0, none⟩) n cap) ∧ Marked w' w.heap.size g n cap bs ∧ Below w.heap.size w w' := by
  obtain ⟨i0, hi, hz0, hz1, hz2⟩ := info_parts info_u8
  have hlb := hr.1
  have Hr : Hid (Rd w ao n c bs) := hr
  clear hr
  go_enter Try.func60, Try.ntmps60
  go_wp2_with (first
    | (at_builtin; refine wpList_append_rd _ rfl _ _ 30 rfl w.heap.size 5 i0 (.int .u8 0) 1 Try.underlying30 hi hz0 hz1 hz2 rfl (.slice none 0 0) 0 [] rfl (row_nil _ _ _ _) _ _ _ (bs.map (Value.int .u8)) rfl Hr.out.2.1 (by simpa using hlb) (rd_cells Hr.out) (bytes_one bs) ?c1 ?c2 (Nat.le_refl _) ?_)
    | fail)
  case c1 => unfold maxLen; omega
  case c2 => omega
  intro v' w2 hown' hgrow
  have HO : Hid (w2.ownsRow w.heap.size 5 1 v' n (bs.map (Value.int .u8))) := by
    show World.ownsRow _ _ _ _ _ _ _
    simpa using hown'
  have HB : Hid (Below w.heap.size w w2) := (Below.refl _ w).grown hgrow (Nat.le_refl _) (fun k hk => by simp [Value.ownBlock] at hk)
  clear hown' hgrow
  go_wp2
  go_loopw [3, 4] (fun v i wr => ∃ k : Nat, k ≤ 64 ∧ i = .int .i64 k ∧ wr.ownsRow w.heap.size 5 1 v (n + k) ((bs ++ mk k).map (Value.int .u8)) ∧ Below w.heap.size w wr) (fun _ i _ => 64 - (intOf i).toNat)
  case atStart => exact ⟨0, Nat.zero_le _, rfl, by simpa [mk] using HO.out, HB.out⟩
  case round =>
    obtain ⟨k, hk, rfl, ho, hb⟩ := hrel
    by_cases hlt : k < 64
    · have HO : Hid (wr.ownsRow w.heap.size 5 1 u3 (n + k) ((bs ++ mk k).map (Value.int .u8))) := ho
      have HB : Hid (Below w.heap.size w wr) := hb
      have hws := hb.size
      have i1 : (0 : Int) ≤ (k : Int) := Int.natCast_nonneg _
      have i2 : (k : Int) < 64 := by omega
      have hw8 : IntKind.u8.wrap (90 + (k : Int)) = 90 + (k : Int) := wrap_u8 (by omega) (by omega)
      have Hmk : Hid ((bs ++ mk (k + 1)).map (Value.int .u8) = (bs ++ mk k).map (Value.int .u8) ++ [.int .u8 (90 + (k : Int))]) := by
        show _ = _
        rw [mk_succ]; simp
      generalize (bs ++ mk k).map (Value.int .u8) = T at HO Hmk
      clear ho hb
      go_wp2_with (first
        | (at_builtin; refine wpList_append_lies _ rfl _ _ 30 rfl w.heap.size 5 i0 (.int .u8 0) 1 1 Try.underlying30 hi hz0 hz1 hz2 rfl (by omega) u3 (n + k) T rfl (World.ownsRow.alloc HO.out _) _ 1 1 _ rfl rfl (World.news_of_block (heap_alloc_new _ _)) (by simp [Value.oneCell']) (by omega) (by unfold maxLen; omega) (by omega) (by simp; omega) _ rfl ?_; intro g3 cap3 w3 hown3 hgrow3 hat3 hlt3)
        | fail)
      have hb3 : Below w.heap.size w w3 := (balloc HB.out).grown hgrow3 (by simp; omega) (fun q hq => (World.ownsRow.lt HO.out q hq).1)
      clear hgrow3 hat3
      first
        | exact ⟨⟨k + 1, by omega, by go_num, by rw [Hmk.out, ← Nat.add_assoc]; simpa using hown3, hb3⟩, by simp [intOf]; omega⟩
        | (go_roundw
           case rel => exact ⟨k + 1, by omega, by go_num, by rw [Hmk.out, ← Nat.add_assoc]; simpa using hown3, hb3⟩
           case measure => simp [intOf]; omega)
    · obtain rfl : k = 64 := by omega
      rcases ho.2 with ⟨h1, h2⟩ | ⟨g, cap, cur, hv, hg1, hg2, hnc, _⟩
      · omega
      · subst hv
        have i1 : (0 : Int) ≤ (n : Int) := Int.natCast_nonneg _
        have i2 : (n : Int) ≤ (cap : Int) := by omega
        have HO : Hid (wr.ownsRow w.heap.size 5 1 (.slice (some ⟨g, 0, none⟩) (n + 64) cap) (n + 64) ((bs ++ mk 64).map (Value.int .u8))) := ho
        clear ho hg2
        go_wp2
        go_ret
        exact ⟨g, cap, by simp, HO.out, hb⟩
theorem Marked.rd {g n c : Nat} {bs : List Int} (h : Marked w B g n c bs) (hn : bs.length = n) (hr : ∀ i, 0 ≤ bs.getD i 0 ∧ bs.getD i 0 ≤ 255) : Rd w (some ⟨g, 0, none⟩) n c bs := by
  refine ⟨hn, (fun e => by cases e), Or.inr ⟨g, 0, rfl, fun i hi => ?_⟩, hr⟩
  obtain ⟨g', hg', hc, _⟩ := own_at h (i := i) (by omega)
  obtain rfl : g = g' := by simpa using hg'
  rw [Nat.zero_add, hc]
  simp [List.getD, List.getElem?_append_left (show i < bs.length by omega)]
theorem Marked.at {g n c : Nat} {bs : List Int} (h : Marked w B g n c bs) (hn : bs.length = n) {k : Nat} (hk : k < 64) : w.cell? ⟨g, n + k, none⟩ = some (.int .u8 (90 + (k : Int))) := by
  obtain ⟨g', hg', hc, _⟩ := own_at h (i := n + k) (by omega)
  obtain rfl : g = g' := by simpa using hg'
  rw [hc]
  have := mk_at 64 k hk
  simp only [List.getD] at this ⊢
  rw [List.getElem?_append_right (by omega), show n + k - bs.length = k by omega, this]
theorem Marked.cap {g n c : Nat} {bs : List Int} (h : Marked w B g n c bs) : n + 64 ≤ c := by
  rcases h.2 with ⟨h1, h2⟩ | ⟨g, cap, cur, hv, hg1, hg2, hnc, _⟩
  · omega
  · simp at hv; omega
set_option maxHeartbeats 400000 in
theorem kept_any {ao : Option Addr} {g n c cap : Nat} {bs : List Int} (hm : Marked w B g n cap bs) (hr : Rd w ao n c bs) (hlen : n ≤ 140737488351232) : Calls Try.prog 82 #[.slice (some ⟨g, 0, none⟩) n cap, .slice ao n c] w fun e w' => e = .returned (.bool true) ∧ w = w' := by
  have hc := hm.cap
  have HS := same_any (hm.rd hr.1 hr.2.2.2) hr
  have HM : Hid (∀ k, k < 64 → w.cell? ⟨g, n + k, none⟩ = some (.int .u8 (90 + (k : Int)))) := fun k hk => hm.at hr.1 hk
  clear hm hr
  go_enter Try.func82, Try.ntmps82
  have i0 : (0 : Int) ≤ (n : Int) + 64 := by omega
  have i9 : (n : Int) + 64 ≤ (cap : Int) := by omega
  go_wp2
  go_loopw [6] (fun i wr => ∃ k : Nat, k ≤ 64 ∧ i = .int .i64 k ∧ wr = w) (fun i _ => 64 - (intOf i).toNat)
  case atStart => exact ⟨0, Nat.zero_le _, rfl, rfl⟩
  case round =>
    obtain ⟨k, hk, rfl, rfl⟩ := hrel
    by_cases hlt : k < 64
    · have hcell := HM.out k hlt
      have i1 : (0 : Int) ≤ (k : Int) := Int.natCast_nonneg _
      have i2 : (k : Int) < 64 := by omega
      have hw8 : IntKind.u8.wrap (90 + (k : Int)) = 90 + (k : Int) := wrap_u8 (by omega) (by omega)
      have i3 : (0 : Int) ≤ (n : Int) + (k : Int) := by omega
      have i4 : (n : Int) + (k : Int) < (n : Int) + 64 := by omega
      have i5 : ((n : Int) + (k : Int)).toNat = n + k := by omega
      go_wp2
      go_roundw
      case rel => exact ⟨k + 1, by omega, by go_num, (by first | trivial | rfl)⟩
      case measure => simp [intOf]; omega
    · obtain rfl : k = 64 := by omega
      go_wp2_with (first | (go_at_call 46; refine HS.mono ?_; rintro e w1 ⟨rfl, rfl⟩) | fail)
      go_ret
      exact ⟨rfl, rfl⟩
end
end Go.Proofs.Ythogcanfinjfdaa.Et
