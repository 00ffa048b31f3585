import Derived.Test.YtnhhjelplmdloaaWg
namespace Go.Proofs.Ytnhhjelplmdloaa.Et
open Go.RowKit Go.Maps
set_option linter.unusedVariables false
set_option linter.unusedSimpArgs false
set_option maxRecDepth 100000
section
variable {E E1 E' : En} {w w' w1 w2 w3 : World} {B K m : Nat}
def addK (k : Int) : Bool := decide (k = 10 ∨ k = 33 ∨ k = 37)
theorem zFl : (Try.prog.info? 43).map (·.zero) = some (some (.agg f0.cs)) := by kernel_rfl
theorem iFl : (Try.prog.info? 43).map (·.size) = some 5 := by kernel_rfl
theorem bFl0 : Try.prog.built 43 [] = some f0.cs := by kernel_rfl
theorem fx_one (f : Fx) : ∀ u ∈ f.cs.toList, u.oneCell' = true := by
  intro u hu
  simp only [Fx.cs, List.mem_cons, List.not_mem_nil, or_false] at hu
  rcases hu with rfl | rfl | rfl | rfl | rfl <;> rfl
theorem alike0 : Calls Try.prog 39 #[.agg f0.cs, .agg f0.cs] w fun e w' => e = .returned (.bool true) ∧ Below w.heap.size w w' := alike_any 0 0 0 0 (bs := []) ⟨rfl, fun _ => ⟨rfl, rfl⟩, .inl rfl, fun i => by simp⟩ ⟨rfl, fun _ => ⟨rfl, rfl⟩, .inl rfl, fun i => by simp⟩
set_option maxHeartbeats 400000 in
theorem play_round_res (he : E.Ok w B (256 * K)) (hB : B ≤ w.heap.size) (h : Inv E K) (hK : K ≤ 2199023255551) (o : Opx) (bs xs : List Int) (hbb : ∀ w', Below B w w' → Rd w' o.ba o.bn o.bc bs) (hss : ∀ w', Below B w w' → RdI w' o.sa o.sn o.sc xs) (hbn : o.bn ≤ 140737488351232) (hsn : o.sn ≤ 17592186043904) (h63 : o.n ≤ 9223372036854775807) (hk : o.k = 11) : Calls Try.prog 20 #[.pointer (some ⟨E.b, 0, none⟩), .agg o.cs] w fun e w' => e = .returned (.tuple #[]) ∧ Res w w' E B K 0 false := by
  generalize hW : w.alloc (.cells o.cs 46) = W
  have hbW : Below w.heap.size w W := by rw [← hW]; exact balloc (Below.refl _ w)
  have hblk : W.heap[w.heap.size]? = some (.cells o.cs 46 (0, 0)) := by rw [← hW]; exact heap_alloc_new w _
  have hWs : w.heap.size < W.heap.size := lt_heap hblk
  obtain ⟨d0, d1, d2, d3, d4, d5⟩ := op_cells hblk
  have Hb : Hid (Below w.heap.size w W) := hbW
  have heW := he.still hbW
  have hBW : B ≤ W.heap.size := Nat.le_trans hB hbW.size
  have hlow : Below B w W := hbW.mono hB
  have HC : Hid (Calls Try.prog 9 #[.pointer (some ⟨E.b, 0, none⟩)] W fun e w1 => (∃ a n c, e = .returned (.slice a n c)) ∧ Res W w1 E B K 0 false) := round_res heW hBW h hK
  unfold Opx.cs at hW ⊢
  rw [hk] at hW d0 ⊢
  clear he heW h hbW hblk hbb hss
  go_enter Try.func20, Try.ntmps20
  go_wp2_with (first | (go_at_call 9; refine HC.out.mono ?_; rintro e w1 ⟨⟨a, n, c, rfl⟩, hg⟩) | fail)
  all_goals first | (exfalso; omega) | ((first | go_end0 | ((try simp only [Exit.inBlock, Exit.then]); refine bodyPost_ret (results_none rfl _ _ _) rfl ?_)); exact ⟨rfl, hg.pre Hb.out⟩)
set_option maxHeartbeats 400000 in
theorem play_else_res (he : E.Ok w B (256 * K)) (hB : B ≤ w.heap.size) (h : Inv E K) (hK : K ≤ 2199023255551) (o : Opx) (bs xs : List Int) (hbb : ∀ w', Below B w w' → Rd w' o.ba o.bn o.bc bs) (hss : ∀ w', Below B w w' → RdI w' o.sa o.sn o.sc xs) (hbn : o.bn ≤ 140737488351232) (hsn : o.sn ≤ 17592186043904) (h63 : o.n ≤ 9223372036854775807) (h1 : o.k ≠ 5 ∧ o.k ≠ 6 ∧ o.k ≠ 7 ∧ o.k ≠ 10 ∧ o.k ≠ 11 ∧ o.k ≠ 12) (h2 : ¬ (20 < o.k ∧ o.k ≤ 60)) : Calls Try.prog 20 #[.pointer (some ⟨E.b, 0, none⟩), .agg o.cs] w fun e w' => e = .returned (.tuple #[]) ∧ Res w w' E B K 0 false := by
  generalize hW : w.alloc (.cells o.cs 46) = W
  have hbW : Below w.heap.size w W := by rw [← hW]; exact balloc (Below.refl _ w)
  have hblk : W.heap[w.heap.size]? = some (.cells o.cs 46 (0, 0)) := by rw [← hW]; exact heap_alloc_new w _
  have hWs : w.heap.size < W.heap.size := lt_heap hblk
  obtain ⟨d0, d1, d2, d3, d4, d5⟩ := op_cells hblk
  have Hb : Hid (Below w.heap.size w W) := hbW
  have heW := he.still hbW
  have hBW : B ≤ W.heap.size := Nat.le_trans hB hbW.size
  have hlow : Below B w W := hbW.mono hB
  obtain ⟨j1, j2, j3, j4, j5, j6⟩ := h1
  have HG : Hid (Res w W E B K 0 false) := Res.yes (Step.none he hbW) (by omega) (nx_none h) rfl
  unfold Opx.cs at hW ⊢
  clear he heW h hbW hblk hbb hss
  go_enter Try.func20, Try.ntmps20
  go_wp2
  all_goals first | (exfalso; omega) | ((first | go_end0 | ((try simp only [Exit.inBlock, Exit.then]); refine bodyPost_ret (results_none rfl _ _ _) rfl ?_)); exact ⟨rfl, HG.out⟩)
set_option maxHeartbeats 1000000 in
theorem ref_tick (he : E.Ok w B (256 * K)) (hB : B ≤ w.heap.size) (h : Inv E K) (hK : K ≤ 2199023255551) (o : Opx) (bs xs : List Int) (hbb : ∀ w', Below B w w' → Rd w' o.ba o.bn o.bc bs) (hss : ∀ w', Below B w w' → RdI w' o.sa o.sn o.sc xs) (hbn : o.bn ≤ 140737488351232) (hsn : o.sn ≤ 17592186043904) (h63 : o.n ≤ 9223372036854775807) (hk : o.k = 5) : Calls Try.prog 16 #[.pointer (some ⟨E.b, 0, none⟩), .agg o.cs] w fun e w' => ∃ y r, e = .returned (.tuple #[.bool r, .bool true]) ∧ (r = true ↔ y ≠ 0) ∧ Res w w' E B K y (addK o.k) := by
  generalize hW : w.alloc (.cells o.cs 46) = W
  have hbW : Below w.heap.size w W := by rw [← hW]; exact balloc (Below.refl _ w)
  have hblk : W.heap[w.heap.size]? = some (.cells o.cs 46 (0, 0)) := by rw [← hW]; exact heap_alloc_new w _
  have Hb : Hid (Below w.heap.size w W) := hbW
  have heW := he.still hbW
  have hBW : B ≤ W.heap.size := Nat.le_trans hB hbW.size
  have hlow : Below B w W := hbW.mono hB
  have HOc : Hid (∀ X, Below W.heap.size W X → X.heap[w.heap.size]? = some (.cells o.cs 46 (0, 0))) := fun X hX => (hX.block _ (lt_heap hblk)).trans hblk
  have HC : Hid (∀ X, Below W.heap.size W X → Calls Try.prog 37 #[.pointer (some ⟨E.b, 0, none⟩), .int .i64 o.p] X fun e w1 => ∃ x y, e = .returned (.tuple #[.int .i64 x, .int .i64 y]) ∧ (y ≠ 0 → x = 0) ∧ Res X w1 E B K y false) := fun X hX => tick_res (heW.still hX) h o.p
  rw [show addK o.k = false by rw [hk]; rfl]
  unfold Opx.cs at hW ⊢
  rw [hk] at hW ⊢
  clear he heW h hbW hblk hbb hss
  go_enter Try.func16, Try.ntmps16
  go_upto_region 6 with (first
    | (refine wl_buildZ rfl 43 _ rfl (built_eq (by kernel_rfl) bFl0) ?_)
    | (refine wl_allocZ rfl 43 rfl zFl ?_; intro W1 k1 b1 s1; have K1 : Hid (W1.heap[W.heap.size]? = some (.cells f0.cs 43 (0, 0))) := k1; have B1 : Hid (Below W.heap.size W W1) := b1; clear k1 b1 s1)
    | (refine wl_storeZ rfl 43 _ _ rfl (L := f0.cs.toList) rfl rfl K1.out iFl rfl (fx_one f0) ?_; intro W2 k2 kk2; have K2 : Hid (W2.heap[W.heap.size]? = some (.cells f0.cs 43 (0, 0))) := k2; have KK2 : Hid (Mb.Kept W1 W2 (fun j => j = W.heap.size)) := kk2; clear k2 kk2)
    | fail)
  have B2 : Hid (Below W.heap.size W W2) := (show Below W.heap.size W W2 from B1.out.trans (KK2.out.below B1.out.size (fun q hq e => by have e' : q = W.heap.size := e; omega)))
  have HF : Hid (∀ X, Below W2.heap.size W2 X → X.rangeAt W.heap.size 0 f0.cs.toList) := fun X hX => Ln.blk_range ((hX.block _ (lt_heap K2.out)).trans K2.out)
  obtain ⟨d0, d1, d2, d3, d4, d5⟩ := op_cells (HOc.out W2 B2.out)
  have HWz : Hid (Below w.heap.size w W2) := bstep Hb.out B2.out
  clear K1 B1 K2 KK2 hW
  rw [hk] at d0
  go_upto_region 18 with (first
    | (go_at_call 37; refine (HC.out W2 B2.out).mono ?_; rintro e w1 ⟨x, y, rfl, hz, hr⟩; have HR : Hid (Res W2 w1 E B K y false) := hr; have HZ : Hid (y ≠ 0 → x = 0) := hz; clear hz; clear hr)
    | fail)
  by_cases hy : y = 0
  · subst hy
    clear d0 d1 d2 d3 d4 d5
    go_wp2
    go_ret2
    exact ⟨0, false, rfl, by simp, HR.out.pre HWz.out⟩
  · have hb : Below W2.heap.size W2 w1 := by
      rcases HR.out with ⟨_, h⟩ | ⟨h, _⟩
      · exact h
      · exact absurd h hy
    have HFr := HF.out w1 hb
    have HFr : Hid (w1.rangeAt W.heap.size 0 f0.cs.toList) := HFr
    have e1 : (y == 0) = false := by simpa using hy
    have e2 : (y != 0) = true := by simpa using hy
    obtain rfl := HZ.out hy
    clear d0 d1 d2 d3 d4 d5 hb
    go_wp2_with (first
      | (refine Ln.load_mid 43 (.tmp 8) HFr.out _ Try.underlying43 rfl iFl rfl rfl rfl ?_)
      | (refine wl_buildZ rfl 43 _ rfl (built_eq (by kernel_rfl) bFl0) ?_)
      | (refine Ln.built0 rfl 43 _ rfl rfl ?_)
      | (go_at_call 39; refine alike0.mono ?_; rintro e w2 ⟨rfl, hb2⟩; have B3 : Hid (Below w1.heap.size w1 w2) := hb2; clear hb2)
      | fail)
    go_ret2
    exact ⟨y, true, rfl, by simp [hy], (HR.out.pre HWz.out).post B3.out⟩
set_option maxHeartbeats 1000000 in
theorem ref_crash (he : E.Ok w B (256 * K)) (hB : B ≤ w.heap.size) (h : Inv E K) (hK : K ≤ 2199023255551) (o : Opx) (bs xs : List Int) (hbb : ∀ w', Below B w w' → Rd w' o.ba o.bn o.bc bs) (hss : ∀ w', Below B w w' → RdI w' o.sa o.sn o.sc xs) (hbn : o.bn ≤ 140737488351232) (hsn : o.sn ≤ 17592186043904) (h63 : o.n ≤ 9223372036854775807) (hk : o.k = 6) : Calls Try.prog 16 #[.pointer (some ⟨E.b, 0, none⟩), .agg o.cs] w fun e w' => ∃ y r, e = .returned (.tuple #[.bool r, .bool true]) ∧ (r = true ↔ y ≠ 0) ∧ Res w w' E B K y (addK o.k) := by
  generalize hW : w.alloc (.cells o.cs 46) = W
  have hbW : Below w.heap.size w W := by rw [← hW]; exact balloc (Below.refl _ w)
  have hblk : W.heap[w.heap.size]? = some (.cells o.cs 46 (0, 0)) := by rw [← hW]; exact heap_alloc_new w _
  have Hb : Hid (Below w.heap.size w W) := hbW
  have heW := he.still hbW
  have hBW : B ≤ W.heap.size := Nat.le_trans hB hbW.size
  have hlow : Below B w W := hbW.mono hB
  have HOc : Hid (∀ X, Below W.heap.size W X → X.heap[w.heap.size]? = some (.cells o.cs 46 (0, 0))) := fun X hX => (hX.block _ (lt_heap hblk)).trans hblk
  have HC : Hid (∀ X, Below W.heap.size W X → Calls Try.prog 38 #[.pointer (some ⟨E.b, 0, none⟩), .int .i64 o.p] X fun e w1 => ∃ y, e = .returned (.int .i64 y) ∧ Res X w1 E B K y false) := fun X hX => crash_res (heW.still hX) h o.p
  rw [show addK o.k = false by rw [hk]; rfl]
  unfold Opx.cs at hW ⊢
  rw [hk] at hW ⊢
  clear he heW h hbW hblk hbb hss
  go_enter Try.func16, Try.ntmps16
  go_upto_region 6 with (first
    | (refine wl_buildZ rfl 43 _ rfl (built_eq (by kernel_rfl) bFl0) ?_)
    | (refine wl_allocZ rfl 43 rfl zFl ?_; intro W1 k1 b1 s1; have K1 : Hid (W1.heap[W.heap.size]? = some (.cells f0.cs 43 (0, 0))) := k1; have B1 : Hid (Below W.heap.size W W1) := b1; clear k1 b1 s1)
    | (refine wl_storeZ rfl 43 _ _ rfl (L := f0.cs.toList) rfl rfl K1.out iFl rfl (fx_one f0) ?_; intro W2 k2 kk2; have K2 : Hid (W2.heap[W.heap.size]? = some (.cells f0.cs 43 (0, 0))) := k2; have KK2 : Hid (Mb.Kept W1 W2 (fun j => j = W.heap.size)) := kk2; clear k2 kk2)
    | fail)
  have B2 : Hid (Below W.heap.size W W2) := (show Below W.heap.size W W2 from B1.out.trans (KK2.out.below B1.out.size (fun q hq e => by have e' : q = W.heap.size := e; omega)))
  have HF : Hid (∀ X, Below W2.heap.size W2 X → X.rangeAt W.heap.size 0 f0.cs.toList) := fun X hX => Ln.blk_range ((hX.block _ (lt_heap K2.out)).trans K2.out)
  obtain ⟨d0, d1, d2, d3, d4, d5⟩ := op_cells (HOc.out W2 B2.out)
  have HWz : Hid (Below w.heap.size w W2) := bstep Hb.out B2.out
  clear K1 B1 K2 KK2 hW
  rw [hk] at d0
  go_upto_region 18 with (first
    | (go_at_call 38; refine (HC.out W2 B2.out).mono ?_; rintro e w1 ⟨y, rfl, hr⟩; have HR : Hid (Res W2 w1 E B K y false) := hr; skip; clear hr)
    | fail)
  by_cases hy : y = 0
  · subst hy
    clear d0 d1 d2 d3 d4 d5
    go_wp2
    go_ret2
    exact ⟨0, false, rfl, by simp, HR.out.pre HWz.out⟩
  · have hb : Below W2.heap.size W2 w1 := by
      rcases HR.out with ⟨_, h⟩ | ⟨h, _⟩
      · exact h
      · exact absurd h hy
    have HFr := HF.out w1 hb
    have HFr : Hid (w1.rangeAt W.heap.size 0 f0.cs.toList) := HFr
    have e1 : (y == 0) = false := by simpa using hy
    have e2 : (y != 0) = true := by simpa using hy
    clear d0 d1 d2 d3 d4 d5 hb
    go_wp2_with (first
      | (refine Ln.load_mid 43 (.tmp 8) HFr.out _ Try.underlying43 rfl iFl rfl rfl rfl ?_)
      | (refine wl_buildZ rfl 43 _ rfl (built_eq (by kernel_rfl) bFl0) ?_)
      | (refine Ln.built0 rfl 43 _ rfl rfl ?_)
      | (go_at_call 39; refine alike0.mono ?_; rintro e w2 ⟨rfl, hb2⟩; have B3 : Hid (Below w1.heap.size w1 w2) := hb2; clear hb2)
      | fail)
    go_ret2
    exact ⟨y, true, rfl, by simp [hy], (HR.out.pre HWz.out).post B3.out⟩
set_option maxHeartbeats 1000000 in
theorem ref_restart (he : E.Ok w B (256 * K)) (hB : B ≤ w.heap.size) (h : Inv E K) (hK : K ≤ 2199023255551) (o : Opx) (bs xs : List Int) (hbb : ∀ w', Below B w w' → Rd w' o.ba o.bn o.bc bs) (hss : ∀ w', Below B w w' → RdI w' o.sa o.sn o.sc xs) (hbn : o.bn ≤ 140737488351232) (hsn : o.sn ≤ 17592186043904) (h63 : o.n ≤ 9223372036854775807) (hk : o.k = 7) : Calls Try.prog 16 #[.pointer (some ⟨E.b, 0, none⟩), .agg o.cs] w fun e w' => ∃ y r, e = .returned (.tuple #[.bool r, .bool true]) ∧ (r = true ↔ y ≠ 0) ∧ Res w w' E B K y (addK o.k) := by
  generalize hW : w.alloc (.cells o.cs 46) = W
  have hbW : Below w.heap.size w W := by rw [← hW]; exact balloc (Below.refl _ w)
  have hblk : W.heap[w.heap.size]? = some (.cells o.cs 46 (0, 0)) := by rw [← hW]; exact heap_alloc_new w _
  have Hb : Hid (Below w.heap.size w W) := hbW
  have heW := he.still hbW
  have hBW : B ≤ W.heap.size := Nat.le_trans hB hbW.size
  have hlow : Below B w W := hbW.mono hB
  have HOc : Hid (∀ X, Below W.heap.size W X → X.heap[w.heap.size]? = some (.cells o.cs 46 (0, 0))) := fun X hX => (hX.block _ (lt_heap hblk)).trans hblk
  have HC : Hid (∀ X, Below W.heap.size W X → Calls Try.prog 12 #[.pointer (some ⟨E.b, 0, none⟩), .int .i64 o.p] X fun e w1 => ∃ x y, e = .returned (.tuple #[.int .i64 x, .int .i64 y]) ∧ (y ≠ 0 → x = 0) ∧ Res X w1 E B K y false) := fun X hX => restart_res (heW.still hX) h o.p
  rw [show addK o.k = false by rw [hk]; rfl]
  unfold Opx.cs at hW ⊢
  rw [hk] at hW ⊢
  clear he heW h hbW hblk hbb hss
  go_enter Try.func16, Try.ntmps16
  go_upto_region 6 with (first
    | (refine wl_buildZ rfl 43 _ rfl (built_eq (by kernel_rfl) bFl0) ?_)
    | (refine wl_allocZ rfl 43 rfl zFl ?_; intro W1 k1 b1 s1; have K1 : Hid (W1.heap[W.heap.size]? = some (.cells f0.cs 43 (0, 0))) := k1; have B1 : Hid (Below W.heap.size W W1) := b1; clear k1 b1 s1)
    | (refine wl_storeZ rfl 43 _ _ rfl (L := f0.cs.toList) rfl rfl K1.out iFl rfl (fx_one f0) ?_; intro W2 k2 kk2; have K2 : Hid (W2.heap[W.heap.size]? = some (.cells f0.cs 43 (0, 0))) := k2; have KK2 : Hid (Mb.Kept W1 W2 (fun j => j = W.heap.size)) := kk2; clear k2 kk2)
    | fail)
  have B2 : Hid (Below W.heap.size W W2) := (show Below W.heap.size W W2 from B1.out.trans (KK2.out.below B1.out.size (fun q hq e => by have e' : q = W.heap.size := e; omega)))
  have HF : Hid (∀ X, Below W2.heap.size W2 X → X.rangeAt W.heap.size 0 f0.cs.toList) := fun X hX => Ln.blk_range ((hX.block _ (lt_heap K2.out)).trans K2.out)
  obtain ⟨d0, d1, d2, d3, d4, d5⟩ := op_cells (HOc.out W2 B2.out)
  have HWz : Hid (Below w.heap.size w W2) := bstep Hb.out B2.out
  clear K1 B1 K2 KK2 hW
  rw [hk] at d0
  go_upto_region 18 with (first
    | (go_at_call 12; refine (HC.out W2 B2.out).mono ?_; rintro e w1 ⟨x, y, rfl, hz, hr⟩; have HR : Hid (Res W2 w1 E B K y false) := hr; have HZ : Hid (y ≠ 0 → x = 0) := hz; clear hz; clear hr)
    | fail)
  by_cases hy : y = 0
  · subst hy
    clear d0 d1 d2 d3 d4 d5
    go_wp2
    go_ret2
    exact ⟨0, false, rfl, by simp, HR.out.pre HWz.out⟩
  · have hb : Below W2.heap.size W2 w1 := by
      rcases HR.out with ⟨_, h⟩ | ⟨h, _⟩
      · exact h
      · exact absurd h hy
    have HFr := HF.out w1 hb
    have HFr : Hid (w1.rangeAt W.heap.size 0 f0.cs.toList) := HFr
    have e1 : (y == 0) = false := by simpa using hy
    have e2 : (y != 0) = true := by simpa using hy
    obtain rfl := HZ.out hy
    clear d0 d1 d2 d3 d4 d5 hb
    go_wp2_with (first
      | (refine Ln.load_mid 43 (.tmp 8) HFr.out _ Try.underlying43 rfl iFl rfl rfl rfl ?_)
      | (refine wl_buildZ rfl 43 _ rfl (built_eq (by kernel_rfl) bFl0) ?_)
      | (refine Ln.built0 rfl 43 _ rfl rfl ?_)
      | (go_at_call 39; refine alike0.mono ?_; rintro e w2 ⟨rfl, hb2⟩; have B3 : Hid (Below w1.heap.size w1 w2) := hb2; clear hb2)
      | fail)
    go_ret2
    exact ⟨y, true, rfl, by simp [hy], (HR.out.pre HWz.out).post B3.out⟩
set_option maxHeartbeats 1000000 in
theorem ref_post (he : E.Ok w B (256 * K)) (hB : B ≤ w.heap.size) (h : Inv E K) (hK : K ≤ 2199023255551) (o : Opx) (bs xs : List Int) (hbb : ∀ w', Below B w w' → Rd w' o.ba o.bn o.bc bs) (hss : ∀ w', Below B w w' → RdI w' o.sa o.sn o.sc xs) (hbn : o.bn ≤ 140737488351232) (hsn : o.sn ≤ 17592186043904) (h63 : o.n ≤ 9223372036854775807) (hk : o.k = 10) : Calls Try.prog 16 #[.pointer (some ⟨E.b, 0, none⟩), .agg o.cs] w fun e w' => ∃ y r, e = .returned (.tuple #[.bool r, .bool true]) ∧ (r = true ↔ y ≠ 0) ∧ Res w w' E B K y (addK o.k) := by
  generalize hW : w.alloc (.cells o.cs 46) = W
  have hbW : Below w.heap.size w W := by rw [← hW]; exact balloc (Below.refl _ w)
  have hblk : W.heap[w.heap.size]? = some (.cells o.cs 46 (0, 0)) := by rw [← hW]; exact heap_alloc_new w _
  have Hb : Hid (Below w.heap.size w W) := hbW
  have heW := he.still hbW
  have hBW : B ≤ W.heap.size := Nat.le_trans hB hbW.size
  have hlow : Below B w W := hbW.mono hB
  have HOc : Hid (∀ X, Below W.heap.size W X → X.heap[w.heap.size]? = some (.cells o.cs 46 (0, 0))) := fun X hX => (hX.block _ (lt_heap hblk)).trans hblk
  have HC : Hid (∀ X, Below W.heap.size W X → Calls Try.prog 7 #[.pointer (some ⟨E.b, 0, none⟩), .int .i64 o.p, .int .i64 o.q, .slice o.ba o.bn o.bc] X fun e w1 => ∃ x y, e = .returned (.tuple #[.int .i64 x, .int .i64 y]) ∧ (y ≠ 0 → x = 0) ∧ Res X w1 E B K y true) := fun X hX => post_res (heW.still hX) (Nat.le_trans hBW hX.size) h hK o.p o.q o.bn bs o.ba o.bc (hbb X (hlow.trans (hX.mono hBW)))
  rw [show addK o.k = true by rw [hk]; rfl]
  unfold Opx.cs at hW ⊢
  rw [hk] at hW ⊢
  clear he heW h hbW hblk hbb hss
  go_enter Try.func16, Try.ntmps16
  go_upto_region 6 with (first
    | (refine wl_buildZ rfl 43 _ rfl (built_eq (by kernel_rfl) bFl0) ?_)
    | (refine wl_allocZ rfl 43 rfl zFl ?_; intro W1 k1 b1 s1; have K1 : Hid (W1.heap[W.heap.size]? = some (.cells f0.cs 43 (0, 0))) := k1; have B1 : Hid (Below W.heap.size W W1) := b1; clear k1 b1 s1)
    | (refine wl_storeZ rfl 43 _ _ rfl (L := f0.cs.toList) rfl rfl K1.out iFl rfl (fx_one f0) ?_; intro W2 k2 kk2; have K2 : Hid (W2.heap[W.heap.size]? = some (.cells f0.cs 43 (0, 0))) := k2; have KK2 : Hid (Mb.Kept W1 W2 (fun j => j = W.heap.size)) := kk2; clear k2 kk2)
    | fail)
  have B2 : Hid (Below W.heap.size W W2) := (show Below W.heap.size W W2 from B1.out.trans (KK2.out.below B1.out.size (fun q hq e => by have e' : q = W.heap.size := e; omega)))
  have HF : Hid (∀ X, Below W2.heap.size W2 X → X.rangeAt W.heap.size 0 f0.cs.toList) := fun X hX => Ln.blk_range ((hX.block _ (lt_heap K2.out)).trans K2.out)
  obtain ⟨d0, d1, d2, d3, d4, d5⟩ := op_cells (HOc.out W2 B2.out)
  have HWz : Hid (Below w.heap.size w W2) := bstep Hb.out B2.out
  clear K1 B1 K2 KK2 hW
  rw [hk] at d0
  go_upto_region 18 with (first
    | (go_at_call 7; refine (HC.out W2 B2.out).mono ?_; rintro e w1 ⟨x, y, rfl, hz, hr⟩; have HR : Hid (Res W2 w1 E B K y true) := hr; have HZ : Hid (y ≠ 0 → x = 0) := hz; clear hz; clear hr)
    | fail)
  by_cases hy : y = 0
  · subst hy
    clear d0 d1 d2 d3 d4 d5
    go_wp2
    go_ret2
    exact ⟨0, false, rfl, by simp, HR.out.pre HWz.out⟩
  · have hb : Below W2.heap.size W2 w1 := by
      rcases HR.out with ⟨_, h⟩ | ⟨h, _⟩
      · exact h
      · exact absurd h hy
    have HFr := HF.out w1 hb
    have HFr : Hid (w1.rangeAt W.heap.size 0 f0.cs.toList) := HFr
    have e1 : (y == 0) = false := by simpa using hy
    have e2 : (y != 0) = true := by simpa using hy
    obtain rfl := HZ.out hy
    clear d0 d1 d2 d3 d4 d5 hb
    go_wp2_with (first
      | (refine Ln.load_mid 43 (.tmp 8) HFr.out _ Try.underlying43 rfl iFl rfl rfl rfl ?_)
      | (refine wl_buildZ rfl 43 _ rfl (built_eq (by kernel_rfl) bFl0) ?_)
      | (refine Ln.built0 rfl 43 _ rfl rfl ?_)
      | (go_at_call 39; refine alike0.mono ?_; rintro e w2 ⟨rfl, hb2⟩; have B3 : Hid (Below w1.heap.size w1 w2) := hb2; clear hb2)
      | fail)
    go_ret2
    exact ⟨y, true, rfl, by simp [hy], (HR.out.pre HWz.out).post B3.out⟩
end
end Go.Proofs.Ytnhhjelplmdloaa.Et
namespace Go.Proofs.Ytnhhjelplmdloaa.Et
open Go.RowKit Go.Maps
set_option linter.unusedVariables false
set_option linter.unusedSimpArgs false
set_option maxRecDepth 100000
section
variable {E E1 E' : En} {w w' w1 w2 w3 : World} {B K m : Nat}
theorem iOp : (Try.prog.info? 46).map (·.size) = some 6 := by kernel_rfl
set_option maxHeartbeats 1000000 in
theorem ref_take (he : E.Ok w B (256 * K)) (hB : B ≤ w.heap.size) (h : Inv E K) (hK : K ≤ 2199023255551) (o : Opx) (bs xs : List Int) (hbb : ∀ w', Below B w w' → Rd w' o.ba o.bn o.bc bs) (hss : ∀ w', Below B w w' → RdI w' o.sa o.sn o.sc xs) (hbn : o.bn ≤ 140737488351232) (hsn : o.sn ≤ 17592186043904) (h63 : o.n ≤ 9223372036854775807) (hk : o.k = 12) : Calls Try.prog 16 #[.pointer (some ⟨E.b, 0, none⟩), .agg o.cs] w fun e w' => ∃ y r, e = .returned (.tuple #[.bool r, .bool true]) ∧ (r = true ↔ y ≠ 0) ∧ Res w w' E B K y (addK o.k) := by
  generalize hW : w.alloc (.cells o.cs 46) = W
  have hbW : Below w.heap.size w W := by rw [← hW]; exact balloc (Below.refl _ w)
  have hblk : W.heap[w.heap.size]? = some (.cells o.cs 46 (0, 0)) := by rw [← hW]; exact heap_alloc_new w _
  have Hb : Hid (Below w.heap.size w W) := hbW
  have heW := he.still hbW
  have hBW : B ≤ W.heap.size := Nat.le_trans hB hbW.size
  have hlow : Below B w W := hbW.mono hB
  have HOc : Hid (∀ X, Below W.heap.size W X → X.heap[w.heap.size]? = some (.cells o.cs 46 (0, 0))) := fun X hX => (hX.block _ (lt_heap hblk)).trans hblk
  have HC : Hid (∀ X, Below W.heap.size W X → Calls Try.prog 19 #[.pointer (some ⟨E.b, 0, none⟩), .int .i64 o.p] X fun e w1 => ∃ f : Fx, ∃ y, e = .returned (.tuple #[.agg f.cs, .int .i64 y]) ∧ (y ≠ 0 → f = f0) ∧ Res X w1 E B K y false) := fun X hX => take_res (heW.still hX) h o.p
  have HOw : Hid (∀ X, E.Ok X B (256 * K) → ∀ j, E.own j → j < X.heap.size) := fun X hX j hj => hX.ltOwn hj
  have HGe : Hid (∀ j, E.own j → j < w.heap.size) := fun j hj => he.ltOwn hj
  have HEo : Hid (E.Ok W B (256 * K)) := heW
  rw [show addK o.k = false by rw [hk]; rfl]
  unfold Opx.cs at hW ⊢
  rw [hk] at hW ⊢
  clear he heW h hbW hblk hbb hss
  go_enter Try.func16, Try.ntmps16
  go_upto_region 6 with (first
    | (refine wl_buildZ rfl 43 _ rfl (built_eq (by kernel_rfl) bFl0) ?_)
    | (refine wl_allocZ rfl 43 rfl zFl ?_; intro W1 k1 b1 s1; have K1 : Hid (W1.heap[W.heap.size]? = some (.cells f0.cs 43 (0, 0))) := k1; have B1 : Hid (Below W.heap.size W W1) := b1; clear k1 b1 s1)
    | (refine wl_storeZ rfl 43 _ _ rfl (L := f0.cs.toList) rfl rfl K1.out iFl rfl (fx_one f0) ?_; intro W2 k2 kk2; have K2 : Hid (W2.heap[W.heap.size]? = some (.cells f0.cs 43 (0, 0))) := k2; have KK2 : Hid (Mb.Kept W1 W2 (fun j => j = W.heap.size)) := kk2; clear k2 kk2)
    | fail)
  have B2 : Hid (Below W.heap.size W W2) := (show Below W.heap.size W W2 from B1.out.trans (KK2.out.below B1.out.size (fun q hq e => by have e' : q = W.heap.size := e; omega)))
  have HF : Hid (∀ X, Below W2.heap.size W2 X → X.rangeAt W.heap.size 0 f0.cs.toList) := fun X hX => Ln.blk_range ((hX.block _ (lt_heap K2.out)).trans K2.out)
  obtain ⟨d0, d1, d2, d3, d4, d5⟩ := op_cells (HOc.out W2 B2.out)
  have HWz : Hid (Below w.heap.size w W2) := bstep Hb.out B2.out
  have K2b : Hid (W2.heap[W.heap.size]? = some (.cells f0.cs 43 (0, 0))) := K2.out
  have HWw : Hid (w.heap.size ≤ W.heap.size) := Hb.out.size
  clear K1 B1 K2 KK2 hW
  rw [hk] at d0
  go_upto_region 15 with fail
  go_upto_region 18 with (first
    | (go_at_call 19; refine (HC.out W2 B2.out).mono ?_; rintro e w1 ⟨f, y, rfl, hz, hr⟩; have HR : Hid (Res W2 w1 E B K y false) := hr; have HZ : Hid (y ≠ 0 → f = f0) := hz; clear hz; have hkw : Kept W2 w1 E.own := (by rcases hr with ⟨_, hb⟩ | ⟨_, E1, m1, st, _⟩; exact Kept.ofBelow hb _; exact st.kept); have K3 : Hid (w1.heap[W.heap.size]? = some (.cells f0.cs 43 (0, 0))) := hkw.obj K2b.out (fun e => by have := HGe.out _ e; have := HWw.out; omega); clear hr hkw)
    | (refine wl_storeZ rfl 43 _ _ rfl (L := f.cs.toList) rfl rfl K3.out iFl rfl (fx_one f) ?_; intro W4 k4 kk4; have K4 : Hid (W4.heap[W.heap.size]? = some (.cells f.cs 43 (0, 0))) := k4; have B4 : Hid (Kept w1 W4 (fun j => j = W.heap.size)) := ⟨kk4.os, kk4.tape, kk4.output, kk4.size, kk4.block⟩; clear k4 kk4)
    | fail)
  have HR4 : Hid (Res w W4 E B K y false) := by
    have hsz : w.heap.size ≤ W.heap.size := HWw.out
    have hlt : W.heap.size < W2.heap.size := lt_heap K2b.out
    rcases HR.out with ⟨hy, hb⟩ | ⟨hy, E1, m1, st, hm, hx, a1, a2⟩
    · have hb' := bstep HWz.out hb
      exact .inl ⟨hy, hb'.trans (B4.out.below hb'.size (fun q hq e => by have e' : q = W.heap.size := e; omega))⟩
    · have hno : ¬ E1.own W.heap.size := fun e => by
        rcases st.own _ e with h1 | h1
        · have := HGe.out _ h1; omega
        · omega
      have st' := st.pre HWz.out
      exact .inr ⟨hy, E1, m1, ⟨st.ok.keep B4.out (fun j hj e => hno (by have e' : j = W.heap.size := e; exact e' ▸ hj)), st'.kept.step B4.out (fun j hj => .inr (by have e' : j = W.heap.size := hj; omega)), st'.own⟩, hm, hx, a1, a2⟩
  by_cases hy : y = 0
  · subst hy
    clear d0 d1 d2 d3 d4 d5
    go_wp2
    go_ret2
    exact ⟨0, false, rfl, by simp, HR4.out⟩
  · obtain rfl := HZ.out hy
    have HFr : Hid (W4.rangeAt W.heap.size 0 f0.cs.toList) := Ln.blk_range K4.out
    have e1 : (y == 0) = false := by simpa using hy
    have e2 : (y != 0) = true := by simpa using hy
    clear d0 d1 d2 d3 d4 d5
    go_wp2_with (first
      | (refine Ln.load_mid 43 (.tmp 8) HFr.out _ Try.underlying43 rfl iFl rfl rfl rfl ?_)
      | (refine wl_buildZ rfl 43 _ rfl (built_eq (by kernel_rfl) bFl0) ?_)
      | (go_at_call 39; refine alike0.mono ?_; rintro e w2 ⟨rfl, hb2⟩; have B3 : Hid (Below W4.heap.size W4 w2) := hb2; clear hb2)
      | fail)
    go_ret2
    exact ⟨y, true, rfl, by simp [hy], HR4.out.post B3.out⟩
set_option maxHeartbeats 1000000 in
theorem ref_do (he : E.Ok w B (256 * K)) (hB : B ≤ w.heap.size) (h : Inv E K) (hK : K ≤ 2199023255551) (o : Opx) (bs xs : List Int) (hbb : ∀ w', Below B w w' → Rd w' o.ba o.bn o.bc bs) (hss : ∀ w', Below B w w' → RdI w' o.sa o.sn o.sc xs) (hbn : o.bn ≤ 140737488351232) (hsn : o.sn ≤ 17592186043904) (h63 : o.n ≤ 9223372036854775807) (h1 : 20 < o.k) (h2 : o.k ≤ 60) : Calls Try.prog 16 #[.pointer (some ⟨E.b, 0, none⟩), .agg o.cs] w fun e w' => ∃ y r, e = .returned (.tuple #[.bool r, .bool true]) ∧ (r = true ↔ y ≠ 0) ∧ Res w w' E B K y (addK o.k) := by
  generalize hW : w.alloc (.cells o.cs 46) = W
  have hbW : Below w.heap.size w W := by rw [← hW]; exact balloc (Below.refl _ w)
  have hblk : W.heap[w.heap.size]? = some (.cells o.cs 46 (0, 0)) := by rw [← hW]; exact heap_alloc_new w _
  have Hb : Hid (Below w.heap.size w W) := hbW
  have heW := he.still hbW
  have hBW : B ≤ W.heap.size := Nat.le_trans hB hbW.size
  have hlow : Below B w W := hbW.mono hB
  have HOc : Hid (∀ X, Below W.heap.size W X → X.heap[w.heap.size]? = some (.cells o.cs 46 (0, 0))) := fun X hX => (hX.block _ (lt_heap hblk)).trans hblk
  have HEv : Hid (∀ X, Below W.heap.size W X → Calls Try.prog 33 #[.agg o.cs] X fun e w2 => ∃ gb cb gs cs, e = .returned (.agg (evC o gb cb gs cs).cs) ∧ Marked w2 X.heap.size gb o.bn cb bs ∧ MarkedI w2 X.heap.size gs o.sn cs xs ∧ Below X.heap.size X w2) := fun X hX => event_any o bs xs (hbb X (hlow.trans (hX.mono hBW))) (hss X (hlow.trans (hX.mono hBW))) hbn hsn h1 h2
  have hbl := (hbb w (Below.refl _ _)).1
  have hb255 := (hbb w (Below.refl _ _)).2.2.2
  have hxl := (hss w (Below.refl _ _)).1
  have HDo : Hid (∀ X w1 gb cb gs cs, Below W.heap.size W X → Below X.heap.size X w1 → Marked w1 X.heap.size gb o.bn cb bs → MarkedI w1 X.heap.size gs o.sn cs xs → Calls Try.prog 32 #[.pointer (some ⟨E.b, 0, none⟩), .agg (evC o gb cb gs cs).cs] w1 fun e w2 => ∃ y, e = .returned (.int .i64 y) ∧ Res w1 w2 E B K y (addK o.k)) := by
    intro X w1 gb cb gs cs hX hb1 hm hmi
    have hgs : ¬ E.own gs := fun e => by
      have q1 := (heW.still hX).ltOwn e
      have q2 := (World.ownsRow.lt hmi gs rfl).1
      omega
    have hres := do_res ((heW.still hX).still hb1) (Nat.le_trans hBW (Nat.le_trans hX.size hb1.size)) h hK (evC o gb cb gs cs) bs xs h63 (hm.rd hbl hb255) hxl gs rfl (fun i hi => hmi.cells hxl hi) hgs
    have ea : decide ((evC o gb cb gs cs).k = 13 ∨ (evC o gb cb gs cs).k = 17) = addK o.k := by
      unfold addK
      rw [decide_eq_decide]
      show (o.k - 20 = 13 ∨ o.k - 20 = 17) ↔ _
      omega
    rw [ea] at hres
    exact hres
  have k1 : ¬ (o.k = 5) := by omega
  have k2 : ¬ (o.k = 6) := by omega
  have k3 : ¬ (o.k = 7) := by omega
  have k4 : ¬ (o.k = 10) := by omega
  have k5 : ¬ (o.k = 12) := by omega
  have HOr : Hid (∀ X, Below W.heap.size W X → X.rangeAt w.heap.size 0 o.cs.toList) := fun X hX => Ln.blk_range (HOc.out X hX)
  clear he heW h hbW hblk hbb hss
  go_enter Try.func16, Try.ntmps16
  go_upto_region 6 with (first
    | (refine wl_buildZ rfl 43 _ rfl (built_eq (by kernel_rfl) bFl0) ?_)
    | (refine wl_allocZ rfl 43 rfl zFl ?_; intro W1 k1 b1 s1; have K1 : Hid (W1.heap[W.heap.size]? = some (.cells f0.cs 43 (0, 0))) := k1; have B1 : Hid (Below W.heap.size W W1) := b1; clear k1 b1 s1)
    | (refine wl_storeZ rfl 43 _ _ rfl (L := f0.cs.toList) rfl rfl K1.out iFl rfl (fx_one f0) ?_; intro W2 k2 kk2; have K2 : Hid (W2.heap[W.heap.size]? = some (.cells f0.cs 43 (0, 0))) := k2; have KK2 : Hid (Mb.Kept W1 W2 (fun j => j = W.heap.size)) := kk2; clear k2 kk2)
    | fail)
  have B2 : Hid (Below W.heap.size W W2) := (show Below W.heap.size W W2 from B1.out.trans (KK2.out.below B1.out.size (fun q hq e => by have e' : q = W.heap.size := e; omega)))
  have HF : Hid (∀ X, Below W2.heap.size W2 X → X.rangeAt W.heap.size 0 f0.cs.toList) := fun X hX => Ln.blk_range ((hX.block _ (lt_heap K2.out)).trans K2.out)
  obtain ⟨d0, d1, d2, d3, d4, d5⟩ := op_cells (HOc.out W2 B2.out)
  have HWz : Hid (Below w.heap.size w W2) := bstep Hb.out B2.out
  clear K1 B1 K2 KK2 hW
  have HDo2 := HDo.out W2
  go_upto_region 17 with fail
  go_upto_region 18 with (first
    | (refine Ln.load_mid 46 (.tmp 3) (HOr.out W2 B2.out) _ Try.underlying46 rfl iOp rfl rfl rfl ?_)
    | (go_at_call 33; refine (HEv.out W2 B2.out).mono ?_; rintro e w0 ⟨gb, cb, gs, cs, rfl, hm, hmi, hb1⟩; have HP : Hid (Calls Try.prog 32 #[.pointer (some ⟨E.b, 0, none⟩), .agg (evC o gb cb gs cs).cs] w0 fun e w2 => ∃ y, e = .returned (.int .i64 y) ∧ Res w0 w2 E B K y (addK o.k)) := HDo2 w0 gb cb gs cs B2.out hb1 hm hmi; have B01 : Hid (Below W2.heap.size W2 w0) := hb1; clear hm hmi hb1 HDo2)
    | (go_at_call 32; refine HP.out.mono ?_; rintro e w1 ⟨y, rfl, hr⟩; have HR : Hid (Res W2 w1 E B K y (addK o.k)) := hr.pre B01.out; clear hr)
    | fail)
  by_cases hy : y = 0
  · subst hy
    clear d0 d1 d2 d3 d4 d5
    go_wp2
    go_ret2
    exact ⟨0, false, rfl, by simp, HR.out.pre HWz.out⟩
  · have hb : Below W2.heap.size W2 w1 := by
      rcases HR.out with ⟨_, h⟩ | ⟨h, _⟩
      · exact h
      · exact absurd h hy
    have HFr := HF.out w1 hb
    have HFr : Hid (w1.rangeAt W.heap.size 0 f0.cs.toList) := HFr
    have e1 : (y == 0) = false := by simpa using hy
    have e2 : (y != 0) = true := by simpa using hy
    clear d0 d1 d2 d3 d4 d5 hb
    go_wp2_with (first
      | (refine Ln.load_mid 43 (.tmp 8) HFr.out _ Try.underlying43 rfl iFl rfl rfl rfl ?_)
      | (refine wl_buildZ rfl 43 _ rfl (built_eq (by kernel_rfl) bFl0) ?_)
      | (refine Ln.built0 rfl 43 _ rfl rfl ?_)
      | (go_at_call 39; refine alike0.mono ?_; rintro e w2 ⟨rfl, hb2⟩; have B3 : Hid (Below w1.heap.size w1 w2) := hb2; clear hb2)
      | fail)
    go_ret2
    exact ⟨y, true, rfl, by simp [hy], (HR.out.pre HWz.out).post B3.out⟩
set_option maxHeartbeats 1000000 in
theorem ref_else (he : E.Ok w B (256 * K)) (hB : B ≤ w.heap.size) (h : Inv E K) (hK : K ≤ 2199023255551) (o : Opx) (bs xs : List Int) (hbb : ∀ w', Below B w w' → Rd w' o.ba o.bn o.bc bs) (hss : ∀ w', Below B w w' → RdI w' o.sa o.sn o.sc xs) (hbn : o.bn ≤ 140737488351232) (hsn : o.sn ≤ 17592186043904) (h63 : o.n ≤ 9223372036854775807) (hn5 : o.k ≠ 5 ∧ o.k ≠ 6 ∧ o.k ≠ 7 ∧ o.k ≠ 10 ∧ o.k ≠ 12) (h2 : ¬ (20 < o.k ∧ o.k ≤ 60)) : Calls Try.prog 16 #[.pointer (some ⟨E.b, 0, none⟩), .agg o.cs] w fun e w' => ∃ y r, e = .returned (.tuple #[.bool r, .bool true]) ∧ (r = true ↔ y ≠ 0) ∧ Res w w' E B K y (addK o.k) := by
  generalize hW : w.alloc (.cells o.cs 46) = W
  have hbW : Below w.heap.size w W := by rw [← hW]; exact balloc (Below.refl _ w)
  have hblk : W.heap[w.heap.size]? = some (.cells o.cs 46 (0, 0)) := by rw [← hW]; exact heap_alloc_new w _
  have Hb : Hid (Below w.heap.size w W) := hbW
  have heW := he.still hbW
  have hBW : B ≤ W.heap.size := Nat.le_trans hB hbW.size
  have hlow : Below B w W := hbW.mono hB
  have HOc : Hid (∀ X, Below W.heap.size W X → X.heap[w.heap.size]? = some (.cells o.cs 46 (0, 0))) := fun X hX => (hX.block _ (lt_heap hblk)).trans hblk
  have HPl : Hid (∀ X, Below W.heap.size W X → Calls Try.prog 20 #[.pointer (some ⟨E.b, 0, none⟩), .agg o.cs] X fun e w1 => e = .returned (.tuple #[]) ∧ Res X w1 E B K 0 false) := fun X hX => by
    have hbb' := fun w' (h : Below B X w') => hbb w' ((hlow.trans (hX.mono hBW)).trans h)
    have hss' := fun w' (h : Below B X w') => hss w' ((hlow.trans (hX.mono hBW)).trans h)
    by_cases k11 : o.k = 11
    · exact play_round_res (heW.still hX) (Nat.le_trans hBW hX.size) h hK o bs xs hbb' hss' hbn hsn h63 k11
    · exact play_else_res (heW.still hX) (Nat.le_trans hBW hX.size) h hK o bs xs hbb' hss' hbn hsn h63 ⟨hn5.1, hn5.2.1, hn5.2.2.1, hn5.2.2.2.1, k11, hn5.2.2.2.2⟩ h2
  rw [show addK o.k = false by apply decide_eq_false; omega]
  have HOr : Hid (∀ X, Below W.heap.size W X → X.rangeAt w.heap.size 0 o.cs.toList) := fun X hX => Ln.blk_range (HOc.out X hX)
  obtain ⟨k1, k2, k3, k4, k5⟩ := hn5
  have k6 : (20 < o.k ∧ ¬ o.k ≤ 60) ∨ ¬ 20 < o.k := by omega
  clear he heW h hbW hblk hbb hss h2
  go_enter Try.func16, Try.ntmps16
  go_upto_region 6 with (first
    | (refine wl_buildZ rfl 43 _ rfl (built_eq (by kernel_rfl) bFl0) ?_)
    | (refine wl_allocZ rfl 43 rfl zFl ?_; intro W1 k1 b1 s1; have K1 : Hid (W1.heap[W.heap.size]? = some (.cells f0.cs 43 (0, 0))) := k1; have B1 : Hid (Below W.heap.size W W1) := b1; clear k1 b1 s1)
    | (refine wl_storeZ rfl 43 _ _ rfl (L := f0.cs.toList) rfl rfl K1.out iFl rfl (fx_one f0) ?_; intro W2 k2 kk2; have K2 : Hid (W2.heap[W.heap.size]? = some (.cells f0.cs 43 (0, 0))) := k2; have KK2 : Hid (Mb.Kept W1 W2 (fun j => j = W.heap.size)) := kk2; clear k2 kk2)
    | fail)
  have B2 : Hid (Below W.heap.size W W2) := (show Below W.heap.size W W2 from B1.out.trans (KK2.out.below B1.out.size (fun q hq e => by have e' : q = W.heap.size := e; omega)))
  have HF : Hid (∀ X, Below W2.heap.size W2 X → X.rangeAt W.heap.size 0 f0.cs.toList) := fun X hX => Ln.blk_range ((hX.block _ (lt_heap K2.out)).trans K2.out)
  obtain ⟨d0, d1, d2, d3, d4, d5⟩ := op_cells (HOc.out W2 B2.out)
  have HWz : Hid (Below w.heap.size w W2) := bstep Hb.out B2.out
  clear K1 B1 K2 KK2 hW
  rcases k6 with ⟨k6, k7⟩ | k6
  · go_wp2_with (first
      | (refine Ln.load_mid 46 (.tmp 3) (HOr.out W2 B2.out) _ Try.underlying46 rfl iOp rfl rfl rfl ?_)
      | (go_at_call 20; refine (HPl.out W2 B2.out).mono ?_; rintro e w1 ⟨rfl, hr⟩; have HR : Hid (Res W2 w1 E B K 0 false) := hr; clear hr)
      | fail)
    go_ret2
    exact ⟨0, false, rfl, by simp, HR.out.pre HWz.out⟩
  · go_wp2_with (first
      | (refine Ln.load_mid 46 (.tmp 3) (HOr.out W2 B2.out) _ Try.underlying46 rfl iOp rfl rfl rfl ?_)
      | (go_at_call 20; refine (HPl.out W2 B2.out).mono ?_; rintro e w1 ⟨rfl, hr⟩; have HR : Hid (Res W2 w1 E B K 0 false) := hr; clear hr)
      | fail)
    go_ret2
    exact ⟨0, false, rfl, by simp, HR.out.pre HWz.out⟩
theorem refused_any (he : E.Ok w B (256 * K)) (hB : B ≤ w.heap.size) (h : Inv E K) (hK : K ≤ 2199023255551) (o : Opx) (bs xs : List Int) (hbb : ∀ w', Below B w w' → Rd w' o.ba o.bn o.bc bs) (hss : ∀ w', Below B w w' → RdI w' o.sa o.sn o.sc xs) (hbn : o.bn ≤ 140737488351232) (hsn : o.sn ≤ 17592186043904) (h63 : o.n ≤ 9223372036854775807) : Calls Try.prog 16 #[.pointer (some ⟨E.b, 0, none⟩), .agg o.cs] w fun e w' => ∃ y r, e = .returned (.tuple #[.bool r, .bool true]) ∧ (r = true ↔ y ≠ 0) ∧ Res w w' E B K y (addK o.k) := by
  by_cases k5 : o.k = 5
  · exact ref_tick he hB h hK o bs xs hbb hss hbn hsn h63 k5
  by_cases k6 : o.k = 6
  · exact ref_crash he hB h hK o bs xs hbb hss hbn hsn h63 k6
  by_cases k7 : o.k = 7
  · exact ref_restart he hB h hK o bs xs hbb hss hbn hsn h63 k7
  by_cases k10 : o.k = 10
  · exact ref_post he hB h hK o bs xs hbb hss hbn hsn h63 k10
  by_cases k12 : o.k = 12
  · exact ref_take he hB h hK o bs xs hbb hss hbn hsn h63 k12
  by_cases k20 : 20 < o.k ∧ o.k ≤ 60
  · exact ref_do he hB h hK o bs xs hbb hss hbn hsn h63 k20.1 k20.2
  exact ref_else he hB h hK o bs xs hbb hss hbn hsn h63 ⟨k5, k6, k7, k10, k12⟩ k20
end
end Go.Proofs.Ytnhhjelplmdloaa.Et
namespace Go.Proofs.Ytnhhjelplmdloaa.Et
open Go.RowKit Go.Maps
set_option linter.unusedVariables false
set_option linter.unusedSimpArgs false
set_option maxRecDepth 100000
section
variable {E E1 E' : En} {w w' w1 w2 w3 : World} {B K m : Nat}
structure Rz (w w1 : World) (E E1 : En) (B K : Nat) (y : Int) (add : Bool) : Prop where
  ok : E1.Ok w1 B (256 * (K + 1))
  inv : Inv E1 (K + 1)
  b : E1.b = E.b
  kept : Kept w w1 E.own
  low : ∀ W : World, W.heap.size ≤ B → Below W.heap.size W w → Below W.heap.size W w1
  no : y ≠ 0 → E1 = E ∧ Below w.heap.size w w1
  yes : y = 0 → add = true → E1.last = E.last + 1 ∧ ∃ f, E1.fs = E.fs ++ [f] ∧ f.id = E.last + 1
  not : y = 0 → add = false → E1.last = E.last
theorem Res.out {y : Int} {add : Bool} (he : E.Ok w B (256 * K)) (hB : B ≤ w.heap.size) (h : Inv E K) (r : Res w w1 E B K y add) : ∃ E1, Rz w w1 E E1 B K y add := by
  rcases r with ⟨hy, hb⟩ | ⟨hy, E1, m1, st, hm, hx, h1, h2⟩
  · exact ⟨E, (he.still hb).mono (by omega), h.mono (Nat.le_succ _), rfl, Kept.ofBelow hb _, fun W hW hl => bstep hl hb, fun _ => ⟨rfl, hb⟩, fun e => absurd e hy, fun e => absurd e hy⟩
  · exact ⟨E1, st.ok.mono hm, hx.inv, hx.b, st.kept, fun W hW hl => hl.trans (st.kept.below hl.size (fun j hj e => by have := he.geOwn e; omega)), fun e => absurd hy e, fun _ => h1, fun _ => h2⟩
theorem ops_range {oa : Option Addr} {n k b off : Nat} {os : Nat → Opx} (h : RdOps w oa n os) (hk : k < n) (hb : Below w.heap.size w w1) (he : oa = some ⟨b, off, none⟩) : w1.rangeAt b (off + k * 6) (os k).cs.toList := by
  rcases h.1 with h0 | ⟨b', off', e', hc⟩
  · omega
  · rw [he] at e'
    simp only [Option.some.injEq, Addr.mk.injEq, and_true] at e'
    obtain ⟨rfl, rfl⟩ := e'
    intro j v hv
    have hj : j < 6 := (List.getElem?_eq_some_iff.1 hv).1
    have := hc k hk j hj
    rw [Array.getElem?_toList] at hv
    rw [Nat.add_assoc]
    exact below_at hb (this.trans hv)
theorem ops_block {oa : Option Addr} {n k : Nat} {os : Nat → Opx} (h : RdOps w oa n os) (hk : k < n) : ∃ b off, oa = some ⟨b, off, none⟩ := by
  rcases h.1 with h0 | ⟨b', off', e', hc⟩
  · omega
  · exact ⟨b', off', e'⟩
theorem zOp : (Try.prog.info? 46).map (·.zero) = some (some (.agg #[.int .i64 0, .int .i64 0, .int .i64 0, .int .i64 0, .slice none 0 0, .slice none 0 0])) := by kernel_rfl
theorem op_one (o : Opx) : ∀ u ∈ o.cs.toList, u.oneCell' = true := by
  intro u hu
  simp only [Opx.cs, List.mem_cons, List.not_mem_nil, or_false] at hu
  rcases hu with rfl | rfl | rfl | rfl | rfl | rfl <;> rfl
theorem last_id {a : Option Addr} {n c : Nat} {L fs : List Fx} {f : Fx} (h : RdG w B a n c L) (hd : L.map Fx.d = (fs ++ [f]).map Fx.d) : ∃ g, a = some ⟨g, 0, none⟩ ∧ n = fs.length + 1 ∧ w.cell? ⟨g, fs.length * 5, none⟩ = some (.int .i64 f.id) := by
  have hl : L.length = fs.length + 1 := by
    have := congrArg List.length hd
    simpa using this
  have hn : n = fs.length + 1 := by rw [← h.len, hl]
  rcases row_cells h.row h.len with h0 | ⟨g, e, hc⟩
  · omega
  · refine ⟨g, e, hn, ?_⟩
    have := hc fs.length (by omega) 0 (by omega)
    rw [Nat.add_zero] at this
    rw [this]
    have e2 : (L.getD fs.length f0).d = f.d := by
      have h2 := congrArg (fun l : List Fd => l[fs.length]?) hd
      simp [List.getD, show fs.length < L.length by omega] at h2
      simp [List.getD, show fs.length < L.length by omega, h2]
    have e3 : (L.getD fs.length f0).id = f.id := congrArg Fd.id e2
    rw [← e3]
    rfl
set_option maxHeartbeats 1000000 in
theorem refusals_no (nd rm : Int) (oa : Option Addr) (n oc : Nat) (hb : badNew nd rm) : Calls Try.prog 4 #[.agg (kc nd rm oa n oc)] w fun e w' => e = .returned (.bool true) ∧ Below w.heap.size w w' := by
  generalize hW : w.alloc (.cells #[.int .i64 nd, .int .i64 rm, .slice oa n oc] 24) = W
  have hbW : Below w.heap.size w W := by rw [← hW]; exact balloc (Below.refl _ w)
  have hblk : W.heap[w.heap.size]? = some (.cells #[.int .i64 nd, .int .i64 rm, .slice oa n oc] 24 (0, 0)) := by rw [← hW]; exact heap_alloc_new w _
  have c0 : W.cell? ⟨w.heap.size, 0, none⟩ = some (.int .i64 nd) := blk_cell hblk 0
  have c1 : W.cell? ⟨w.heap.size, 1, none⟩ = some (.int .i64 rm) := blk_cell hblk 1
  have HA : Hid (Calls Try.prog 6 #[.int .i64 nd, .int .i64 rm] W fun e w' => e = .returned (.tuple #[.pointer none, .int .i64 1]) ∧ W = w') := new_no nd rm hb
  have Hb : Hid (Below w.heap.size w W) := hbW
  unfold kc
  unfold badNew at hb
  clear hbW hblk
  go_enter Try.func4, Try.ntmps4
  go_upto_region 2 with (first
    | (go_at_call 6; refine HA.out.mono ?_; rintro e w1 ⟨rfl, rfl⟩)
    | fail)
  by_cases q1 : nd < 1
  · clear hb
    go_wp2
    go_ret
    exact ⟨rfl, Hb.out⟩
  by_cases q2 : 16 < nd
  · clear hb
    go_wp2
    go_ret
    exact ⟨rfl, Hb.out⟩
  by_cases q3 : rm < 1
  · clear hb
    go_wp2
    go_ret
    exact ⟨rfl, Hb.out⟩
  have q4 : 20000 < rm := by omega
  clear hb
  go_wp2
  go_ret
  exact ⟨rfl, Hb.out⟩
set_option maxHeartbeats 8000000 in
theorem refusals_ok (nd : Nat) (rm : Int) (oa : Option Addr) (n oc : Nat) (os : Nat → Opx) (h1 : 1 ≤ nd) (h2 : nd ≤ 16) (h3 : 1 ≤ rm) (h4 : rm ≤ 20000) (ho : RdOps w oa n os) (hn : n ≤ 1759218604390) : Calls Try.prog 4 #[.agg (kc (nd : Int) rm oa n oc)] w fun e w' => e = .returned (.bool true) ∧ Below w.heap.size w w' := by
  generalize hW : w.alloc (.cells #[.int .i64 (nd : Int), .int .i64 rm, .slice oa n oc] 24) = W
  have hbW : Below w.heap.size w W := by rw [← hW]; exact balloc (Below.refl _ w)
  have hblk : W.heap[w.heap.size]? = some (.cells #[.int .i64 (nd : Int), .int .i64 rm, .slice oa n oc] 24 (0, 0)) := by rw [← hW]; exact heap_alloc_new w _
  have hWs : w.heap.size < W.heap.size := lt_heap hblk
  have HCs : Hid (∀ X, Below W.heap.size W X → X.cell? ⟨w.heap.size, 0, none⟩ = some (.int .i64 (nd : Int)) ∧ X.cell? ⟨w.heap.size, 1, none⟩ = some (.int .i64 rm) ∧ X.cell? ⟨w.heap.size, 2, none⟩ = some (.slice oa n oc)) := fun X hX => ⟨below_at hX (blk_cell hblk 0), below_at hX (blk_cell hblk 1), below_at hX (blk_cell hblk 2)⟩
  have HO : Hid (RdOps W oa n os) := ho.stay hbW
  have HA : Hid (Calls Try.prog 6 #[.int .i64 (nd : Int), .int .i64 rm] W fun e w' => ∃ b bn bc bd, e = .returned (.tuple #[.pointer (some ⟨b, 0, none⟩), .int .i64 0]) ∧ En.Ok (newE b bn bc bd nd rm nd) w' W.heap.size 0 ∧ Below W.heap.size W w') := new_ok nd rm h1 h2 h3 h4
  have Hb : Hid (Below w.heap.size w W) := hbW
  obtain ⟨c0, c1, -⟩ := HCs.out W (Below.refl _ _)
  unfold kc
  clear hbW hblk ho
  go_enter Try.func4, Try.ntmps4
  go_upto_region 2 with (first
    | (go_at_call 6; refine HA.out.mono ?_; rintro e w1 ⟨b, bn, bc, bd, rfl, hE, hb1⟩; have HE : Hid (En.Ok (newE b bn bc bd nd rm nd) w1 W.heap.size 0) := hE; have HB1 : Hid (Below W.heap.size W w1) := hb1; clear hE hb1)
    | fail)
  clear c0 c1 HA
  obtain ⟨c0, c1, -⟩ := HCs.out w1 HB1.out
  have n1 : ¬ (nd : Int) < 1 := by omega
  have n2 : ¬ (16 : Int) < (nd : Int) := by omega
  have n3 : ¬ rm < 1 := by omega
  have n4 : ¬ (20000 : Int) < rm := by omega
  have HRs : Hid (∀ X, Below w1.heap.size w1 X → Calls Try.prog 12 #[.pointer (some ⟨b, 0, none⟩), .int .i64 0] X fun e w' => e = .returned (.tuple #[.int .i64 0, .int .i64 33]) ∧ X = w') := fun X hX => by
    have e1 : rstE (newE b bn bc bd nd rm nd) 0 = 33 := by simp [rstE, isN, newE]; omega
    have := restart_no (HE.out.still hX) 0 (by rw [e1]; decide)
    rw [e1] at this
    exact this
  have HUp : Hid (∀ X, Below w1.heap.size w1 X → Calls Try.prog 13 #[.pointer (some ⟨b, 0, none⟩), .int .i64 0] X fun e w' => e = .returned (.bool true) ∧ X = w') := fun X hX => by
    have := up_any (HE.out.still hX) 0
    rw [show (isN (newE b bn bc bd nd rm nd) 0 && (newE b bn bc bd nd rm nd).up (0 : Int).toNat) = true by simp [isN, newE]; omega] at this
    exact this
  have HIc : Hid (∀ X, Below w1.heap.size w1 X → Calls Try.prog 14 #[.pointer (some ⟨b, 0, none⟩), .int .i64 0] X fun e w' => e = .returned (.int .i64 1) ∧ X = w') := fun X hX => by
    have := inc_any (HE.out.still hX) 0
    rw [show (if isN (newE b bn bc bd nd rm nd) 0 then (newE b bn bc bd nd rm nd).inc (0 : Int).toNat else 0) = 1 by simp [isN, newE]; omega] at this
    exact this
  have HI0 : Hid (Inv (newE b bn bc bd nd rm nd) 0) := ⟨⟨h3, h4⟩, by show ((0 : Nat) : Int) ≤ rm; omega, Nat.le_refl _, fun f hf => by simp [newE] at hf, ⟨Int.le_refl _, Int.le_refl _⟩, List.Pairwise.nil, fun f hf => by simp [newE] at hf, ⟨Int.le_refl _, Int.le_refl _⟩, fun f hf => by simp [newE] at hf⟩
  go_upto_region 11 with (first
    | (go_at_call 12; refine (HRs.out w1 (Below.refl _ _)).mono ?_; rintro e wz ⟨rfl, rfl⟩)
    | (go_at_call 13; refine (HUp.out w1 (Below.refl _ _)).mono ?_; rintro e wz ⟨rfl, rfl⟩)
    | (go_at_call 14; refine (HIc.out w1 (Below.refl _ _)).mono ?_; rintro e wz ⟨rfl, rfl⟩)
    | fail)
  clear c0 c1 n1 n2 n3 n4 HRs HUp HIc
  go_loopw [6, 7] (fun nx i wr => ∃ (k : Nat) (E : En), k ≤ n ∧ i = .int .i64 (k : Int) ∧ nx = .int .i64 (E.last + 1) ∧ E.Ok wr W.heap.size (256 * k) ∧ Inv E k ∧ E.b = b ∧ Below W.heap.size W wr) (fun _ i _ => n - (intOf i).toNat)
  case atStart => exact ⟨0, _, Nat.zero_le _, rfl, rfl, HE.out, HI0.out, rfl, HB1.out⟩
  case round =>
    as_aux_lemma =>
    obtain ⟨k, E, hk, rfl, rfl, hok, hin, rfl, hl⟩ := hrel
    have HOk : Hid (E.Ok wr W.heap.size (256 * k)) := hok
    have HIn : Hid (Inv E k) := hin
    have HL : Hid (Below W.heap.size W wr) := hl
    clear hok hin hl HI0 HE HB1
    have i1 : (0 : Int) ≤ (k : Int) := Int.natCast_nonneg _
    obtain ⟨-, -, c2⟩ := HCs.out wr HL.out
    by_cases hlt : k < n
    · have i2 : (k : Int) < (n : Int) := by omega
      obtain ⟨ob, off, rfl⟩ := ops_block HO.out hlt
      have hopin := HO.out.2 k hlt
      have HRg : Hid (∀ X, Below W.heap.size W X → X.rangeAt ob (off + k * 6) (os k).cs.toList) := fun X hX => ops_range HO.out hlt hX rfl
      obtain ⟨⟨bs, hbs⟩, ⟨xs, hxs⟩⟩ := hopin.low (Below.refl W.heap.size W)
      have hk21 : k ≤ 2199023255551 := by omega
      have hfew : E.fs.length ≤ 20000 := by have := HIn.out.few; have := HIn.out.r1; omega
      have HRf : Hid (∀ X, Below W.heap.size W X → E.Ok X W.heap.size (256 * k) → Calls Try.prog 16 #[.pointer (some ⟨E.b, 0, none⟩), .agg (os k).cs] X fun e w' => ∃ y r, e = .returned (.tuple #[.bool r, .bool true]) ∧ (r = true ↔ y ≠ 0) ∧ ∃ E1, Rz X w' E E1 W.heap.size k y (addK (os k).k)) := fun X hX hE => by
        refine (refused_any hE hX.size HIn.out hk21 (os k) bs xs (fun w' h => hbs w' (hX.trans h)) (fun w' h => hxs w' (hX.trans h)) hopin.2.2.1 hopin.2.2.2.1 hopin.2.2.2.2).mono ?_
        rintro e w' ⟨y, r, rfl, hr, hres⟩
        exact ⟨y, r, rfl, hr, hres.out hE hX.size HIn.out⟩
      have HFl : Hid (∀ X (E1 : En) (k1 : Nat), E1.Ok X W.heap.size (256 * k1) → Inv E1 k1 → Calls Try.prog 15 #[.pointer (some ⟨E1.b, 0, none⟩)] X fun e w' => ∃ a L, e = .returned (.slice a E1.fs.length E1.fs.length) ∧ RdG w' X.heap.size a E1.fs.length E1.fs.length L ∧ L.map Fx.d = E1.fs.map Fx.d ∧ Below X.heap.size X w') := fun X E1 k1 hE hI => flights2_any hE (by have := hI.few; have := hI.r1; omega) hI.szE
      have HLo : Hid (∀ X, E.Ok X W.heap.size (256 * k) → Calls Try.prog 17 #[.pointer (some ⟨E.b, 0, none⟩)] X fun e w' => ∃ a L, e = .returned (.agg (rv 631 (sg E (.slice a E.fs.length E.fs.length))).toArray) ∧ RdG w' X.heap.size a E.fs.length E.fs.length L ∧ L.map Fx.d = E.fs.map Fx.d ∧ Below X.heap.size X w') := fun X hE => look_any hE hfew HIn.out.szE
      clear hbs hxs hopin
      generalize os k = o at *
      go_upto_region 14 with (first
        | (refine Ln.load_mid 46 (.tmp 85) (HRg.out wr HL.out) _ Try.underlying46 rfl iOp rfl rfl rfl ?_)
        | (refine wl_allocZ rfl 46 rfl zOp ?_; intro W1 k1 b1 s1; have K1 : Hid _ := k1; have B1 : Hid (Below wr.heap.size wr W1) := b1; clear k1 b1 s1)
        | (refine wl_storeZ rfl 46 _ _ rfl (L := o.cs.toList) rfl rfl K1.out iOp rfl (op_one o) ?_; intro W2 k2 kk2; have K2 : Hid (W2.heap[wr.heap.size]? = some (.cells o.cs 46 (0, 0))) := k2; have KK2 : Hid (Mb.Kept W1 W2 (fun j => j = wr.heap.size)) := kk2; clear k2 kk2)
        | fail)
      have B2 : Hid (Below wr.heap.size wr W2) := (show Below wr.heap.size wr W2 from B1.out.trans (KK2.out.below B1.out.size (fun q hq e => by have e' : q = wr.heap.size := e; omega)))
      have HOk2 : Hid (E.Ok W2 W.heap.size (256 * k)) := HOk.out.still B2.out
      have HL2 : Hid (Below W.heap.size W W2) := bstep HL.out B2.out
      have HNo : Hid (¬ E.own wr.heap.size) := fun e => by have := HOk.out.ltOwn e; omega
      generalize htb : wr.heap.size = tb at *
      clear K1 B1 KK2 HOk HL B2 c2 HRg htb
      obtain ⟨d0, -, -, d3, -, -⟩ := op_cells K2.out
      go_upto_if 90 with fail
      by_cases hm : o.n.tmod 2 = 0
      · have hmb : (o.n.tmod 2 == 0) = true := by simpa using hm
        have HF2 := HFl.out W2 E k HOk2.out HIn.out
        go_upto_region 16 with (first
          | (go_at_call 15; refine HF2.mono ?_; rintro e W3 ⟨fa, L, rfl, -, -, hb⟩; have B3 : Hid (Below W2.heap.size W2 W3) := hb; clear hb)
          | fail)
        clear HF2 d0 d3
        have HOk3 : Hid (E.Ok W3 W.heap.size (256 * k)) := HOk2.out.still B3.out
        have HL3 : Hid (Below W.heap.size W W3) := bstep HL2.out B3.out
        have K3 : Hid (W3.heap[tb]? = some (.cells o.cs 46 (0, 0))) := (B3.out.block _ (lt_heap K2.out)).trans K2.out
        have HO3 : Hid (W3.rangeAt tb 0 o.cs.toList) := Ln.blk_range K3.out
        clear K2 HOk2 HL2
        go_upto_region 19 with (first
          | (refine Ln.load_mid 46 (.tmp 8) HO3.out _ Try.underlying46 rfl iOp rfl rfl rfl ?_)
          | (go_at_call 16; refine (HRf.out W3 HL3.out HOk3.out).mono ?_; rintro e W4 ⟨y, r, rfl, hr, E1, hz⟩; have HR : Hid (r = true ↔ y ≠ 0) := hr; have HZ : Hid (Rz W3 W4 E E1 W.heap.size k y (addK o.k)) := hz; clear hr hz)
          | fail)
        have K4t : Hid (W4.heap[tb]? = some (.cells o.cs 46 (0, 0))) := HZ.out.kept.obj K3.out HNo.out
        obtain ⟨d0, -, -, -, -, -⟩ := op_cells K4t.out
        have HEn : Hid (E1.Ok W4 W.heap.size (256 * (k + 1)) ∧ Inv E1 (k + 1) ∧ E1.b = E.b ∧ Below W.heap.size W W4) := ⟨HZ.out.ok, HZ.out.inv, HZ.out.b, HZ.out.low W (Nat.le_refl _) HL3.out⟩
        cases r with
        | true =>
          have hy : y ≠ 0 := HR.out.1 rfl
          obtain ⟨rfl, -⟩ := HZ.out.no hy
          clear K4t
          go_wp2
          exact ⟨⟨k + 1, E1, by omega, by go_num, rfl, HEn.out.1, HEn.out.2.1, HEn.out.2.2.1, HEn.out.2.2.2⟩, by simp [intOf]; omega⟩
        | false =>
          have hy : y = 0 := by
            rcases Classical.em (y = 0) with h | h
            · exact h
            · exact absurd (HR.out.2 h) (by simp)
          by_cases ha : o.k = 10 ∨ o.k = 33 ∨ o.k = 37
          · obtain ⟨hla, hf⟩ := HZ.out.yes hy (decide_eq_true ha)
            have HLa : Hid (E1.last + 1 = E.last + 1 + 1 ∧ E.last + 1 + 1 ≤ 9223372036854775807 ∧ 0 ≤ E.last) := ⟨by omega, by have := HIn.out.la; omega, HIn.out.la.1⟩
            have l1 := HLa.out.2.1
            have l2 := HLa.out.2.2
            obtain ⟨f, hfs, hid⟩ := hf
            have hfl : E1.fs.length = E.fs.length + 1 := by rw [hfs]; simp
            have HF4 : Hid (Calls Try.prog 15 #[.pointer (some ⟨E.b, 0, none⟩)] W4 fun e w' => ∃ g, e = .returned (.slice (some ⟨g, 0, none⟩) (E.fs.length + 1) (E.fs.length + 1)) ∧ w'.cell? ⟨g, E.fs.length * 5, none⟩ = some (.int .i64 (E.last + 1)) ∧ Below W4.heap.size W4 w') := by
              have := HFl.out W4 E1 (k + 1) HEn.out.1 HEn.out.2.1
              rw [HEn.out.2.2.1] at this
              refine this.mono ?_
              rintro e w' ⟨a, L, rfl, hg, hd, hb⟩
              rw [hfs] at hd
              obtain ⟨g, rfl, hn2, hc⟩ := last_id hg hd
              rw [hid] at hc
              exact ⟨g, by rw [hfl], hc, hb⟩
            have HNf : Hid (E.fs.length ≤ 20000) := hfew
            clear hfs hid hfl hla hy K4t
            generalize E.fs.length = N at HF4 HNf ⊢
            have m1 := HNf.out
            have hc3 : o.k = 10 ∨ o.k = 37 ∨ o.k = 33 := by omega
            clear ha hfew
            rcases hc3 with hc | hc | hc
            · have a0 : o.k = 10 := hc
              clear hc
              go_upto_region 21 with (first
                | (go_at_call 15; refine HF4.out.mono ?_; rintro e W5 ⟨g, rfl, hc, hb⟩; have B5 : Hid (Below W4.heap.size W4 W5) := hb; clear hb)
                | fail)
              clear d0
              go_wp2
              exact ⟨⟨k + 1, E1, by omega, by go_num, by rw [HLa.out.1], HEn.out.1.still B5.out, HEn.out.2.1, HEn.out.2.2.1, bstep HEn.out.2.2.2 B5.out⟩, by simp [intOf]; omega⟩
            · have a0 : o.k = 37 := hc
              have a1 : ¬ o.k = 10 := by omega
              clear hc
              go_upto_region 21 with (first
                | (go_at_call 15; refine HF4.out.mono ?_; rintro e W5 ⟨g, rfl, hc, hb⟩; have B5 : Hid (Below W4.heap.size W4 W5) := hb; clear hb)
                | fail)
              clear d0
              go_wp2
              exact ⟨⟨k + 1, E1, by omega, by go_num, by rw [HLa.out.1], HEn.out.1.still B5.out, HEn.out.2.1, HEn.out.2.2.1, bstep HEn.out.2.2.2 B5.out⟩, by simp [intOf]; omega⟩
            · have a0 : o.k = 33 := hc
              have a1 : ¬ o.k = 10 := by omega
              have a2 : ¬ o.k = 37 := by omega
              clear hc
              go_upto_region 21 with (first
                | (go_at_call 15; refine HF4.out.mono ?_; rintro e W5 ⟨g, rfl, hc, hb⟩; have B5 : Hid (Below W4.heap.size W4 W5) := hb; clear hb)
                | fail)
              clear d0
              go_wp2
              exact ⟨⟨k + 1, E1, by omega, by go_num, by rw [HLa.out.1], HEn.out.1.still B5.out, HEn.out.2.1, HEn.out.2.2.1, bstep HEn.out.2.2.2 B5.out⟩, by simp [intOf]; omega⟩
          · have hla := HZ.out.not hy (decide_eq_false ha)
            have a1 : ¬ o.k = 10 := fun e => ha (.inl e)
            have a2 : ¬ o.k = 37 := fun e => ha (.inr (.inr e))
            have a3 : ¬ o.k = 33 := fun e => ha (.inr (.inl e))
            have HLa : Hid (E1.last + 1 = E.last + 1) := (show E1.last + 1 = E.last + 1 from by omega)
            have g1 : (o.k == 10) = false := by simpa using a1
            have g2 : (o.k == 37) = false := by simpa using a2
            have g3 : (o.k == 33) = false := by simpa using a3
            clear ha hla hy K4t a1 a2 a3
            go_wp2
            exact ⟨⟨k + 1, E1, by omega, by go_num, by rw [HLa.out], HEn.out.1, HEn.out.2.1, HEn.out.2.2.1, HEn.out.2.2.2⟩, by simp [intOf]; omega⟩
      · have hmb : (o.n.tmod 2 == 0) = false := by simpa using hm
        have HLo2 := HLo.out W2 HOk2.out
        have HLs : Hid (∀ f : Nat → Value, (rv 631 f).length = 631) := fun f => rv_len 631 f
        have HSg : Hid (∀ (a : Option Addr) (n c : Nat), ∀ u ∈ rv 631 (sg E (.slice a n c)), u.oneCell' = true) := fun a n c => rv_one (fun i _ => sg_one E a n c i)
        have HNn : Hid (E.fs.length ≤ 2199023255552) := (show E.fs.length ≤ 2199023255552 from by omega)
        generalize E.fs.length = N at HLo HLo2 HNn
        go_upto_region 25 with (first
          | (go_at_call 17; refine HLo2.mono ?_; rintro e W3 ⟨fa, L, rfl, hg, hd, hb⟩; have HG3 : Hid (RdG W3 W2.heap.size fa N N L) := hg; have HD3 : Hid (L.map Fx.d = E.fs.map Fx.d) := hd; have B3 : Hid (Below W2.heap.size W2 W3) := hb; clear hg hd hb)
          | (refine wl_allocZ rfl 58 rfl zSight ?_; intro W4 k4 b4 s4; have K4 : Hid (W4.heap[W3.heap.size]? = some (.cells (rv 631 zs).toArray 58 (0, 0))) := k4; have B4 : Hid (Below W3.heap.size W3 W4) := b4; clear k4 b4 s4)
          | (refine wl_storeZ rfl 58 _ _ rfl (L := rv 631 (sg E (.slice fa N N))) rfl rfl K4.out (by rw [HLs.out]; exact iSi) (by rw [List.size_toArray, HLs.out, HLs.out]) (HSg.out fa N N) ?_; intro W5 k5 kk5; have K5 : Hid (W5.heap[W3.heap.size]? = some (.cells (rv 631 (sg E (.slice fa N N))).toArray 58 (0, 0))) := k5; have KK5 : Hid (Mb.Kept W4 W5 (fun j => j = W3.heap.size)) := kk5; clear k5 kk5)
          | fail)
        clear HLo2 d0 d3
        have B35 : Hid (Below W3.heap.size W3 W5) := (show Below W3.heap.size W3 W5 from B4.out.trans (KK5.out.below B4.out.size (fun q hq e => by have e' : q = W3.heap.size := e; omega)))
        have B25 : Hid (Below W2.heap.size W2 W5) := bstep B3.out B35.out
        have HOk5 : Hid (E.Ok W5 W.heap.size (256 * k)) := HOk2.out.still B25.out
        have HL5 : Hid (Below W.heap.size W W5) := bstep HL2.out B25.out
        have Kt5 : Hid (W5.heap[tb]? = some (.cells o.cs 46 (0, 0))) := (B25.out.block _ (lt_heap K2.out)).trans K2.out
        have HO5 : Hid (W5.rangeAt tb 0 o.cs.toList) := Ln.blk_range Kt5.out
        have HG5 : Hid (RdF W5 fa N (E.fs.map Fx.d)) := (show RdF W5 fa N (E.fs.map Fx.d) from by
          have := (HG3.out.still B35.out).rdf
          rwa [HD3.out] at this)
        generalize htc : W3.heap.size = tc at *
        clear htc K4 KK5 B4 B3 B35 B25 HG3 HD3 HOk2 HL2 K2
        go_upto_region 26 with (first
          | (refine Ln.load_mid 46 (.tmp 8) HO5.out _ Try.underlying46 rfl iOp rfl rfl rfl ?_)
          | (go_at_call 16; refine (HRf.out W5 HL5.out HOk5.out).mono ?_; rintro e W6 ⟨y, r, rfl, hr, E1, hz⟩; have HR : Hid (r = true ↔ y ≠ 0) := hr; have HZ : Hid (Rz W5 W6 E E1 W.heap.size k y (addK o.k)) := hz; clear hr hz)
          | fail)
        cases r with
        | true =>
          have hy : y ≠ 0 := HR.out.1 rfl
          obtain ⟨rfl, hb6⟩ := HZ.out.no hy
          have B6 : Hid (Below W5.heap.size W5 W6) := hb6
          have HEn : Hid (E1.Ok W6 W.heap.size (256 * (k + 1)) ∧ Inv E1 (k + 1) ∧ Below W.heap.size W W6) := ⟨HZ.out.ok, HZ.out.inv, HZ.out.low W (Nat.le_refl _) HL5.out⟩
          have HSi : Hid (∀ X, Below W6.heap.size W6 X → X.rangeAt tc 0 (rv 631 (sg E1 (.slice fa N N)))) := fun X hX => Ln.blk_range (((bstep B6.out hX).block _ (lt_heap K5.out)).trans K5.out)
          have HLk : Hid (∀ X, Below W6.heap.size W6 X → Calls Try.prog 17 #[.pointer (some ⟨E1.b, 0, none⟩)] X fun e w' => ∃ a, e = .returned (.agg (rv 631 (sg E1 (.slice a N N))).toArray) ∧ RdF w' a N (E1.fs.map Fx.d) ∧ Below X.heap.size X w') := fun X hX => by
            refine (HLo.out X ((HOk5.out.still B6.out).still hX)).mono ?_
            rintro e w' ⟨a, L, rfl, hg, hd, hb⟩
            have := hg.rdf
            rw [hd] at this
            exact ⟨a, rfl, this, hb⟩
          have HIs : Hid (∀ (X : World) a, Below W6.heap.size W6 X → RdF X a N (E1.fs.map Fx.d) → Calls Try.prog 18 #[.agg (rv 631 (sg E1 (.slice fa N N))).toArray, .agg (rv 631 (sg E1 (.slice a N N))).toArray] X fun e w' => e = .returned (.bool true) ∧ Below X.heap.size X w') := fun X a hX h => is_any (HG5.out.still (bstep B6.out hX)) h HNn.out
          have Kt6 : Hid (W6.heap[tb]? = some (.cells o.cs 46 (0, 0))) := (B6.out.block _ (lt_heap Kt5.out)).trans Kt5.out
          clear hb6 hy HZ HR
          go_upto_region 26 with fail
          refine wp_region_held_drew (S := (fun w' => Below W6.heap.size W6 w')) (by kernel_rfl) ((Below.refl _ _).drew) (fun hHeld => ?_)
          simp only [Act.put, List.size_toArray, List.length_cons, List.length_nil, Nat.zero_add]
          generalize hWd : W6.drew = Wd at *
          have HWd : Hid (Below W6.heap.size W6 Wd) := hWd ▸ (Below.refl _ _).drew
          clear hWd
          refine wpAnyH_take (i := 0) (v := .bool true) rfl (by kernel_rfl) (by kernel_rfl) (by kernel_rfl) (fun _ _ _ h => h) (Or.inl ⟨by rfl, fun w' hS => by go_simp⟩) hHeld ?_
          simp only [Act.put, List.getElem_toArray, List.getElem_cons_zero, List.getElem_cons_succ, List.setIfInBounds_toArray, List.set_cons_zero, List.set_cons_succ]
          refine wpAnyH_take (i := 1) (v := .bool false) rfl (by kernel_rfl) (by kernel_rfl) (by kernel_rfl) (fun _ _ _ h => h) (Or.inl ⟨by rfl, fun w' hS => by go_simp⟩) hHeld ?_
          simp only [Act.put, List.getElem_toArray, List.getElem_cons_zero, List.getElem_cons_succ, List.setIfInBounds_toArray, List.set_cons_zero, List.set_cons_succ]
          refine wpAnyH_take (i := 2) (v := .bool false) rfl (by kernel_rfl) (by kernel_rfl) (by kernel_rfl) (fun _ _ _ h => h) (Or.inl ⟨by rfl, fun w' hS => by go_simp⟩) hHeld ?_
          simp only [Act.put, List.getElem_toArray, List.getElem_cons_zero, List.getElem_cons_succ, List.setIfInBounds_toArray, List.set_cons_zero, List.set_cons_succ]
          refine wpAnyH_take (i := 3) (v := .bool true) rfl (by kernel_rfl) (by kernel_rfl) (by kernel_rfl) (fun _ _ _ h => h) (Or.inl ⟨by rfl, fun w' hS => by go_simp⟩) hHeld ?_
          simp only [Act.put, List.getElem_toArray, List.getElem_cons_zero, List.getElem_cons_succ, List.setIfInBounds_toArray, List.set_cons_zero, List.set_cons_succ]
          refine wpAnyH_take (i := 4) (v := .bool true) rfl (by kernel_rfl) (by kernel_rfl) (by kernel_rfl) (fun _ _ _ h => h) (Or.inl ⟨by rfl, fun w' hS => by go_simp⟩) hHeld ?_
          simp only [Act.put, List.getElem_toArray, List.getElem_cons_zero, List.getElem_cons_succ, List.setIfInBounds_toArray, List.set_cons_zero, List.set_cons_succ]
          refine wpAnyH_take (i := 5) (v := .agg (rv 631 (sg E1 (.slice fa N N))).toArray) rfl (by kernel_rfl) (by kernel_rfl) (by kernel_rfl) (fun _ _ _ h => h) (yieldsIf_load_mid (by rfl) 58 (.tmp 13) rfl tc (0) (by rfl) (rv 631 (sg E1 (.slice fa N N))) _ (fun w' hS => HSi.out w' hS) Try.underlying58 rfl (by rw [HLs.out]; exact iSi)) hHeld ?_
          simp only [Act.put, List.getElem_toArray, List.getElem_cons_zero, List.getElem_cons_succ, List.setIfInBounds_toArray, List.set_cons_zero, List.set_cons_succ]
          refine wpAnyH_take (i := 6) (v := .pointer (some ⟨E1.b, 0, none⟩)) rfl (by kernel_rfl) (by kernel_rfl) (by kernel_rfl) (fun _ _ _ h => h) (Or.inl ⟨by rfl, fun w' hS => by go_simp⟩) hHeld ?_
          simp only [Act.put, List.getElem_toArray, List.getElem_cons_zero, List.getElem_cons_succ, List.setIfInBounds_toArray, List.set_cons_zero, List.set_cons_succ]
          refine wpAnyH_ready (rs := [7]) (by kernel_rfl) (by simp) ?_
          refine AllReadyH.cons rfl (fun K hK => ?_) AllReadyH.nil
          go_simp
          refine (HLk.out Wd HWd.out).mono ?_
          rintro e W7 ⟨a7, rfl, hf, hb⟩
          have HF7 : Hid (RdF W7 a7 N (E1.fs.map Fx.d)) := hf
          have B7 : Hid (Below W6.heap.size W6 W7) := bstep HWd.out hb
          clear hf hb
          refine hK.out _ _ B7.out (fun hHeld => ?_)
          clear hK K
          try (simp only [Act.put, List.getElem_toArray, List.getElem_cons_zero, List.getElem_cons_succ, List.setIfInBounds_toArray, List.set_cons_zero, List.set_cons_succ])
          refine wpAnyH_ready (rs := [8]) (by kernel_rfl) (by simp) ?_
          refine AllReadyH.cons rfl (fun K hK => ?_) AllReadyH.nil
          go_simp
          refine (HIs.out W7 a7 B7.out HF7.out).mono ?_
          rintro e W8 ⟨rfl, hb⟩
          have B8 : Hid (Below W6.heap.size W6 W8) := bstep B7.out hb
          clear hb
          refine hK.out _ _ B8.out (fun hHeld => ?_)
          clear hK K
          try (simp only [Act.put, List.getElem_toArray, List.getElem_cons_zero, List.getElem_cons_succ, List.setIfInBounds_toArray, List.set_cons_zero, List.set_cons_succ])
          refine wpAnyH_take (i := 9) (v := .bool false) rfl (by kernel_rfl) (by kernel_rfl) (by kernel_rfl) (fun _ _ _ h => h) (Or.inl ⟨by rfl, fun w' hS => by go_simp⟩) hHeld ?_
          simp only [Act.put, List.getElem_toArray, List.getElem_cons_zero, List.getElem_cons_succ, List.setIfInBounds_toArray, List.set_cons_zero, List.set_cons_succ]
          refine wpAnyH_take (i := 10) (v := .bool false) rfl (by kernel_rfl) (by kernel_rfl) (by kernel_rfl) (fun _ _ _ h => h) (Or.inl ⟨by rfl, fun w' hS => by go_simp⟩) hHeld ?_
          simp only [Act.put, List.getElem_toArray, List.getElem_cons_zero, List.getElem_cons_succ, List.setIfInBounds_toArray, List.set_cons_zero, List.set_cons_succ]
          refine wpAnyH_take (i := 11) (v := .bool false) rfl (by kernel_rfl) (by kernel_rfl) (by kernel_rfl) (fun _ _ _ h => h) (Or.inl ⟨by rfl, fun w' hS => by go_simp⟩) hHeld ?_
          simp only [Act.put, List.getElem_toArray, List.getElem_cons_zero, List.getElem_cons_succ, List.setIfInBounds_toArray, List.set_cons_zero, List.set_cons_succ]
          refine wpAnyH_done (by kernel_rfl) ?_ _
          clear hHeld
          clear HSi HLk HIs HF7
          have Kt8 : Hid (W8.heap[tb]? = some (.cells o.cs 46 (0, 0))) := (B8.out.block _ (lt_heap Kt6.out)).trans Kt6.out
          obtain ⟨d0, -, -, -, -, -⟩ := op_cells Kt8.out
          clear Kt8
          go_wp2
          exact ⟨⟨k + 1, E1, by omega, by go_num, rfl, HEn.out.1.still B8.out, HEn.out.2.1, rfl, bstep HEn.out.2.2 B8.out⟩, by simp [intOf]; omega⟩
        | false =>
          have hy : y = 0 := by
            rcases Classical.em (y = 0) with h | h
            · exact h
            · exact absurd (HR.out.2 h) (by simp)
          go_upto_region 26 with fail
          refine wp_region_held_drew (S := (fun w' => Below W6.heap.size W6 w')) (by kernel_rfl) ((Below.refl _ _).drew) (fun hHeld => ?_)
          simp only [Act.put, List.size_toArray, List.length_cons, List.length_nil, Nat.zero_add]
          generalize hWd : W6.drew = Wd at *
          have HWd : Hid (Below W6.heap.size W6 Wd) := hWd ▸ (Below.refl _ _).drew
          clear hWd
          refine wpAnyH_take (i := 0) (v := .bool true) rfl (by kernel_rfl) (by kernel_rfl) (by kernel_rfl) (fun _ _ _ h => h) (Or.inl ⟨by rfl, fun w' hS => by go_simp⟩) hHeld ?_
          simp only [Act.put, List.getElem_toArray, List.getElem_cons_zero, List.getElem_cons_succ, List.setIfInBounds_toArray, List.set_cons_zero, List.set_cons_succ]
          refine wpAnyH_take (i := 1) (v := .bool false) rfl (by kernel_rfl) (by kernel_rfl) (by kernel_rfl) (fun _ _ _ h => h) (Or.inl ⟨by rfl, fun w' hS => by go_simp⟩) hHeld ?_
          simp only [Act.put, List.getElem_toArray, List.getElem_cons_zero, List.getElem_cons_succ, List.setIfInBounds_toArray, List.set_cons_zero, List.set_cons_succ]
          refine wpAnyH_take (i := 2) (v := .bool false) rfl (by kernel_rfl) (by kernel_rfl) (by kernel_rfl) (fun _ _ _ h => h) (Or.inl ⟨by rfl, fun w' hS => by go_simp⟩) hHeld ?_
          simp only [Act.put, List.getElem_toArray, List.getElem_cons_zero, List.getElem_cons_succ, List.setIfInBounds_toArray, List.set_cons_zero, List.set_cons_succ]
          refine wpAnyH_take (i := 3) (v := .bool false) rfl (by kernel_rfl) (by kernel_rfl) (by kernel_rfl) (fun _ _ _ h => h) (Or.inl ⟨by rfl, fun w' hS => by go_simp⟩) hHeld ?_
          simp only [Act.put, List.getElem_toArray, List.getElem_cons_zero, List.getElem_cons_succ, List.setIfInBounds_toArray, List.set_cons_zero, List.set_cons_succ]
          refine wpAnyH_take (i := 4) (v := .bool false) rfl (by kernel_rfl) (by kernel_rfl) (by kernel_rfl) (fun _ _ _ h => h) (Or.inl ⟨by rfl, fun w' hS => by go_simp⟩) hHeld ?_
          simp only [Act.put, List.getElem_toArray, List.getElem_cons_zero, List.getElem_cons_succ, List.setIfInBounds_toArray, List.set_cons_zero, List.set_cons_succ]
          refine wpAnyH_take (i := 5) (v := undef) rfl (by kernel_rfl) (by kernel_rfl) (by kernel_rfl) (fun _ _ _ h => h) (Or.inr ⟨by rfl, rfl⟩) hHeld ?_
          simp only [Act.put, List.getElem_toArray, List.getElem_cons_zero, List.getElem_cons_succ, List.setIfInBounds_toArray, List.set_cons_zero, List.set_cons_succ]
          refine wpAnyH_take (i := 6) (v := undef) rfl (by kernel_rfl) (by kernel_rfl) (by kernel_rfl) (fun _ _ _ h => h) (Or.inr ⟨by rfl, rfl⟩) hHeld ?_
          simp only [Act.put, List.getElem_toArray, List.getElem_cons_zero, List.getElem_cons_succ, List.setIfInBounds_toArray, List.set_cons_zero, List.set_cons_succ]
          refine wpAnyH_take (i := 7) (v := undef) rfl (by kernel_rfl) (by kernel_rfl) (by kernel_rfl) (fun _ _ _ h => h) (Or.inr ⟨by rfl, rfl⟩) hHeld ?_
          simp only [Act.put, List.getElem_toArray, List.getElem_cons_zero, List.getElem_cons_succ, List.setIfInBounds_toArray, List.set_cons_zero, List.set_cons_succ]
          refine wpAnyH_take (i := 8) (v := undef) rfl (by kernel_rfl) (by kernel_rfl) (by kernel_rfl) (fun _ _ _ h => h) (Or.inr ⟨by rfl, rfl⟩) hHeld ?_
          simp only [Act.put, List.getElem_toArray, List.getElem_cons_zero, List.getElem_cons_succ, List.setIfInBounds_toArray, List.set_cons_zero, List.set_cons_succ]
          refine wpAnyH_take (i := 9) (v := undef) rfl (by kernel_rfl) (by kernel_rfl) (by kernel_rfl) (fun _ _ _ h => h) (Or.inr ⟨by rfl, rfl⟩) hHeld ?_
          simp only [Act.put, List.getElem_toArray, List.getElem_cons_zero, List.getElem_cons_succ, List.setIfInBounds_toArray, List.set_cons_zero, List.set_cons_succ]
          refine wpAnyH_take (i := 10) (v := .bool false) rfl (by kernel_rfl) (by kernel_rfl) (by kernel_rfl) (fun _ _ _ h => h) (Or.inl ⟨by rfl, fun w' hS => by go_simp⟩) hHeld ?_
          simp only [Act.put, List.getElem_toArray, List.getElem_cons_zero, List.getElem_cons_succ, List.setIfInBounds_toArray, List.set_cons_zero, List.set_cons_succ]
          refine wpAnyH_take (i := 11) (v := .bool false) rfl (by kernel_rfl) (by kernel_rfl) (by kernel_rfl) (fun _ _ _ h => h) (Or.inl ⟨by rfl, fun w' hS => by go_simp⟩) hHeld ?_
          simp only [Act.put, List.getElem_toArray, List.getElem_cons_zero, List.getElem_cons_succ, List.setIfInBounds_toArray, List.set_cons_zero, List.set_cons_succ]
          refine wpAnyH_done (by kernel_rfl) ?_ _
          clear hHeld
          have K4t : Hid (Wd.heap[tb]? = some (.cells o.cs 46 (0, 0))) := (HWd.out.block _ (lt_heap (HZ.out.kept.obj Kt5.out HNo.out))).trans (HZ.out.kept.obj Kt5.out HNo.out)
          obtain ⟨d0, -, -, -, -, -⟩ := op_cells K4t.out
          have HEn : Hid (E1.Ok Wd W.heap.size (256 * (k + 1)) ∧ Inv E1 (k + 1) ∧ E1.b = E.b ∧ Below W.heap.size W Wd) := ⟨HZ.out.ok.still HWd.out, HZ.out.inv, HZ.out.b, bstep (HZ.out.low W (Nat.le_refl _) HL5.out) HWd.out⟩
          by_cases ha : o.k = 10 ∨ o.k = 33 ∨ o.k = 37
          · obtain ⟨hla, hf⟩ := HZ.out.yes hy (decide_eq_true ha)
            have HLa : Hid (E1.last + 1 = E.last + 1 + 1 ∧ E.last + 1 + 1 ≤ 9223372036854775807 ∧ 0 ≤ E.last) := ⟨by omega, by have := HIn.out.la; omega, HIn.out.la.1⟩
            have l1 := HLa.out.2.1
            have l2 := HLa.out.2.2
            clear hf hla hy K4t
            have hc3 : o.k = 10 ∨ o.k = 37 ∨ o.k = 33 := by omega
            clear ha
            rcases hc3 with hc | hc | hc
            · have a0 : o.k = 10 := hc
              clear hc
              go_wp2
              exact ⟨⟨k + 1, E1, by omega, by go_num, by rw [HLa.out.1], HEn.out.1, HEn.out.2.1, HEn.out.2.2.1, HEn.out.2.2.2⟩, by simp [intOf]; omega⟩
            · have a0 : o.k = 37 := hc
              have a1 : ¬ o.k = 10 := by omega
              clear hc
              go_wp2
              exact ⟨⟨k + 1, E1, by omega, by go_num, by rw [HLa.out.1], HEn.out.1, HEn.out.2.1, HEn.out.2.2.1, HEn.out.2.2.2⟩, by simp [intOf]; omega⟩
            · have a0 : o.k = 33 := hc
              have a1 : ¬ o.k = 10 := by omega
              have a2 : ¬ o.k = 37 := by omega
              clear hc
              go_wp2
              exact ⟨⟨k + 1, E1, by omega, by go_num, by rw [HLa.out.1], HEn.out.1, HEn.out.2.1, HEn.out.2.2.1, HEn.out.2.2.2⟩, by simp [intOf]; omega⟩
          · have hla := HZ.out.not hy (decide_eq_false ha)
            have a1 : ¬ o.k = 10 := fun e => ha (.inl e)
            have a2 : ¬ o.k = 37 := fun e => ha (.inr (.inr e))
            have a3 : ¬ o.k = 33 := fun e => ha (.inr (.inl e))
            have HLa : Hid (E1.last + 1 = E.last + 1) := (show E1.last + 1 = E.last + 1 from by omega)
            have g1 : (o.k == 10) = false := by simpa using a1
            have g2 : (o.k == 37) = false := by simpa using a2
            have g3 : (o.k == 33) = false := by simpa using a3
            clear ha hla hy K4t a1 a2 a3
            go_wp2
            exact ⟨⟨k + 1, E1, by omega, by go_num, by rw [HLa.out], HEn.out.1, HEn.out.2.1, HEn.out.2.2.1, HEn.out.2.2.2⟩, by simp [intOf]; omega⟩
    · obtain rfl : k = n := by omega
      go_wp2
      go_ret
      exact ⟨rfl, bstep Hb.out HL.out⟩
theorem refusals_any (nd rm : Int) (oa : Option Addr) (n oc : Nat) (os : Nat → Opx) (ho : RdOps w oa n os) (hn : n ≤ 1759218604390) : Calls Try.prog 4 #[.agg (kc nd rm oa n oc)] w fun e w' => e = .returned (.bool true) ∧ Below w.heap.size w w' := by
  by_cases hb : badNew nd rm
  · exact refusals_no nd rm oa n oc hb
  · unfold badNew at hb
    obtain ⟨k, rfl⟩ : ∃ k : Nat, nd = k := ⟨nd.toNat, by omega⟩
    exact refusals_ok k rm oa n oc os (by omega) (by omega) (by omega) (by omega) ho hn
end
end Go.Proofs.Ytnhhjelplmdloaa.Et
