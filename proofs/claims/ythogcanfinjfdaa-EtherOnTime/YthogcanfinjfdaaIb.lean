import Derived.Test.YthogcanfinjfdaaIa
namespace Go.Proofs.Ythogcanfinjfdaa.Et
open Go.RowKit Go.Maps
set_option linter.unusedVariables false
set_option linter.unusedSimpArgs false
set_option maxRecDepth 100000
section
variable {E E1 E' : En} {w w' w1 w2 w3 : World} {B K m : Nat}
theorem tick_goes (he : E.Ok w B (256 * K)) (h : Inv E K) (p : Int) : Calls Try.prog 34 (aN E.b p) w fun e w1 => (∃ x y, e = .returned (tup x y)) ∧ Goes w w1 E B K := by
  by_cases hc : ckUp E p = 0
  · obtain ⟨k, rfl, hk, hu⟩ := ckUp_zero hc
    exact (tick_ok he k hk hu).mono fun e w1 ⟨x1, st⟩ => ⟨⟨_, _, x1⟩, _, _, st, by omega, h.cong rfl rfl rfl rfl, rfl, rfl, rfl⟩
  · exact (tick_no he p hc).mono fun e w1 ⟨x1, x2⟩ => ⟨⟨_, _, x1⟩, by subst x2; exact goes_none he h (Below.refl _ _)⟩
theorem crash_goes (he : E.Ok w B (256 * K)) (h : Inv E K) (p : Int) : Calls Try.prog 35 (aN E.b p) w fun e w1 => (∃ x, e = .returned (.int .i64 x)) ∧ Goes w w1 E B K := by
  by_cases hc : ckUp E p = 0
  · obtain ⟨k, rfl, hk, hu⟩ := ckUp_zero hc
    exact (crash_ok he k hk hu).mono fun e w1 ⟨x1, st⟩ => ⟨⟨_, x1⟩, _, _, st, by omega, h.cong rfl rfl rfl rfl, rfl, rfl, rfl⟩
  · exact (crash_no he p hc).mono fun e w1 ⟨x1, x2⟩ => ⟨⟨_, x1⟩, by subst x2; exact goes_none he h (Below.refl _ _)⟩
theorem restart_goes (he : E.Ok w B (256 * K)) (h : Inv E K) (p : Int) : Calls Try.prog 11 (aN E.b p) w fun e w1 => (∃ x y, e = .returned (tup x y)) ∧ Goes w w1 E B K := by
  by_cases hc : rstE E p = 0
  · obtain ⟨k, rfl, hk, hu⟩ := rstE_zero hc
    exact (restart_ok he k hk hu).mono fun e w1 ⟨x1, st⟩ => ⟨⟨_, _, x1⟩, _, _, st, by omega, h.cong rfl rfl rfl rfl, rfl, rfl, rfl⟩
  · exact (restart_no he p hc).mono fun e w1 ⟨x1, x2⟩ => ⟨⟨_, _, x1⟩, by subst x2; exact goes_none he h (Below.refl _ _)⟩
theorem round_goes (he : E.Ok w B (256 * K)) (hB : B ≤ w.heap.size) (h : Inv E K) (hK : K ≤ 2199023255551) : Calls Try.prog 15 #[.pointer (some ⟨E.b, 0, none⟩)] w fun e w1 => (∃ a n c, e = .returned (.slice a n c)) ∧ Goes w w1 E B K := by
  have hfew : E.fs.length ≤ 20000 := by have := h.few; have := h.r1; omega
  exact (round_any2 he hB hfew).mono fun e w1 ⟨a, n, c, x1, x2, st⟩ => ⟨⟨a, n, c, x1⟩, _, _, st, by omega, inv_round h hK, rfl, rfl, rfl⟩
theorem take_goes (he : E.Ok w B (256 * K)) (h : Inv E K) (p : Int) : Calls Try.prog 26 (aN E.b p) w fun e w1 => (∃ x0 x1 x2 x3 a n c y, e = .returned (.tuple #[.agg #[.int .i64 x0, .int .i64 x1, .int .i64 x2, .int .i64 x3, .slice a n c], .int .i64 y])) ∧ Goes w w1 E B K := by
  have hfew : E.fs.length ≤ 20000 := by have := h.few; have := h.r1; omega
  by_cases hk : 0 ≤ p ∧ p < E.fs.length
  · obtain ⟨h0, h1⟩ := hk
    obtain ⟨i, rfl⟩ : ∃ i : Nat, p = i := ⟨p.toNat, by omega⟩
    have hi : i < E.fs.length := by omega
    obtain ⟨a, q, ha, hq, han, hqn, haq⟩ := he.pth _ (mem_getD hi)
    by_cases hb0 : barE E a q = 0
    · exact (take_ok he i hi hfew a q ha hq han hqn hb0).mono fun e w1 ⟨x1, ⟨a', c', st⟩, _⟩ => ⟨⟨_, _, _, _, _, _, _, _, x1⟩, _, _, st, by omega, inv_sub h a' c' _ (List.eraseIdx_sublist _ _), rfl, rfl, rfl⟩
    · exact (take_bar he i hi a q ha hq han hqn hb0).mono fun e w1 ⟨x1, x2⟩ => ⟨⟨_, _, _, _, _, _, _, _, x1⟩, goes_none he h x2⟩
  · exact (take_none he p hk).mono fun e w1 ⟨x1, x2⟩ => ⟨⟨_, _, _, _, _, _, _, _, x1⟩, goes_none he h x2⟩

set_option maxHeartbeats 400000 in
theorem play_tick (he : E.Ok w B (256 * K)) (hB : B ≤ w.heap.size) (h : Inv E K) (hK : K ≤ 2199023255551) (o : Opx) (bs xs : List Int) (hbb : ∀ w', Below B w w' → Rd w' o.ba o.bn o.bc bs) (hss : ∀ w', Below B w w' → RdI w' o.sa o.sn o.sc xs) (hbn : o.bn ≤ 140737488351232) (hsn : o.sn ≤ 17592186043904) (h63 : o.n ≤ 9223372036854775807) (hk : o.k = 5) : Calls Try.prog 10 #[.pointer (some ⟨E.b, 0, none⟩), .agg o.cs] w fun e w' => e = .returned (.tuple #[]) ∧ Goes w w' E B K := by
  generalize hW : w.alloc (.cells o.cs 33) = W
  have hbW : Below w.heap.size w W := by rw [← hW]; exact balloc (Below.refl _ w)
  have hblk : W.heap[w.heap.size]? = some (.cells o.cs 33 (0, 0)) := by rw [← hW]; exact heap_alloc_new w _
  have hWs : w.heap.size < W.heap.size := lt_heap hblk
  obtain ⟨d0, d1, d2, d3, d4, d5⟩ := op_cells hblk
  have Hb : Hid (Below w.heap.size w W) := hbW
  have heW := he.still hbW
  have hBW : B ≤ W.heap.size := Nat.le_trans hB hbW.size
  have hlow : Below B w W := hbW.mono hB
  have HC : Hid (Calls Try.prog 34 #[.pointer (some ⟨E.b, 0, none⟩), .int .i64 o.p] W fun e w1 => (∃ x y, e = .returned (.tuple #[.int .i64 x, .int .i64 y])) ∧ Goes W w1 E B K) := tick_goes heW h o.p
  unfold Opx.cs at hW ⊢
  rw [hk] at hW d0 ⊢
  clear he heW h hbW hblk hbb hss
  go_enter Try.func10, Try.ntmps10
  go_wp2_with (first | (go_at_call 34; refine HC.out.mono ?_; rintro e w1 ⟨⟨x, y, rfl⟩, hg⟩) | fail)
  all_goals first | (exfalso; omega) | ((first | go_end0 | ((try simp only [Exit.inBlock, Exit.then]); refine bodyPost_ret (results_none rfl _ _ _) rfl ?_)); exact ⟨rfl, hg.pre Hb.out⟩)

set_option maxHeartbeats 400000 in
theorem play_crash (he : E.Ok w B (256 * K)) (hB : B ≤ w.heap.size) (h : Inv E K) (hK : K ≤ 2199023255551) (o : Opx) (bs xs : List Int) (hbb : ∀ w', Below B w w' → Rd w' o.ba o.bn o.bc bs) (hss : ∀ w', Below B w w' → RdI w' o.sa o.sn o.sc xs) (hbn : o.bn ≤ 140737488351232) (hsn : o.sn ≤ 17592186043904) (h63 : o.n ≤ 9223372036854775807) (hk : o.k = 6) : Calls Try.prog 10 #[.pointer (some ⟨E.b, 0, none⟩), .agg o.cs] w fun e w' => e = .returned (.tuple #[]) ∧ Goes w w' E B K := by
  generalize hW : w.alloc (.cells o.cs 33) = W
  have hbW : Below w.heap.size w W := by rw [← hW]; exact balloc (Below.refl _ w)
  have hblk : W.heap[w.heap.size]? = some (.cells o.cs 33 (0, 0)) := by rw [← hW]; exact heap_alloc_new w _
  have hWs : w.heap.size < W.heap.size := lt_heap hblk
  obtain ⟨d0, d1, d2, d3, d4, d5⟩ := op_cells hblk
  have Hb : Hid (Below w.heap.size w W) := hbW
  have heW := he.still hbW
  have hBW : B ≤ W.heap.size := Nat.le_trans hB hbW.size
  have hlow : Below B w W := hbW.mono hB
  have HC : Hid (Calls Try.prog 35 #[.pointer (some ⟨E.b, 0, none⟩), .int .i64 o.p] W fun e w1 => (∃ x, e = .returned (.int .i64 x)) ∧ Goes W w1 E B K) := crash_goes heW h o.p
  unfold Opx.cs at hW ⊢
  rw [hk] at hW d0 ⊢
  clear he heW h hbW hblk hbb hss
  go_enter Try.func10, Try.ntmps10
  go_wp2_with (first | (go_at_call 35; refine HC.out.mono ?_; rintro e w1 ⟨⟨x, rfl⟩, hg⟩) | fail)
  all_goals first | (exfalso; omega) | ((first | go_end0 | ((try simp only [Exit.inBlock, Exit.then]); refine bodyPost_ret (results_none rfl _ _ _) rfl ?_)); exact ⟨rfl, hg.pre Hb.out⟩)

set_option maxHeartbeats 400000 in
theorem play_restart (he : E.Ok w B (256 * K)) (hB : B ≤ w.heap.size) (h : Inv E K) (hK : K ≤ 2199023255551) (o : Opx) (bs xs : List Int) (hbb : ∀ w', Below B w w' → Rd w' o.ba o.bn o.bc bs) (hss : ∀ w', Below B w w' → RdI w' o.sa o.sn o.sc xs) (hbn : o.bn ≤ 140737488351232) (hsn : o.sn ≤ 17592186043904) (h63 : o.n ≤ 9223372036854775807) (hk : o.k = 7) : Calls Try.prog 10 #[.pointer (some ⟨E.b, 0, none⟩), .agg o.cs] w fun e w' => e = .returned (.tuple #[]) ∧ Goes w w' E B K := by
  generalize hW : w.alloc (.cells o.cs 33) = W
  have hbW : Below w.heap.size w W := by rw [← hW]; exact balloc (Below.refl _ w)
  have hblk : W.heap[w.heap.size]? = some (.cells o.cs 33 (0, 0)) := by rw [← hW]; exact heap_alloc_new w _
  have hWs : w.heap.size < W.heap.size := lt_heap hblk
  obtain ⟨d0, d1, d2, d3, d4, d5⟩ := op_cells hblk
  have Hb : Hid (Below w.heap.size w W) := hbW
  have heW := he.still hbW
  have hBW : B ≤ W.heap.size := Nat.le_trans hB hbW.size
  have hlow : Below B w W := hbW.mono hB
  have HC : Hid (Calls Try.prog 11 #[.pointer (some ⟨E.b, 0, none⟩), .int .i64 o.p] W fun e w1 => (∃ x y, e = .returned (.tuple #[.int .i64 x, .int .i64 y])) ∧ Goes W w1 E B K) := restart_goes heW h o.p
  unfold Opx.cs at hW ⊢
  rw [hk] at hW d0 ⊢
  clear he heW h hbW hblk hbb hss
  go_enter Try.func10, Try.ntmps10
  go_wp2_with (first | (go_at_call 11; refine HC.out.mono ?_; rintro e w1 ⟨⟨x, y, rfl⟩, hg⟩) | fail)
  all_goals first | (exfalso; omega) | ((first | go_end0 | ((try simp only [Exit.inBlock, Exit.then]); refine bodyPost_ret (results_none rfl _ _ _) rfl ?_)); exact ⟨rfl, hg.pre Hb.out⟩)

set_option maxHeartbeats 400000 in
theorem play_post (he : E.Ok w B (256 * K)) (hB : B ≤ w.heap.size) (h : Inv E K) (hK : K ≤ 2199023255551) (o : Opx) (bs xs : List Int) (hbb : ∀ w', Below B w w' → Rd w' o.ba o.bn o.bc bs) (hss : ∀ w', Below B w w' → RdI w' o.sa o.sn o.sc xs) (hbn : o.bn ≤ 140737488351232) (hsn : o.sn ≤ 17592186043904) (h63 : o.n ≤ 9223372036854775807) (hk : o.k = 10) : Calls Try.prog 10 #[.pointer (some ⟨E.b, 0, none⟩), .agg o.cs] w fun e w' => e = .returned (.tuple #[]) ∧ Goes w w' E B K := by
  generalize hW : w.alloc (.cells o.cs 33) = W
  have hbW : Below w.heap.size w W := by rw [← hW]; exact balloc (Below.refl _ w)
  have hblk : W.heap[w.heap.size]? = some (.cells o.cs 33 (0, 0)) := by rw [← hW]; exact heap_alloc_new w _
  have hWs : w.heap.size < W.heap.size := lt_heap hblk
  obtain ⟨d0, d1, d2, d3, d4, d5⟩ := op_cells hblk
  have Hb : Hid (Below w.heap.size w W) := hbW
  have heW := he.still hbW
  have hBW : B ≤ W.heap.size := Nat.le_trans hB hbW.size
  have hlow : Below B w W := hbW.mono hB
  have HC : Hid (Calls Try.prog 14 #[.pointer (some ⟨E.b, 0, none⟩), .int .i64 o.p, .int .i64 o.q, .slice o.ba o.bn o.bc] W fun e w1 => (∃ x y, e = .returned (.tuple #[.int .i64 x, .int .i64 y])) ∧ Goes W w1 E B K) := (post_goes heW hBW h hK o.p o.q o.bn bs o.ba o.bc (hbb W hlow)).mono fun e w1 ⟨x, y, x1, x2⟩ => ⟨⟨x, y, x1⟩, x2⟩
  unfold Opx.cs at hW ⊢
  rw [hk] at hW d0 ⊢
  clear he heW h hbW hblk hbb hss
  go_enter Try.func10, Try.ntmps10
  go_wp2_with (first | (go_at_call 14; refine HC.out.mono ?_; rintro e w1 ⟨⟨x, y, rfl⟩, hg⟩) | fail)
  all_goals first | (exfalso; omega) | ((first | go_end0 | ((try simp only [Exit.inBlock, Exit.then]); refine bodyPost_ret (results_none rfl _ _ _) rfl ?_)); exact ⟨rfl, hg.pre Hb.out⟩)

set_option maxHeartbeats 400000 in
theorem play_round (he : E.Ok w B (256 * K)) (hB : B ≤ w.heap.size) (h : Inv E K) (hK : K ≤ 2199023255551) (o : Opx) (bs xs : List Int) (hbb : ∀ w', Below B w w' → Rd w' o.ba o.bn o.bc bs) (hss : ∀ w', Below B w w' → RdI w' o.sa o.sn o.sc xs) (hbn : o.bn ≤ 140737488351232) (hsn : o.sn ≤ 17592186043904) (h63 : o.n ≤ 9223372036854775807) (hk : o.k = 11) : Calls Try.prog 10 #[.pointer (some ⟨E.b, 0, none⟩), .agg o.cs] w fun e w' => e = .returned (.tuple #[]) ∧ Goes w w' E B K := by
  generalize hW : w.alloc (.cells o.cs 33) = W
  have hbW : Below w.heap.size w W := by rw [← hW]; exact balloc (Below.refl _ w)
  have hblk : W.heap[w.heap.size]? = some (.cells o.cs 33 (0, 0)) := by rw [← hW]; exact heap_alloc_new w _
  have hWs : w.heap.size < W.heap.size := lt_heap hblk
  obtain ⟨d0, d1, d2, d3, d4, d5⟩ := op_cells hblk
  have Hb : Hid (Below w.heap.size w W) := hbW
  have heW := he.still hbW
  have hBW : B ≤ W.heap.size := Nat.le_trans hB hbW.size
  have hlow : Below B w W := hbW.mono hB
  have HC : Hid (Calls Try.prog 15 #[.pointer (some ⟨E.b, 0, none⟩)] W fun e w1 => (∃ a n c, e = .returned (.slice a n c)) ∧ Goes W w1 E B K) := round_goes heW hBW h hK
  unfold Opx.cs at hW ⊢
  rw [hk] at hW d0 ⊢
  clear he heW h hbW hblk hbb hss
  go_enter Try.func10, Try.ntmps10
  go_wp2_with (first | (go_at_call 15; refine HC.out.mono ?_; rintro e w1 ⟨⟨a, n, c, rfl⟩, hg⟩) | fail)
  all_goals first | (exfalso; omega) | ((first | go_end0 | ((try simp only [Exit.inBlock, Exit.then]); refine bodyPost_ret (results_none rfl _ _ _) rfl ?_)); exact ⟨rfl, hg.pre Hb.out⟩)

set_option maxHeartbeats 400000 in
theorem play_take (he : E.Ok w B (256 * K)) (hB : B ≤ w.heap.size) (h : Inv E K) (hK : K ≤ 2199023255551) (o : Opx) (bs xs : List Int) (hbb : ∀ w', Below B w w' → Rd w' o.ba o.bn o.bc bs) (hss : ∀ w', Below B w w' → RdI w' o.sa o.sn o.sc xs) (hbn : o.bn ≤ 140737488351232) (hsn : o.sn ≤ 17592186043904) (h63 : o.n ≤ 9223372036854775807) (hk : o.k = 12) : Calls Try.prog 10 #[.pointer (some ⟨E.b, 0, none⟩), .agg o.cs] w fun e w' => e = .returned (.tuple #[]) ∧ Goes w w' E B K := by
  generalize hW : w.alloc (.cells o.cs 33) = W
  have hbW : Below w.heap.size w W := by rw [← hW]; exact balloc (Below.refl _ w)
  have hblk : W.heap[w.heap.size]? = some (.cells o.cs 33 (0, 0)) := by rw [← hW]; exact heap_alloc_new w _
  have hWs : w.heap.size < W.heap.size := lt_heap hblk
  obtain ⟨d0, d1, d2, d3, d4, d5⟩ := op_cells hblk
  have Hb : Hid (Below w.heap.size w W) := hbW
  have heW := he.still hbW
  have hBW : B ≤ W.heap.size := Nat.le_trans hB hbW.size
  have hlow : Below B w W := hbW.mono hB
  have HC : Hid (Calls Try.prog 26 #[.pointer (some ⟨E.b, 0, none⟩), .int .i64 o.p] W fun e w1 => (∃ x0 x1 x2 x3 a n c y, e = .returned (.tuple #[.agg #[.int .i64 x0, .int .i64 x1, .int .i64 x2, .int .i64 x3, .slice a n c], .int .i64 y])) ∧ Goes W w1 E B K) := take_goes heW h o.p
  unfold Opx.cs at hW ⊢
  rw [hk] at hW d0 ⊢
  clear he heW h hbW hblk hbb hss
  go_enter Try.func10, Try.ntmps10
  go_wp2_with (first | (go_at_call 26; refine HC.out.mono ?_; rintro e w1 ⟨⟨x0, x1, x2, x3, a, n, c, y, rfl⟩, hg⟩) | fail)
  all_goals first | (exfalso; omega) | ((first | go_end0 | ((try simp only [Exit.inBlock, Exit.then]); refine bodyPost_ret (results_none rfl _ _ _) rfl ?_)); exact ⟨rfl, hg.pre Hb.out⟩)

set_option maxHeartbeats 400000 in
theorem play_do (he : E.Ok w B (256 * K)) (hB : B ≤ w.heap.size) (h : Inv E K) (hK : K ≤ 2199023255551) (o : Opx) (bs xs : List Int) (hbb : ∀ w', Below B w w' → Rd w' o.ba o.bn o.bc bs) (hss : ∀ w', Below B w w' → RdI w' o.sa o.sn o.sc xs) (hbn : o.bn ≤ 140737488351232) (hsn : o.sn ≤ 17592186043904) (h63 : o.n ≤ 9223372036854775807) (h1 : 20 < o.k) (h2 : o.k ≤ 60) : Calls Try.prog 10 #[.pointer (some ⟨E.b, 0, none⟩), .agg o.cs] w fun e w' => e = .returned (.tuple #[]) ∧ Goes w w' E B K := by
  generalize hW : w.alloc (.cells o.cs 33) = W
  have hbW : Below w.heap.size w W := by rw [← hW]; exact balloc (Below.refl _ w)
  have hblk : W.heap[w.heap.size]? = some (.cells o.cs 33 (0, 0)) := by rw [← hW]; exact heap_alloc_new w _
  have hWs : w.heap.size < W.heap.size := lt_heap hblk
  obtain ⟨d0, d1, d2, d3, d4, d5⟩ := op_cells hblk
  have Hb : Hid (Below w.heap.size w W) := hbW
  have heW := he.still hbW
  have hBW : B ≤ W.heap.size := Nat.le_trans hB hbW.size
  have hlow : Below B w W := hbW.mono hB
  have hr0 := hbb w (Below.refl _ _)
  have hx0 := hss w (Below.refl _ _)
  have hbl := hr0.1
  have hxl := hx0.1
  have HEv : Hid (Calls Try.prog 36 #[.agg #[.int .i64 o.k, .int .i64 o.p, .int .i64 o.q, .int .i64 o.n, .slice o.ba o.bn o.bc, .slice o.sa o.sn o.sc]] W fun e w2 => ∃ gb cb gs cs, e = .returned (.agg #[.int .i64 (o.k - 20), .int .i64 o.p, .int .i64 o.q, .int .i64 o.n, .slice (some ⟨gb, 0, none⟩) o.bn cb, .int .i64 0, .int .i64 0, .int .i64 0, .int .i64 0, .string ByteArray.empty, .string ByteArray.empty, .string ByteArray.empty, .slice (some ⟨gs, 0, none⟩) o.sn cs]) ∧ Marked w2 W.heap.size gb o.bn cb bs ∧ MarkedI w2 W.heap.size gs o.sn cs xs ∧ Below W.heap.size W w2) := event_any o bs xs (hbb W hlow) (hss W hlow) hbn hsn h1 h2
  have HDo : Hid (∀ w1 gb cb gs cs, Below W.heap.size W w1 → Marked w1 W.heap.size gb o.bn cb bs → MarkedI w1 W.heap.size gs o.sn cs xs → Calls Try.prog 13 #[.pointer (some ⟨E.b, 0, none⟩), .agg #[.int .i64 (o.k - 20), .int .i64 o.p, .int .i64 o.q, .int .i64 o.n, .slice (some ⟨gb, 0, none⟩) o.bn cb, .int .i64 0, .int .i64 0, .int .i64 0, .int .i64 0, .string ByteArray.empty, .string ByteArray.empty, .string ByteArray.empty, .slice (some ⟨gs, 0, none⟩) o.sn cs]] w1 fun e w2 => (∃ x, e = .returned (.int .i64 x)) ∧ Goes W w2 E B K) := by
    intro w1 gb cb gs cs hb1 hm hmi
    have hgs : ¬ E.own gs := fun e => by
      have q1 := he.ltOwn e
      have q2 := (World.ownsRow.lt hmi gs rfl).1
      omega
    exact (do_goes (heW.still hb1) (Nat.le_trans hBW hb1.size) h hK (evC o gb cb gs cs) bs xs h63 (hm.rd hbl hr0.2.2.2) hxl gs rfl (fun i hi => hmi.cells hxl hi) hgs).mono fun e w2 ⟨x, x1, x2⟩ => ⟨⟨x, x1⟩, x2.pre hb1⟩
  unfold Opx.cs at hW ⊢
  clear he heW h hbW hblk hbb hss hr0 hx0
  go_enter Try.func10, Try.ntmps10
  go_wp2_with (fail)
  all_goals first | (exfalso; omega) | skip
  refine HEv.out.mono ?_
  rintro e w1 ⟨gb, cb, gs, cs, rfl, hm, hmi, hb1⟩
  have HP := HDo.out w1 gb cb gs cs hb1 hm hmi
  clear hm hmi hb1 HDo
  go_wp2_with (first | (go_at_call 13; refine HP.mono ?_; rintro e w2 ⟨⟨x, rfl⟩, hg⟩) | fail)
  all_goals first | ((first | go_end0 | ((try simp only [Exit.inBlock, Exit.then]); refine bodyPost_ret (results_none rfl _ _ _) rfl ?_)); exact ⟨rfl, hg.pre Hb.out⟩)

set_option maxHeartbeats 400000 in
theorem play_else (he : E.Ok w B (256 * K)) (hB : B ≤ w.heap.size) (h : Inv E K) (hK : K ≤ 2199023255551) (o : Opx) (bs xs : List Int) (hbb : ∀ w', Below B w w' → Rd w' o.ba o.bn o.bc bs) (hss : ∀ w', Below B w w' → RdI w' o.sa o.sn o.sc xs) (hbn : o.bn ≤ 140737488351232) (hsn : o.sn ≤ 17592186043904) (h63 : o.n ≤ 9223372036854775807) (h1 : o.k ≠ 5 ∧ o.k ≠ 6 ∧ o.k ≠ 7 ∧ o.k ≠ 10 ∧ o.k ≠ 11 ∧ o.k ≠ 12) (h2 : ¬ (20 < o.k ∧ o.k ≤ 60)) : Calls Try.prog 10 #[.pointer (some ⟨E.b, 0, none⟩), .agg o.cs] w fun e w' => e = .returned (.tuple #[]) ∧ Goes w w' E B K := by
  generalize hW : w.alloc (.cells o.cs 33) = W
  have hbW : Below w.heap.size w W := by rw [← hW]; exact balloc (Below.refl _ w)
  have hblk : W.heap[w.heap.size]? = some (.cells o.cs 33 (0, 0)) := by rw [← hW]; exact heap_alloc_new w _
  have hWs : w.heap.size < W.heap.size := lt_heap hblk
  obtain ⟨d0, d1, d2, d3, d4, d5⟩ := op_cells hblk
  have Hb : Hid (Below w.heap.size w W) := hbW
  have heW := he.still hbW
  have hBW : B ≤ W.heap.size := Nat.le_trans hB hbW.size
  have hlow : Below B w W := hbW.mono hB
  obtain ⟨j1, j2, j3, j4, j5, j6⟩ := h1
  have HG : Hid (Goes w W E B K) := goes_none he h hbW
  unfold Opx.cs at hW ⊢
  clear he heW h hbW hblk hbb hss
  go_enter Try.func10, Try.ntmps10
  go_wp2
  all_goals first | (exfalso; omega) | ((first | go_end0 | ((try simp only [Exit.inBlock, Exit.then]); refine bodyPost_ret (results_none rfl _ _ _) rfl ?_)); exact ⟨rfl, HG.out⟩)
theorem play_any (he : E.Ok w B (256 * K)) (hB : B ≤ w.heap.size) (h : Inv E K) (hK : K ≤ 2199023255551) (o : Opx) (bs xs : List Int) (hbb : ∀ w', Below B w w' → Rd w' o.ba o.bn o.bc bs) (hss : ∀ w', Below B w w' → RdI w' o.sa o.sn o.sc xs) (hbn : o.bn ≤ 140737488351232) (hsn : o.sn ≤ 17592186043904) (h63 : o.n ≤ 9223372036854775807) : Calls Try.prog 10 #[.pointer (some ⟨E.b, 0, none⟩), .agg o.cs] w fun e w' => e = .returned (.tuple #[]) ∧ Goes w w' E B K := by
  by_cases k5 : o.k = 5
  · exact play_tick he hB h hK o bs xs hbb hss hbn hsn h63 k5
  by_cases k6 : o.k = 6
  · exact play_crash he hB h hK o bs xs hbb hss hbn hsn h63 k6
  by_cases k7 : o.k = 7
  · exact play_restart he hB h hK o bs xs hbb hss hbn hsn h63 k7
  by_cases k10 : o.k = 10
  · exact play_post he hB h hK o bs xs hbb hss hbn hsn h63 k10
  by_cases k11 : o.k = 11
  · exact play_round he hB h hK o bs xs hbb hss hbn hsn h63 k11
  by_cases k12 : o.k = 12
  · exact play_take he hB h hK o bs xs hbb hss hbn hsn h63 k12
  by_cases k20 : 20 < o.k ∧ o.k ≤ 60
  · exact play_do he hB h hK o bs xs hbb hss hbn hsn h63 k20.1 k20.2
  exact play_else he hB h hK o bs xs hbb hss hbn hsn h63 ⟨k5, k6, k7, k10, k11, k12⟩ k20
end
end Go.Proofs.Ythogcanfinjfdaa.Et
