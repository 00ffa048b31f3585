import Derived.Test.YtghihdenbdnnjaaLkd
namespace Go.Proofs.Ytghihdenbdnnjaa.Ln
open Go.RowKit Mb
set_option linter.unusedVariables false
set_option maxRecDepth 100000
set_option linter.unusedSimpArgs false
section
variable {w w' W : World} {B : Nat} {S S' : St}
theorem St.Ok.ne_t (h : S.Ok w B) {eb t : Nat} {cs : Array Value} (hE : w.heap[eb]? = some (.cells cs t (0, 0))) (h1 : t ≠ 91) (h2 : t ≠ 5) : ¬ S.own eb := by
  rintro (⟨hL, rfl⟩ | ⟨n, b, hb, rfl⟩)
  · obtain ⟨C, hC, _⟩ := (h.row hL).1
    exact blk_ne hC hE (fun e => h1 e.symm) rfl
  · exact bk_ne (h.el n b hb).bk hE h2 rfl
structure PutO (w w' : World) (B : Nat) (S : St) (eb off n : Nat) (b : Bd) (cs : Array Value) : Prop where
  out : ∃ M g cs', ({ p := S.p, L := M, rb := g, f := upd S.f n (some b) } : St).Ok w' B ∧ 0 < M ∧ n ≤ S.p + M ∧ ((M = S.L ∧ g = S.rb) ∨ w.heap.size ≤ g) ∧ w'.heap[eb]? = some (.cells cs' 82 (0, 0)) ∧ cs'.size = cs.size ∧ cs'[off + 1]? = some ({ p := S.p, L := M, rb := g, f := upd S.f n (some b) } : St).ring ∧ (∀ i, i ≠ off + 1 → cs'[i]? = cs[i]?) ∧ Kept w w' (fun j => j = eb ∨ (0 < S.L ∧ j = S.rb))
set_option maxHeartbeats 1000000 in
theorem put_in {eb off n : Nat} {b : Bd} {cs : Array Value} (h : S.Ok w B) (hE : w.heap[eb]? = some (.cells cs 82 (0, 0))) (hp : cs[off]? = some (.int .i64 (S.p : Int))) (hr : cs[off + 1]? = some S.ring) (h1 : S.p < n) (h2 : n ≤ S.p + S.L) (h3 : n ≤ 4611686018427387904) (hb : Body w B b) (hn : ¬ S.own b.k) : Calls Try.prog 39 #[.pointer (some ⟨eb, off, none⟩), .int .i64 (n : Int), b.v] w fun e w' => e = .returned (.tuple #[]) ∧ PutO w w' B S eb off n b cs := by
  have hL : 0 < S.L := by omega
  have hle := h.le
  have c0 : w.cell? ⟨eb, off, none⟩ = some (.int .i64 (S.p : Int)) := (blk_cell hE off).trans hp
  have c1 : w.cell? ⟨eb, off + 1, none⟩ = some S.ring := (blk_cell hE (off + 1)).trans hr
  rw [ring_pos hL] at c1
  have HP : Hid (Calls Try.prog 46 #[.slice (some ⟨S.rb, 0, none⟩) S.L S.L, .int .i64 (n : Int)] w fun e w' => e = .returned (.pointer (some ⟨S.rb, n % S.L * 2, none⟩)) ∧ w = w') := place_any hL (by omega) hle
  have hm : n % S.L < S.L := Nat.mod_lt _ hL
  have HT : Hid (w.there S.rb (n % S.L * 2) 2) := (h.row hL).1.there _ _ (by omega)
  have HO1 : Hid (∀ u ∈ [Value.int .i64 (n : Int), b.v], u.oneCell' = true) := (show ∀ u ∈ [Value.int .i64 (n : Int), b.v], u.oneCell' = true from cs_one n (some b))
  have HE : Hid (PutO w (w.setCells S.rb (n % S.L * 2) [.int .i64 (n : Int), b.v]) B S eb off n b cs) := by
    have hs := h.set hL h1 h2 hb hn
    have hne := h.ne_t hE (by decide) (by decide)
    refine ⟨⟨S.L, S.rb, cs, hs, hL, h2, .inl ⟨rfl, rfl⟩, ?_, rfl, hr, fun i _ => rfl, (ksets (P := fun j => j = S.rb) rfl _ _ _).mono fun j _ hj => .inr ⟨hL, hj⟩⟩⟩
    exact (ksets (P := fun j => j = S.rb) rfl _ _ _).obj hE (fun e => hne (.inl ⟨hL, e⟩))
  have hlt : decide ((S.L : Int) < (n : Int) - (S.p : Int)) = false := by rw [decide_eq_false_iff_not]; omega
  obtain ⟨bk, hbk⟩ : ∃ bk, b.k = bk := ⟨_, rfl⟩
  obtain ⟨bl, hbl⟩ : ∃ bl, b.bs.length = bl := ⟨_, rfl⟩
  have Hbv : Hid (b.v = .slice (some ⟨bk, 0, none⟩) bl bl) := (show b.v = _ from by unfold Bd.v; rw [hbk, hbl])
  rw [Hbv.out] at HE HO1 ⊢
  clear h hE hp hr hb hn hbk hbl
  generalize n % S.L = m at *
  go_enter Try.func39, Try.ntmps39
  go_wp2_with (first | (go_at_call 46; refine HP.out.mono ?_; rintro e w2 ⟨rfl, rfl⟩) | (refine at_store 91 _ _ rfl ?_; refine wl_storeL rfl 91 _ _ rfl (L := [.int .i64 (n : Int), .slice (some ⟨bk, 0, none⟩) bl bl]) rfl rfl HT.out info_cell HO1.out ?_) | fail)
  go_end0
  exact ⟨rfl, HE.out⟩
set_option maxHeartbeats 1000000 in
theorem put_wide {eb off n : Nat} {b : Bd} {cs : Array Value} (h : S.Ok w B) (hB : B ≤ w.heap.size) (hE : w.heap[eb]? = some (.cells cs 82 (0, 0))) (hp : cs[off]? = some (.int .i64 (S.p : Int))) (hr : cs[off + 1]? = some S.ring) (h1 : S.p + S.L < n) (h2 : n ≤ S.p + 20000) (h3 : n ≤ 4611686018427387904) (hb : Body w B b) (hn : ¬ S.own b.k) : Calls Try.prog 39 #[.pointer (some ⟨eb, off, none⟩), .int .i64 (n : Int), b.v] w fun e w' => e = .returned (.tuple #[]) ∧ PutO w w' B S eb off n b cs := by
  have hle := h.le
  have hp62 := h.p62
  have c0 : w.cell? ⟨eb, off, none⟩ = some (.int .i64 (S.p : Int)) := (blk_cell hE off).trans hp
  have c1 : w.cell? ⟨eb, off + 1, none⟩ = some S.ring := (blk_cell hE (off + 1)).trans hr
  have HW : Hid (Calls Try.prog 47 #[S.ring, .int .i64 ((n - S.p : Nat) : Int)] w fun e w' => WidO w w' S (n - S.p) e) := wid_any h (by omega) (by omega) hp62
  obtain ⟨ra, hra, hra2⟩ := ring_ra S
  rw [hra] at c1 HW
  have hd : (n : Int) - (S.p : Int) = ((n - S.p : Nat) : Int) := by omega
  have hlt : decide ((S.L : Int) < (n : Int) - (S.p : Int)) = true := by rw [decide_eq_true_eq]; omega
  rw [hd] at hlt
  obtain ⟨bk, hbk⟩ : ∃ bk, b.k = bk := ⟨_, rfl⟩
  obtain ⟨bl, hbl⟩ : ∃ bl, b.bs.length = bl := ⟨_, rfl⟩
  have Hbv : Hid (b.v = .slice (some ⟨bk, 0, none⟩) bl bl) := (show b.v = _ from by unfold Bd.v; rw [hbk, hbl])
  have hlt8 : eb < w.heap.size := lt_heap hE
  have HC : Hid (∀ M w1, (n - S.p) ≤ M → M ≤ 40000 → Fb w1 w.heap.size 91 (M * 2) ({ S with L := M, rb := w.heap.size } : St).rf → Below w.heap.size w w1 →
      let w2 := w1.setCell ⟨eb, off + 1, none⟩ (.slice (some ⟨w.heap.size, 0, none⟩) M M)
      w1.cell? ⟨eb, off + 1, none⟩ = some (.slice ra S.L S.L) ∧ w1.frozen? ⟨eb, off + 1, none⟩ = false ∧ w2.cell? ⟨eb, off + 1, none⟩ = some (.slice (some ⟨w.heap.size, 0, none⟩) M M) ∧ w2.there w.heap.size (n % M * 2) 2 ∧ PutO w (w2.setCells w.heap.size (n % M * 2) [.int .i64 (n : Int), b.v]) B S eb off n b cs) := fun M w1 hM1 hM2 hF hb1 => by
    have hE1 : w1.heap[eb]? = some (.cells cs 82 (0, 0)) := (hb1.block _ hlt8).trans hE
    have hMp : 0 < M := by omega
    have hs1 : ({ S with L := M, rb := w.heap.size } : St).Ok w1 B := ⟨fun _ => ⟨hF, hB⟩, fun m c hc => (h.el m c hc).still hb1, fun m c hc => ⟨(h.inw m c hc).1, by have := (h.inw m c hc).2; show m ≤ S.p + M; omega⟩, h.inj, hM2, h.p62⟩
    have hoff : off + 1 < cs.size := by rcases Array.getElem?_eq_some_iff.1 hr with ⟨hh, _⟩; exact hh
    have k2 : Kept w1 (w1.setCell ⟨eb, off + 1, none⟩ (.slice (some ⟨w.heap.size, 0, none⟩) M M)) (fun j => j = eb) := kset _ _ _ _ rfl
    have hne := hs1.ne_t hE1 (by decide) (by decide)
    have hs2 := hs1.keep k2 (fun j hj e => hne (by rw [← e]; exact hj))
    have hE2 : (w1.setCell ⟨eb, off + 1, none⟩ (.slice (some ⟨w.heap.size, 0, none⟩) M M)).heap[eb]? = some (.cells (cs.setIfInBounds (off + 1) (.slice (some ⟨w.heap.size, 0, none⟩) M M)) 82 (0, 0)) := blk_set hE1 rfl
    have hgl : w.heap.size < w1.heap.size := hF.lt
    have hnb : ¬ ({ S with L := M, rb := w.heap.size } : St).own b.k := by
      rintro (⟨_, e⟩ | ⟨m, c, hc, e⟩)
      · have := hb.bk.lt; have e' : b.k = w.heap.size := e; omega
      · exact hn (.inr ⟨m, c, hc, e⟩)
    have hbE : b.k ≠ eb := fun e => bk_ne hb.bk hE (by decide) e
    have hb2 : Body (w1.setCell ⟨eb, off + 1, none⟩ (.slice (some ⟨w.heap.size, 0, none⟩) M M)) B b := (hb.still hb1).keep k2 hbE
    have hs3 := hs2.set hMp (n := n) (by show S.p < n; omega) (by show n ≤ S.p + M; omega) hb2 hnb
    have k3 : Kept (w1.setCell ⟨eb, off + 1, none⟩ (.slice (some ⟨w.heap.size, 0, none⟩) M M)) _ (fun j => j = w.heap.size) := ksets (P := fun j => j = w.heap.size) rfl [.int .i64 (n : Int), b.v] (n % M * 2) _
    refine ⟨((blk_cell hE1 (off + 1)).trans hr).trans (by rw [hra]), frozen_of_row _ _ _ _ _ hE1, ?_, (hs2.row hMp).1.there _ _ ?_, ⟨⟨M, w.heap.size, _, hs3, hMp, by omega, .inr (Nat.le_refl _), k3.obj hE2 (show ¬ eb = w.heap.size by omega), by simp, ?_, fun i hi => ?_, ?_⟩⟩⟩
    · rw [blk_cell hE2]; simp [hoff]
    · have := Nat.mod_lt n hMp; show n % M * 2 + 2 ≤ M * 2; omega
    · rw [Array.getElem?_setIfInBounds]
      simp [hoff, St.ring, show ¬ M = 0 by omega]
    · rw [Array.getElem?_setIfInBounds, if_neg (fun e => hi e.symm)]
    · have k1 : Kept w w1 (fun j => j = eb ∨ (0 < S.L ∧ j = S.rb)) := Kept.ofBelow hb1 _
      exact (k1.step k2 (fun j hj => .inl (.inl hj))).step k3 (fun j hj => .inr (by have e : j = w.heap.size := hj; omega))
  rw [Hbv.out] at HC ⊢
  clear h hE hp hr hb hn hbk hbl hra hra2
  go_enter Try.func39, Try.ntmps39
  go_wp2_with (first | (go_at_call 47; refine HW.out.mono ?_) | fail)
  rintro e w1 ⟨⟨M, hM1, hM2, rfl, hF, hb1⟩⟩
  obtain ⟨x0, x1, x2, x3, x4⟩ := HC.out M w1 hM1 hM2 hF hb1
  generalize hV : w1.setCell ⟨eb, off + 1, none⟩ (.slice (some ⟨w.heap.size, 0, none⟩) M M) = V at *
  have HP : Hid (Calls Try.prog 46 #[.slice (some ⟨w.heap.size, 0, none⟩) M M, .int .i64 (n : Int)] V fun e w' => e = .returned (.pointer (some ⟨w.heap.size, n % M * 2, none⟩)) ∧ V = w') := place_any (by omega) (by omega) hM2
  have HT : Hid (V.there w.heap.size (n % M * 2) 2) := x3
  have HE : Hid (PutO w (V.setCells w.heap.size (n % M * 2) [.int .i64 (n : Int), .slice (some ⟨bk, 0, none⟩) bl bl]) B S eb off n b cs) := x4
  have HO1 : Hid (∀ u ∈ [Value.int .i64 (n : Int), .slice (some ⟨bk, 0, none⟩) bl bl], u.oneCell' = true) := (show ∀ u ∈ [Value.int .i64 (n : Int), .slice (some ⟨bk, 0, none⟩) bl bl], u.oneCell' = true from by intro u hu; simp at hu; rcases hu with rfl | rfl <;> rfl)
  clear x3 x4 hF hb1 HC HW
  generalize n % M = m at *
  go_wp2_with (first | (go_at_call 46; refine HP.out.mono ?_; rintro e w2 ⟨rfl, rfl⟩) | (refine at_store 91 _ _ rfl ?_; refine wl_storeL rfl 91 _ _ rfl (L := [.int .i64 (n : Int), .slice (some ⟨bk, 0, none⟩) bl bl]) rfl rfl HT.out info_cell HO1.out ?_) | fail)
  go_end0
  exact ⟨rfl, HE.out⟩
theorem put_any {eb off n : Nat} {b : Bd} {cs : Array Value} (h : S.Ok w B) (hB : B ≤ w.heap.size) (hE : w.heap[eb]? = some (.cells cs 82 (0, 0))) (hp : cs[off]? = some (.int .i64 (S.p : Int))) (hr : cs[off + 1]? = some S.ring) (h1 : S.p < n) (h2 : n ≤ S.p + 20000) (h3 : n ≤ 4611686018427387904) (hb : Body w B b) (hn : ¬ S.own b.k) : Calls Try.prog 39 #[.pointer (some ⟨eb, off, none⟩), .int .i64 (n : Int), b.v] w fun e w' => e = .returned (.tuple #[]) ∧ PutO w w' B S eb off n b cs := by
  by_cases hh : n ≤ S.p + S.L
  · exact put_in h hE hp hr h1 hh h3 hb hn
  · exact put_wide h hB hE hp hr (by omega) h2 h3 hb hn
end
end Go.Proofs.Ytghihdenbdnnjaa.Ln
