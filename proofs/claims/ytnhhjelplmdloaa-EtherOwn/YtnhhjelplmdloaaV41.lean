import Derived.Test.YtnhhjelplmdloaaV40
namespace Go.Proofs.Ytnhhjelplmdloaa.Et
open Go.RowKit Go.Maps
set_option linter.unusedVariables false
set_option linter.unusedSimpArgs false
set_option maxRecDepth 100000
section
variable {w w' w0 w1 w2 w3 : World} {B T s : Nat} {P : Nat → Prop}
theorem own_emptyU (W : World) : (W.alloc (.cells #[] 5)).ownsRow W.heap.size 5 1 (.slice (some ⟨W.heap.size, 0, none⟩) 0 0) 0 [] := World.ownsRow_made W #[] 0 (Nat.le_refl _) (Nat.zero_le _) rfl
theorem own_nil (t s : Nat) : w.ownsRow B t s (.slice none 0 0) 0 [] := ⟨by simp, .inl ⟨rfl, rfl⟩⟩
theorem iFl5 : (Try.prog.info? 43).map (·.size) = some 5 := by kernel_rfl
theorem oneTBf : (Try.prog.info? 35).map (·.size) = some 1 := by kernel_rfl
theorem one5f (x y z t : Int) (a : Option Addr) (n c : Nat) : ∀ u ∈ ([.int .i64 x, .int .i64 y, .int .i64 z, .int .i64 t, .slice a n c] : List Value), u.oneCell' = true := by
  intro u hu
  simp only [List.mem_cons, List.not_mem_nil, or_false] at hu
  rcases hu with rfl | rfl | rfl | rfl | rfl <;> rfl
structure Ap (w : World) (B : Nat) (ds : List Fd) (k : Nat) (a : Option Addr) (c : Nat) (L : List Fx) : Prop where
  len : L.length = k
  row : w.ownsRow B 43 5 (.slice a k c) k (flCells L)
  byt : ∀ f ∈ L, f.byt w B
  map : L.map Fx.d = ds.take k
theorem Ap.still {ds : List Fd} {k c : Nat} {a : Option Addr} {L : List Fx} (h : Ap w B ds k a c L) (hb : Below w.heap.size w w') : Ap w' B ds k a c L := ⟨h.len, own_still h.row hb, fun f hf => (h.byt f hf).keep (Kept.ofBelow hb (fun _ => False)) (fun _ _ => id), h.map⟩
theorem Ap.keep {ds : List Fd} {k c : Nat} {a : Option Addr} {L : List Fx} (h : Ap w B ds k a c L) (k2 : Kept w w' P) (hp : ∀ j, B ≤ j → ¬ P j) : Ap w' B ds k a c L :=
  ⟨h.len, k2.owns h.row (fun j hj => hp j (World.ownsRow.lt h.row j hj).1), fun f hf => (h.byt f hf).keep k2 (fun j hj => hp j (World.ownsRow.lt (h.byt f hf).1 j hj).1), h.map⟩
theorem Ap.rdf {ds : List Fd} {k c : Nat} {a : Option Addr} {L : List Fx} (h : Ap w B ds k a c L) (hk : ds.length = k) : RdF w a k ds := ⟨L, by rw [h.map, ← hk, List.take_length], h.len, fun f hf => (h.byt f hf).rd, row_cells h.row h.len⟩
theorem Ap.snoc {ds : List Fd} {k c c1 : Nat} {a a1 : Option Addr} {L : List Fx} {f : Fx} (h : Ap w B ds k a c L) (hf : f.byt w B) (hd : ds[k]? = some f.d) (ho : w1.ownsRow B 43 5 (.slice a1 (k + 1) c1) (k + 1) (flCells L ++ f.cs.toList)) (hk : Kept w w1 (fun j => (Value.slice a k c).ownBlock = some j)) : Ap w1 B ds (k + 1) a1 c1 (L ++ [f]) := by
  have kb : ∀ g : Fx, g.byt w B → g.byt w1 B := fun g hg => ⟨own_keptT hg.1 h.row hk (by decide), hg.2⟩
  refine ⟨by simp [h.len], by rw [flCells_app]; simpa [flCells] using ho, fun g hg => ?_, ?_⟩
  · rcases List.mem_append.1 hg with hg | hg
    · exact kb g (h.byt g hg)
    · rw [List.mem_singleton.1 hg]; exact kb f hf
  · rw [List.map_append, h.map, List.take_add_one, hd]; rfl
set_option maxHeartbeats 4000000 in
theorem apart_any {a : Option Addr} {n c : Nat} {L : List Fx} (h : RdG w B a n c L) (hn : n ≤ 1000) (hsz : ∀ f ∈ L, f.n ≤ 40000) : Calls Try.prog 21 #[.slice a n c] w fun e w' => ∃ a' c' L', e = .returned (.slice a' n c') ∧ Ap w' w.heap.size (L.map Fx.d) n a' c' L' ∧ Below w.heap.size w w' := by
  obtain ⟨bi, bih, biz0, biz1, biz2⟩ := tU
  obtain ⟨fi, fih, fiz0, fiz1, fiz2⟩ := tFl5
  have HG : Hid (∀ X, Below w.heap.size w X → RdG X B a n c L) := fun X hX => h.still hX
  have HS : Hid (∀ f ∈ L, f.n ≤ 40000) := hsz
  have HLn : Hid (L.length = n) := h.len
  clear h hsz
  go_enter Try.func21, Try.ntmps21
  go_wp2_with fail
  go_loopw [3, 4] (fun v i wr => ∃ (k : Nat) (a1 : Option Addr) (c1 : Nat) (L1 : List Fx), k ≤ n ∧ v = .slice a1 k c1 ∧ i = .int .i64 (k : Int) ∧ Ap wr w.heap.size (L.map Fx.d) k a1 c1 L1 ∧ Below w.heap.size w wr) (fun _ i _ => n - (intOf i).toNat)
  case atStart => exact ⟨0, none, 0, [], Nat.zero_le _, rfl, rfl, ⟨rfl, own_nil _ _, fun f hf => (by cases hf), by simp⟩, Below.refl _ w⟩
  case round =>
    as_aux_lemma =>
    obtain ⟨k, a1, c1, L1, hk, rfl, rfl, hap, hbl⟩ := hrel
    have HA : Hid (Ap wr w.heap.size (L.map Fx.d) k a1 c1 L1) := hap
    have HB : Hid (Below w.heap.size w wr) := hbl
    have hg := HG.out wr hbl
    clear hap hbl
    have i1 : (0 : Int) ≤ (k : Int) := Int.natCast_nonneg _
    by_cases hlt : k < n
    · have i2 : (k : Int) < (n : Int) := by omega
      obtain ⟨⟨ff, ho⟩, hrd⟩ : (∃ f, L.getD k f0 = f) ∧ True := ⟨⟨_, rfl⟩, trivial⟩
      have hby := hg.byt k hlt
      have hfn : ff.n ≤ 40000 := by rw [← ho]; exact HS.out _ (mem_getD (by rw [HLn.out]; exact hlt))
      have hgx : ∃ g, a = some ⟨g, 0, none⟩ := by
        rcases hg.row.2 with ⟨h1, h2⟩ | ⟨g, cap, cur, hv, _⟩
        · omega
        · simp only [Value.slice.injEq] at hv
          exact ⟨g, hv.1⟩
      obtain ⟨g, rfl⟩ := hgx
      obtain ⟨x0, x1, x2, x3, x4, -⟩ := row_at hg.row (k := k) (by rw [HLn.out]; exact hlt)
      rw [ho] at x0 x1 x2 x3 x4 hby
      have HR : Hid (Rd wr ff.a ff.n ff.c ff.bs) := hby.rd
      have Hrr : Hid (∀ i, 0 ≤ ff.bs.getD i 0 ∧ ff.bs.getD i 0 ≤ 255) := hby.2
      have HD : Hid ((L.map Fx.d)[k]? = some ff.d) := by
        rw [List.getElem?_map, ← ho]
        simp [List.getD, List.getElem?_eq_getElem (show k < L.length by rw [HLn.out]; exact hlt)]
        exact trivial
      clear hg hby hrd
      go_upto_region 6 with (first
        | (refine wl_allocZ rfl 43 rfl zFl ?_; intro W1 k1 b1 s1; have K1 : Hid (W1.heap[wr.heap.size]? = some (.cells f0.cs 43 (0, 0))) := k1; have B1 : Hid (Below wr.heap.size wr W1) := b1; clear k1 b1 s1)
        | (refine wl_storeZ rfl 43 _ _ rfl (L := ff.cs.toList) rfl rfl K1.out iFl rfl (fx_one ff) ?_; intro W2 k2 kk2; have K2 : Hid (W2.heap[wr.heap.size]? = some (.cells ff.cs 43 (0, 0))) := k2; have KK2 : Hid (Mb.Kept W1 W2 (fun j => j = wr.heap.size)) := kk2; clear k2 kk2)
        | fail)
      have B2 : Hid (Below wr.heap.size wr W2) := (show Below wr.heap.size wr W2 from B1.out.trans (KK2.out.below B1.out.size (fun q hq e => by have e' : q = wr.heap.size := e; omega)))
      have y4 : (W2.alloc (.cells #[] 5)).cell? ⟨wr.heap.size, 4, none⟩ = some (.slice ff.a ff.n ff.c) := cell_up (balloc (Below.refl _ W2)) (blk_cell K2.out 4)
      have HW : Hid (wr.heap.size < W2.heap.size) := lt_heap K2.out
      clear x0 x1 x2 x3 x4 B1 KK2
      go_upto_region 7 with (first
        | (refine app_g rfl _ _ 35 rfl W2.heap.size 5 bi (.int .u8 0) 1 1 Try.underlying35 bih biz0 biz1 biz2 rfl (by omega) (.slice (some ⟨W2.heap.size, 0, none⟩) 0 0) 0 [] rfl (own_emptyU W2) ff.a ff.n ff.c (ff.bs.map (Value.int .u8)) rfl HR.out.2.1 (by rw [List.length_map, HR.out.1]; omega) (fun ad had => ((HR.out.still B2.out).still (balloc (Below.refl _ W2))).cells ad had) (bytes_one _) (by unfold maxLen; omega) (by omega) (by simp) ?_; intro v1 Y ho2 hk2 he2; rw [Nat.zero_add, List.nil_append] at ho2; obtain ⟨a2, c2, rfl⟩ := own_sh ho2.out; have HOb : Hid (Y.ownsRow W2.heap.size 5 1 (.slice a2 ff.n c2) ff.n (ff.bs.map (Value.int .u8))) := ho2.out; have BY : Hid (Below W2.heap.size W2 Y) := (show Below W2.heap.size W2 Y from (balloc (Below.refl _ W2)).trans (hk2.out.below (by simp) (fun q hq e => by simp [Value.ownBlock] at e; omega))); have KY : Hid (Y.heap[wr.heap.size]? = some (.cells ff.cs 43 (0, 0))) := blk_up BY.out K2.out; clear ho2 hk2 he2)
        | (refine wl_stS rfl 35 _ _ rfl (g := wr.heap.size) (p := 4) rfl rfl KY.out (show 4 < 5 from by omega) oneTBf rfl ?_; have KZ : Hid ((Y.setCell ⟨wr.heap.size, 4, none⟩ (.slice a2 ff.n c2)).heap[wr.heap.size]? = some (.cells #[.int .i64 ff.id, .int .i64 ff.src, .int .i64 ff.dst, .int .i64 ff.due, .slice a2 ff.n c2] 43 (0, 0))) := blk_set KY.out rfl; have HSK : Hid (Kept Y (Y.setCell ⟨wr.heap.size, 4, none⟩ (.slice a2 ff.n c2)) (fun j => j = wr.heap.size)) := kset (P := fun j => j = wr.heap.size) Y _ 4 _ rfl; generalize Y.setCell ⟨wr.heap.size, 4, none⟩ (.slice a2 ff.n c2) = Z at *)
        | fail)
      have HZ : Hid (Ap Z w.heap.size (L.map Fx.d) k a1 c1 L1 ∧ Below wr.heap.size wr Z ∧ (⟨ff.id, ff.src, ff.dst, ff.due, a2, ff.n, c2, ff.bs⟩ : Fx).byt Z w.heap.size) := by
        have hsw : w.heap.size ≤ wr.heap.size := HB.out.size
        have b1 : Below wr.heap.size wr Y := bstep B2.out BY.out
        have b2 : Below wr.heap.size wr Z := b1.trans (HSK.out.below b1.size (fun q hq e => by have e' : q = wr.heap.size := e; omega))
        exact ⟨HA.out.still b2, b2, own_lower (HSK.out.owns HOb.out (fun j hj e => by
          have h1 := (World.ownsRow.lt HOb.out j hj).1
          have e' : j = wr.heap.size := e
          have := HW.out
          omega)) (by have := HW.out; omega), Hrr.out⟩
      have HRz : Hid (Z.rangeAt wr.heap.size 0 [.int .i64 ff.id, .int .i64 ff.src, .int .i64 ff.dst, .int .i64 ff.due, .slice a2 ff.n c2]) := Ln.blk_range (L := [.int .i64 ff.id, .int .i64 ff.src, .int .i64 ff.dst, .int .i64 ff.due, .slice a2 ff.n c2]) KZ.out
      clear y4 HR B2 K2 HOb BY KY HSK KZ Hrr HW
      go_wp2_with (first
        | (refine Ln.load_mid 43 (.tmp 5) HRz.out _ Try.underlying43 rfl iFl5 rfl rfl rfl ?_)
        | (refine wl_bsl rfl 39 43 1 _ rfl Try.underlying39 #[.int .i64 ff.id, .int .i64 ff.src, .int .i64 ff.dst, .int .i64 ff.due, .slice a2 ff.n c2] (bsl_eq (by kernel_rfl) (bsFl ff.id ff.src ff.dst ff.due a2 ff.n c2)) ?_; intro V kv bv sv)
        | (refine app_g rfl _ _ 39 rfl w.heap.size 43 fi (.agg #[.int .i64 0, .int .i64 0, .int .i64 0, .int .i64 0, .slice none 0 0]) 5 56 Try.underlying39 fih fiz0 fiz1 fiz2 rfl (by omega) (.slice a1 k c1) k (flCells L1) rfl (HZ.out.1.still bv).row (some ⟨Z.heap.size, 0, none⟩) 1 1 [.int .i64 ff.id, .int .i64 ff.src, .int .i64 ff.dst, .int .i64 ff.due, .slice a2 ff.n c2] rfl (fun h => by cases h) rfl (fun ad had j u hu => by cases had; rw [Addr.add_lit, Nat.zero_add, blk_cell kv]; simpa using hu) (one5f _ _ _ _ _ _ _) (by unfold maxLen; omega) (by omega) (by have h1 := HB.out.size; have h2 := HZ.out.2.1.size; have h3 := bv.size; omega) ?_; intro v1 Y2 ho2 hk2 he2; obtain ⟨a3, c3, rfl⟩ := own_sh ho2.out; have HQ : Hid (Ap Y2 w.heap.size (L.map Fx.d) (k + 1) a3 c3 (L1 ++ [⟨ff.id, ff.src, ff.dst, ff.due, a2, ff.n, c2, ff.bs⟩])) := (HZ.out.1.still bv).snoc (f := ⟨ff.id, ff.src, ff.dst, ff.due, a2, ff.n, c2, ff.bs⟩) (HZ.out.2.2.keep (Kept.ofBelow bv (fun _ => False)) (fun _ _ => id)) HD.out ho2.out hk2.out; have HQb : Hid (Below w.heap.size w Y2) := (show Below w.heap.size w Y2 from ((HB.out.trans ((bstep HZ.out.2.1 bv).mono HB.out.size))).trans (hk2.out.below (by have h1 := HB.out.size; have h2 := HZ.out.2.1.size; have h3 := bv.size; omega) (fun q hq e => by have := (World.ownsRow.lt (HA.out.row) q e).1; omega))); clear ho2 hk2 he2 kv bv sv)
        | fail)
      exact ⟨⟨k + 1, a3, c3, _, by omega, rfl, by go_num, HQ.out, HQb.out⟩, by simp [intOf]; omega⟩
    · obtain rfl : k = n := by omega
      clear hg
      go_wp2_with fail
      go_ret
      exact ⟨a1, c1, L1, rfl, HA.out, HB.out⟩
end
end Go.Proofs.Ytnhhjelplmdloaa.Et
