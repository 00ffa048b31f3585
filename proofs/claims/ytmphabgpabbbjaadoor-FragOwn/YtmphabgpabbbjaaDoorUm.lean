import Derived.Test.YtmphabgpabbbjaaDoorUl
namespace Go.Proofs.YtmphabgpabbbjaaDoor.Fg
open Go.RowKit Mb
set_option linter.unusedVariables false
set_option maxRecDepth 100000
set_option linter.unusedSimpArgs false
section
variable {w w' W : World} {B : Nat}
abbrev hcs (bs : List Int) : Array Value := #[.int .i64 (sz bs : Int), .int .i64 (pl bs : Int), .int .i64 (sm bs : Int)]
structure At (w V : World) (B : Nat) (J : Jn) (k : Nat) (bs qb L : List Int) (g : Nat) (A : Option Addr) (m d kd : Nat) : Prop where
  mid : Mid w V B J k bs qb L g
  hx : V.heap[kd]? = some (.cells (hcs bs) 59 (0, 0))
  rd : Rd V A m d (bs.drop 8)
  jb : V.heap[J.b]? = w.heap[J.b]?
  oth : ∀ t g', t ≠ k → J.gs t = some g' → V.heap[g']? = w.heap[g']?
  kw : w.heap.size ≤ kd
  kg : kd ≠ g
  kp : kd ≠ J.bp
  hk : k < J.n
  ok : J.Ok w B
theorem Mid.still {V V' : World} {J : Jn} {k : Nat} {bs qb L : List Int} {g : Nat} (h : Mid w V B J k bs qb L g) (hb : Below V.heap.size V V') : Mid w V' B J k bs qb L g :=
  ⟨h.row.keep (Kept.ofBelow hb (fun _ => False)) id, h.ql, h.bk.still hb, h.ll, h.lt, h.lb, h.jn, h.kp.step (Kept.ofBelow hb (fun _ => False)) (fun _ hf => hf.elim), h.gl, h.lo, h.go, h.gb, h.gp, h.jp⟩
theorem At.still {V V' : World} {J : Jn} {k : Nat} {bs qb L : List Int} {g : Nat} {A : Option Addr} {m d kd : Nat} (h : At w V B J k bs qb L g A m d kd) (hb : Below V.heap.size V V') : At w V' B J k bs qb L g A m d kd :=
  ⟨h.mid.still hb, (hb.block _ (lt_heap h.hx)).trans h.hx, h.rd.still hb, (hb.block _ (Nat.lt_of_lt_of_le (lt_heap h.ok.jb) h.mid.kp.size)).trans h.jb, fun t g' ht hg => (hb.block _ (Nat.lt_of_lt_of_le (h.ok.yes t g' hg).1.lt h.mid.kp.size)).trans (h.oth t g' ht hg), h.kw, h.kg, h.kp, h.hk, h.ok⟩
theorem At.x {V : World} {J : Jn} {k : Nat} {bs qb L : List Int} {g : Nat} {A : Option Addr} {m d kd : Nat} (h : At w V B J k bs qb L g A m d kd) : V.cell? ⟨kd, 0, none⟩ = some (.int .i64 (sz bs : Int)) ∧ V.cell? ⟨kd, 1, none⟩ = some (.int .i64 (pl bs : Int)) ∧ V.cell? ⟨kd, 2, none⟩ = some (.int .i64 (sm bs : Int)) := ⟨blk_cell h.hx 0, blk_cell h.hx 1, blk_cell h.hx 2⟩
theorem At.r {V : World} {J : Jn} {k : Nat} {bs qb L : List Int} {g : Nat} {A : Option Addr} {m d kd : Nat} (h : At w V B J k bs qb L g A m d kd) : V.cell? ⟨J.bp, k * 4, none⟩ = some (.int .i64 (sz bs : Int)) ∧ V.cell? ⟨J.bp, k * 4 + 1, none⟩ = some (.int .i64 (pl bs : Int)) ∧ V.cell? ⟨J.bp, k * 4 + 2, none⟩ = some (.int .i64 (sm bs : Int)) ∧ V.cell? ⟨J.bp, k * 4 + 3, none⟩ = some (.slice (some ⟨g, 0, none⟩) (sz bs) (sz bs)) := put_cells h.hk h.mid.ql h.mid.row
structure Af (w X : World) (B : Nat) (J : Jn) (k : Nat) (bs L : List Int) (g kd : Nat) : Prop where
  row : Fb X J.bp 64 (J.n * 4) (J.put k ⟨sz bs, sm bs, joined (J.ps k) bs⟩ (some g)).f
  bk : Bk X g L
  ll : L.length = sz bs
  lt : L.take (joined (J.ps k) bs).length = joined (J.ps k) bs
  lb : By L
  kp : Kept w X J.own
  hx : X.heap[kd]? = some (.cells (hcs bs) 59 (0, 0))
  jb : X.heap[J.b]? = w.heap[J.b]?
  oth : ∀ t g', t ≠ k → J.gs t = some g' → X.heap[g']? = w.heap[g']?
theorem Af.still {X X' : World} {J : Jn} {k : Nat} {bs L : List Int} {g kd : Nat} (h : Af w X B J k bs L g kd) (ok : J.Ok w B) (hb : Below X.heap.size X X') : Af w X' B J k bs L g kd :=
  ⟨h.row.keep (Kept.ofBelow hb (fun _ => False)) id, h.bk.still hb, h.ll, h.lt, h.lb, h.kp.step (Kept.ofBelow hb (fun _ => False)) (fun _ hf => hf.elim), (hb.block _ (lt_heap h.hx)).trans h.hx, (hb.block _ (Nat.lt_of_lt_of_le (lt_heap ok.jb) h.kp.size)).trans h.jb, fun t g' ht hg => (hb.block _ (Nat.lt_of_lt_of_le (ok.yes t g' hg).1.lt h.kp.size)).trans (h.oth t g' ht hg)⟩
theorem setc_ne {k b i : Nat} {v : Value} (h : k ≠ b) : (w.setCell ⟨b, i, none⟩ v).heap[k]? = w.heap[k]? := Below.heap_setCell w ⟨b, i, none⟩ v k h
theorem At.copied {D D3 : World} {J : Jn} {k : Nat} {bs qb L : List Int} {g : Nat} {A : Option Addr} {m d kd : Nat} (h : At w D B J k bs qb L g A m d kd) (hf : Form bs) (hby : By bs) (hft : fits (J.ps k) bs = true) (hb3 : Bk D3 g (spl L (pl bs) (bs.drop 8))) (hk3 : Kept D D3 (fun j => j = g)) :
    Af w (D3.setCell ⟨J.bp, k * 4 + 1, none⟩ (.int .i64 ((pl bs : Int) + (m : Int)))) B J k bs (spl L (pl bs) (bs.drop 8)) g kd := by
  have hm := h.mid
  have hl := joined_len hf hft
  have hml : m = min 248 (sz bs - pl bs) := by rw [← h.rd.len, hf.dlen]
  have hpm : (((joined (J.ps k) bs).length : Nat) : Int) = (pl bs : Int) + (m : Int) := by omega
  have hfit : pl bs + (bs.drop 8).length ≤ L.length := by
    rw [hm.ll, hf.dlen]
    have := hf.lt
    omega
  have hgk : D.heap.size ≤ D3.heap.size := hk3.size
  have row3 := hm.row.keep hk3 (fun e => hm.gp e.symm)
  rw [← hpm]
  refine ⟨row_place h.hk row3, ?_, by rw [spl_len _ _ _ hfit]; exact hm.ll, ?_, spl_by _ hm.lb (hby.drop 8), ?_, ?_, ?_, fun t g' ht hg => ?_⟩
  · unfold Bk
    rw [setc_ne hm.gp]
    exact hb3
  · have e := spl_take L (pl bs) (bs.drop 8) hfit
    rw [hm.lt] at e
    rw [hm.jn, List.length_append, hm.ql]
    exact e
  · exact (hm.kp.step hk3 (fun j hj => by rw [hj]; exact hm.gl)).step (kset _ J.bp _ _ (P := fun j => j = J.bp) rfl) (fun j hj => by rw [hj]; exact .inl (.inr (.inl rfl)))
  · rw [setc_ne h.kp]
    exact hk3.obj h.hx h.kg
  · rw [setc_ne hm.jp, hk3.block _ (Nat.lt_of_lt_of_le (lt_heap h.ok.jb) hm.kp.size) (fun e => hm.gb e.symm)]
    exact h.jb
  · rw [setc_ne (h.ok.gb hg).2, hk3.block _ (Nat.lt_of_lt_of_le (h.ok.yes t g' hg).1.lt hm.kp.size) (hm.go t g' ht hg)]
    exact h.oth t g' ht hg
theorem Af.zero {X : World} {J : Jn} {k : Nat} {bs L : List Int} {g kd : Nat} (h : Af w X B J k bs L g kd) (ok : J.Ok w B) (hgp : g ≠ J.bp) (hkp : kd ≠ J.bp) : Fb (X.setCells J.bp (k * 4) (pcs p0 none)) J.bp 64 (J.n * 4) (J.put k p0 none).f ∧ Bk (X.setCells J.bp (k * 4) (pcs p0 none)) g L ∧ Kept w (X.setCells J.bp (k * 4) (pcs p0 none)) J.own ∧ (X.setCells J.bp (k * 4) (pcs p0 none)).heap[kd]? = some (.cells (hcs bs) 59 (0, 0)) ∧ (X.setCells J.bp (k * 4) (pcs p0 none)).heap[J.b]? = w.heap[J.b]? ∧ ∀ t g', t ≠ k → J.gs t = some g' → (X.setCells J.bp (k * 4) (pcs p0 none)).heap[g']? = w.heap[g']? := by
  have hk := ksets (P := fun j => j = J.bp) (b := J.bp) rfl (pcs p0 none) (k * 4) X
  have hr := (J.put k ⟨sz bs, sm bs, joined (J.ps k) bs⟩ (some g)).row_put k p0 none h.row
  rw [Jn.put_put] at hr
  refine ⟨hr, h.bk.keep hk hgp, h.kp.step hk (fun j hj => by rw [hj]; exact .inl (.inr (.inl rfl))), hk.obj h.hx hkp, ?_, fun t g' ht hg => ?_⟩
  · rw [hk.block _ (Nat.lt_of_lt_of_le (lt_heap ok.jb) h.kp.size) ok.jp]
    exact h.jb
  · rw [hk.block _ (Nat.lt_of_lt_of_le (ok.yes t g' hg).1.lt h.kp.size) (ok.gb hg).2]
    exact h.oth t g' ht hg
set_option maxHeartbeats 2000000 in
theorem take_more {J : Jn} (h : J.Ok w B) {k : Nat} (hk : k < J.n) {ao : Option Addr} {n c : Nat} {bs : List Int} (hr : Rd w ao n c bs) (hn : n ≤ 140737488355328) (hf : form bs = true) (hp0 : pl bs ≠ 0) (hft : fits (J.ps k) bs = true) (hT : Tab w) (hB0 : 0 < B) : Calls Tryd.prog 10 #[.pointer (some ⟨J.b, 0, none⟩), .int .i64 (k : Int), .slice ao n c] w fun e w' => TkOut w w' B J k (take (J.ps k) bs) e := by
  have HS : Hid (Calls Tryd.prog 26 #[.pointer (some ⟨J.b, 0, none⟩), .int .i64 (k : Int)] w fun e w' => e = .returned (.bool (inR 0 ((J.n : Int) - 1) k)) ∧ w = w') := h.sender k
  rw [inR_t (by omega) (by omega)] at HS
  have HO : Hid (Calls Tryd.prog 27 #[.slice ao n c] w fun e w' => ∃ A m d, e = .returned (.tuple #[.agg #[.int .i64 (sz bs : Int), .int .i64 (pl bs : Int), .int .i64 (sm bs : Int)], .slice A m d, .bool true]) ∧ Rd w' A m d (bs.drop 8) ∧ Below w.heap.size w w') := (opened_any hr hn).mono fun e w' ⟨A, m, d, he, hrd, hb⟩ => ⟨A, m, d, by rw [he, hf]; rfl, hrd hf, hb⟩
  have hform := (form_iff bs).1 hf
  have hby := hr.by_
  have n1 := h.n1
  have n16 := h.n16
  have i1 : (0 : Int) ≤ (k : Int) := Int.natCast_nonneg _
  have i2 : (k : Int) < (J.n : Int) := by omega
  have Hh : Hid (J.Ok w B) := h
  clear h hr hf
  go_enter Tryd.func10, Tryd.ntmps10
  go_wp2_with (first | (go_at_call 26; refine HS.out.mono ?_; rintro e w2 ⟨rfl, rfl⟩) | (go_at_call 27; refine HO.out.mono ?_) | fail)
  rintro e W1 ⟨A, m, d, rfl, hrd, hb1⟩
  have c0 : W1.cell? ⟨J.b, 0, none⟩ = some (.slice (some ⟨J.bp, 0, none⟩) J.n J.n) := below_at hb1 (blk_cell Hh.out.jb 0)
  generalize hW2 : W1.alloc (.cells #[.int .i64 (sz bs : Int), .int .i64 (pl bs : Int), .int .i64 (sm bs : Int)] 59) = W2
  have hb2 : Below w.heap.size w W2 := by rw [← hW2]; exact balloc hb1
  have hb12 : Below W1.heap.size W1 W2 := by rw [← hW2]; exact balloc (Below.refl _ _)
  have hblk : W2.heap[W1.heap.size]? = some (.cells #[.int .i64 (sz bs : Int), .int .i64 (pl bs : Int), .int .i64 (sm bs : Int)] 59 (0, 0)) := by rw [← hW2]; exact heap_alloc_new _ _
  have c2 : W2.cell? ⟨J.b, 0, none⟩ = some (.slice (some ⟨J.bp, 0, none⟩) J.n J.n) := below_at hb12 c0
  have hge : w.heap.size ≤ W1.heap.size := hb1.size
  generalize hkd : W1.heap.size = kd at *
  have x0 : W2.cell? ⟨kd, 0, none⟩ = some (.int .i64 (sz bs : Int)) := blk_cell hblk 0
  have x1 : W2.cell? ⟨kd, 1, none⟩ = some (.int .i64 (pl bs : Int)) := blk_cell hblk 1
  have x2 : W2.cell? ⟨kd, 2, none⟩ = some (.int .i64 (sm bs : Int)) := blk_cell hblk 2
  have Hok : Hid (J.Ok W2 B) := Hh.out.still hb2
  have Hrd : Hid (Rd W2 A m d (bs.drop 8)) := hrd.still (by rw [hkd]; exact hb12)
  have Hb2 : Hid (Below w.heap.size w W2) := hb2
  have hm0 : m = min 248 (sz bs - pl bs) := by rw [← hrd.len, hform.dlen]
  have hlt0 := hform.lt
  have hmle : m ≤ sz bs - pl bs := by omega
  have hfit : pl bs + m ≤ sz bs := by omega
  have hbig := hform.big
  have bb1 : (pl bs : Int) ≤ 4000 := by omega
  have bb2 : (m : Int) ≤ 248 := by omega
  have bb3 : (sz bs : Int) ≤ 4000 := by omega
  have hp0' : ((pl bs : Int) == 0) = false := by rw [beq_eq_false_iff_ne]; omega
  have hfe : (J.ps k).sz = sz bs ∧ (J.ps k).bs.length = pl bs ∧ (J.ps k).sm = sm bs := by
    unfold fits beg at hft
    rw [if_neg hp0] at hft
    exact of_decide_eq_true hft
  obtain ⟨g, hg⟩ : ∃ g, J.gs k = some g := by
    cases e : J.gs k with
    | some g => exact ⟨g, rfl⟩
    | none =>
      have := Hh.out.no k e
      rw [this] at hfe
      exact absurd hfe.2.1 (by show ¬ 0 = pl bs; omega)
  obtain ⟨⟨⟨L, hL1, hL2, hL3, hL4⟩, hL5⟩, hL6⟩ := Hok.out.yes k g hg
  have hpe : J.put k ⟨sz bs, sm bs, (J.ps k).bs⟩ (some g) = J := by
    rw [← hfe.1, ← hfe.2.2, ← hg]
    exact put_self J k
  obtain ⟨qb, hqb⟩ : ∃ qb, (J.ps k).bs = qb := ⟨_, rfl⟩
  have hgw : g < w.heap.size := (Hh.out.yes k g hg).1.lt
  have HA : Hid (At w W2 B J k bs qb L g A m d kd) := (show At w W2 B J k bs qb L g A m d kd from ⟨⟨by rw [← hqb, hpe]; exact Hok.out.row, by rw [← hqb]; exact hfe.2.1, hL1, by rw [hL2]; exact hfe.1, by rw [← hqb, ← hfe.2.1]; exact hL3, hL4, by rw [joined_more hp0, hqb], Kept.ofBelow hb2 _, .inl (.inr (.inr ⟨k, hg⟩)), hL5, fun t g' ht hg' e => ht (Hh.out.ap t k g (e ▸ hg') hg), (Hh.out.gb hg).1, (Hh.out.gb hg).2, Hh.out.jp⟩, hblk, Hrd.out, hb2.block _ (lt_heap Hh.out.jb), fun t g' ht hg' => hb2.block _ (Hh.out.yes t g' hg').1.lt, hge, by omega, by have := Hh.out.row.lt; omega, hk, Hh.out⟩)
  have HQ : Hid (decide ((sz bs : Int) = (sz bs : Int) ∧ (pl bs : Int) = (pl bs : Int) ∧ (sm bs : Int) = (sm bs : Int)) = true) := (show _ = _ from by simp)
  obtain ⟨A2, hA2⟩ : ∃ A2, (if sz bs = pl bs then some (⟨g, 0, none⟩ : Addr) else some ⟨g, pl bs, none⟩) = A2 := ⟨_, rfl⟩
  have HA2p : Hid (0 < m → A2 = some ⟨g, pl bs, none⟩) := fun hm => by rw [← hA2, if_neg (by omega)]
  have hple : (pl bs : Int) ≤ (sz bs : Int) := by omega
  clear hblk hrd hb1 hb12 c0 hb2 hp0 hfe hpe hqb hL1 hL2 hL3 hL4 hL5 hL6 hg Hrd Hok
  obtain ⟨V, hV⟩ : ∃ V, W2 = V := ⟨_, rfl⟩
  subst hV
  obtain ⟨r0, r1, r2, r3⟩ := HA.out.r
  clear r3 hm0
  go_wp2_with fail
  clear hW2
  refine wp_region_held_drew (S := (fun w' => w'.cell? ⟨kd, 0, none⟩ = some (.int .i64 (sz bs : Int)) ∧ w'.cell? ⟨kd, 1, none⟩ = some (.int .i64 (pl bs : Int)) ∧ w'.cell? ⟨kd, 2, none⟩ = some (.int .i64 (sm bs : Int)) ∧ w'.cell? ⟨J.bp, k * 4, none⟩ = some (.int .i64 (sz bs : Int)) ∧ w'.cell? ⟨J.bp, k * 4 + 1, none⟩ = some (.int .i64 (pl bs : Int)) ∧ w'.cell? ⟨J.bp, k * 4 + 2, none⟩ = some (.int .i64 (sm bs : Int)))) (by kernel_rfl) ⟨below_at (Below.refl _ _).drew x0, below_at (Below.refl _ _).drew x1, below_at (Below.refl _ _).drew x2, below_at (Below.refl _ _).drew r0, below_at (Below.refl _ _).drew r1, below_at (Below.refl _ _).drew r2⟩ (fun hHeld => ?_)
  simp only [Act.put, List.size_toArray, List.length_cons, List.length_nil, Nat.zero_add]
  refine wpAnyH_take (i := 0) (v := .agg #[.int .i64 (sz bs : Int), .int .i64 (pl bs : Int), .int .i64 (sm bs : Int)]) rfl (by kernel_rfl) (by kernel_rfl) (by kernel_rfl) (fun _ _ _ h => h) (Or.inl ⟨by rfl, fun w' hS => by (obtain ⟨s0, s1, s2, s3, s4, s5⟩ := hS; go_simp)⟩) hHeld ?_
  simp only [Act.put, List.getElem_toArray, List.getElem_cons_zero, List.getElem_cons_succ, List.setIfInBounds_toArray, List.set_cons_zero, List.set_cons_succ]
  refine wpAnyH_take (i := 1) (v := .pointer (some ⟨J.bp, k * 4, none⟩)) rfl (by kernel_rfl) (by kernel_rfl) (by kernel_rfl) (fun _ _ _ h => h) (Or.inl ⟨by rfl, fun w' hS => by go_simp⟩) hHeld ?_
  simp only [Act.put, List.getElem_toArray, List.getElem_cons_zero, List.getElem_cons_succ, List.setIfInBounds_toArray, List.set_cons_zero, List.set_cons_succ]
  refine wpAnyH_take (i := 2) (v := .pointer (some ⟨J.bp, k * 4, none⟩)) rfl (by kernel_rfl) (by kernel_rfl) (by kernel_rfl) (fun _ _ _ h => h) (Or.inl ⟨by rfl, fun w' hS => by go_simp⟩) hHeld ?_
  simp only [Act.put, List.getElem_toArray, List.getElem_cons_zero, List.getElem_cons_succ, List.setIfInBounds_toArray, List.set_cons_zero, List.set_cons_succ]
  refine wpAnyH_take (i := 3) (v := .pointer (some ⟨J.bp, k * 4, none⟩)) rfl (by kernel_rfl) (by kernel_rfl) (by kernel_rfl) (fun _ _ _ h => h) (Or.inl ⟨by rfl, fun w' hS => by go_simp⟩) hHeld ?_
  simp only [Act.put, List.getElem_toArray, List.getElem_cons_zero, List.getElem_cons_succ, List.setIfInBounds_toArray, List.set_cons_zero, List.set_cons_succ]
  refine wpAnyH_take (i := 4) (v := .agg #[.int .i64 (sz bs : Int), .int .i64 (pl bs : Int), .int .i64 (sm bs : Int)]) rfl (by kernel_rfl) (by kernel_rfl) (by kernel_rfl) (fun _ _ _ h => h) (Or.inl ⟨by rfl, fun w' hS => by (obtain ⟨s0, s1, s2, s3, s4, s5⟩ := hS; go_simp)⟩) hHeld ?_
  simp only [Act.put, List.getElem_toArray, List.getElem_cons_zero, List.getElem_cons_succ, List.setIfInBounds_toArray, List.set_cons_zero, List.set_cons_succ]
  refine wpAnyH_take (i := 5) (v := .bool (!(true))) rfl (by kernel_rfl) (by kernel_rfl) (by kernel_rfl) (fun _ _ _ h => h) (Or.inl ⟨by rfl, fun w' hS => run_neqop 59 (.tmp 42) (.tmp 46) 59 rfl _ _ (by rfl) (by rfl) (by kernel_rfl) _ ((by rw [eq_head]; simp))⟩) hHeld ?_
  simp only [Act.put, List.getElem_toArray, List.getElem_cons_zero, List.getElem_cons_succ, List.setIfInBounds_toArray, List.set_cons_zero, List.set_cons_succ]
  refine wpAnyH_done (by kernel_rfl) ?_ _
  clear hHeld
  have hd1 : Below W2.heap.size W2 W2.drew := (Below.refl _ _).drew
  have HA1 : Hid (At w W2.drew B J k bs qb L g A m d kd) := HA.out.still hd1
  clear hd1 HA x0 x1 x2 r0 r1 r2
  generalize W2.drew = V1 at *
  obtain ⟨x0, x1, x2⟩ := HA1.out.x
  obtain ⟨r0, r1, r2, r3⟩ := HA1.out.r
  go_wp2_with fail
  refine wp_region_held_drew (S := (fun w' => w'.cell? ⟨J.bp, k * 4 + 3, none⟩ = some (.slice (some ⟨g, 0, none⟩) (sz bs) (sz bs)) ∧ w'.cell? ⟨kd, 1, none⟩ = some (.int .i64 (pl bs : Int)))) (by kernel_rfl) ⟨below_at (Below.refl _ _).drew r3, below_at (Below.refl _ _).drew x1⟩ (fun hHeld => ?_)
  simp only [Act.put, List.size_toArray, List.length_cons, List.length_nil, Nat.zero_add]
  refine wpAnyH_take (i := 0) (v := .pointer (some ⟨J.bp, k * 4, none⟩)) rfl (by kernel_rfl) (by kernel_rfl) (by kernel_rfl) (fun _ _ _ h => h) (Or.inl ⟨by rfl, fun w' hS => by go_simp⟩) hHeld ?_
  simp only [Act.put, List.getElem_toArray, List.getElem_cons_zero, List.getElem_cons_succ, List.setIfInBounds_toArray, List.set_cons_zero, List.set_cons_succ]
  refine wpAnyH_take (i := 1) (v := .pointer (some ⟨J.bp, k * 4, none⟩)) rfl (by kernel_rfl) (by kernel_rfl) (by kernel_rfl) (fun _ _ _ h => h) (Or.inl ⟨by rfl, fun w' hS => by go_simp⟩) hHeld ?_
  simp only [Act.put, List.getElem_toArray, List.getElem_cons_zero, List.getElem_cons_succ, List.setIfInBounds_toArray, List.set_cons_zero, List.set_cons_succ]
  refine wpAnyH_take (i := 2) (v := .pointer (some ⟨J.bp, k * 4, none⟩)) rfl (by kernel_rfl) (by kernel_rfl) (by kernel_rfl) (fun _ _ _ h => h) (Or.inl ⟨by rfl, fun w' hS => by go_simp⟩) hHeld ?_
  simp only [Act.put, List.getElem_toArray, List.getElem_cons_zero, List.getElem_cons_succ, List.setIfInBounds_toArray, List.set_cons_zero, List.set_cons_succ]
  refine wpAnyH_take (i := 3) (v := .pointer (some ⟨J.bp, k * 4 + 1, none⟩)) rfl (by kernel_rfl) (by kernel_rfl) (by kernel_rfl) (fun _ _ _ h => h) (Or.inl ⟨by rfl, fun w' hS => by go_simp⟩) hHeld ?_
  simp only [Act.put, List.getElem_toArray, List.getElem_cons_zero, List.getElem_cons_succ, List.setIfInBounds_toArray, List.set_cons_zero, List.set_cons_succ]
  refine wpAnyH_take (i := 5) (v := .pointer (some ⟨J.bp, k * 4, none⟩)) rfl (by kernel_rfl) (by kernel_rfl) (by kernel_rfl) (fun _ _ _ h => h) (Or.inl ⟨by rfl, fun w' hS => by go_simp⟩) hHeld ?_
  simp only [Act.put, List.getElem_toArray, List.getElem_cons_zero, List.getElem_cons_succ, List.setIfInBounds_toArray, List.set_cons_zero, List.set_cons_succ]
  refine wpAnyH_take (i := 6) (v := .pointer (some ⟨J.bp, k * 4, none⟩)) rfl (by kernel_rfl) (by kernel_rfl) (by kernel_rfl) (fun _ _ _ h => h) (Or.inl ⟨by rfl, fun w' hS => by go_simp⟩) hHeld ?_
  simp only [Act.put, List.getElem_toArray, List.getElem_cons_zero, List.getElem_cons_succ, List.setIfInBounds_toArray, List.set_cons_zero, List.set_cons_succ]
  refine wpAnyH_take (i := 7) (v := .pointer (some ⟨J.bp, k * 4 + 3, none⟩)) rfl (by kernel_rfl) (by kernel_rfl) (by kernel_rfl) (fun _ _ _ h => h) (Or.inl ⟨by rfl, fun w' hS => by go_simp⟩) hHeld ?_
  simp only [Act.put, List.getElem_toArray, List.getElem_cons_zero, List.getElem_cons_succ, List.setIfInBounds_toArray, List.set_cons_zero, List.set_cons_succ]
  refine wpAnyH_take (i := 8) (v := .slice (some ⟨g, 0, none⟩) (sz bs) (sz bs)) rfl (by kernel_rfl) (by kernel_rfl) (by kernel_rfl) (fun _ _ _ h => h) (Or.inl ⟨by rfl, fun w' hS => by (obtain ⟨s0, s1⟩ := hS; go_simp)⟩) hHeld ?_
  simp only [Act.put, List.getElem_toArray, List.getElem_cons_zero, List.getElem_cons_succ, List.setIfInBounds_toArray, List.set_cons_zero, List.set_cons_succ]
  refine wpAnyH_take (i := 9) (v := .pointer (some ⟨kd, 1, none⟩)) rfl (by kernel_rfl) (by kernel_rfl) (by kernel_rfl) (fun _ _ _ h => h) (Or.inl ⟨by rfl, fun w' hS => by go_simp⟩) hHeld ?_
  simp only [Act.put, List.getElem_toArray, List.getElem_cons_zero, List.getElem_cons_succ, List.setIfInBounds_toArray, List.set_cons_zero, List.set_cons_succ]
  refine wpAnyH_take (i := 10) (v := .int .i64 (pl bs : Int)) rfl (by kernel_rfl) (by kernel_rfl) (by kernel_rfl) (fun _ _ _ h => h) (Or.inl ⟨by rfl, fun w' hS => by (obtain ⟨s0, s1⟩ := hS; go_simp)⟩) hHeld ?_
  simp only [Act.put, List.getElem_toArray, List.getElem_cons_zero, List.getElem_cons_succ, List.setIfInBounds_toArray, List.set_cons_zero, List.set_cons_succ]
  refine wpAnyH_take (i := 11) (v := .slice A2 (sz bs - pl bs) (sz bs - pl bs)) rfl (by kernel_rfl) (by kernel_rfl) (by kernel_rfl) (fun _ _ _ h => h) (Or.inl ⟨by rfl, fun w' hS => by go_simp⟩) hHeld ?_
  simp only [Act.put, List.getElem_toArray, List.getElem_cons_zero, List.getElem_cons_succ, List.setIfInBounds_toArray, List.set_cons_zero, List.set_cons_succ]
  refine wpAnyH_take (i := 12) (v := .slice A m d) rfl (by kernel_rfl) (by kernel_rfl) (by kernel_rfl) (fun _ _ _ h => h) (Or.inl ⟨by rfl, fun w' hS => by go_simp⟩) hHeld ?_
  simp only [Act.put, List.getElem_toArray, List.getElem_cons_zero, List.getElem_cons_succ, List.setIfInBounds_toArray, List.set_cons_zero, List.set_cons_succ]
  have hd1 : Below V1.heap.size V1 V1.drew := (Below.refl _ _).drew
  have HA2 : Hid (At w V1.drew B J k bs qb L g A m d kd) := HA1.out.still hd1
  clear hd1 HA1 x0 x1 x2 r0 r1 r2 r3
  generalize V1.drew = D at *
  obtain ⟨x0, x1, x2⟩ := HA2.out.x
  obtain ⟨r0, r1, r2, r3⟩ := HA2.out.r
  refine wpAnyH_ready (rs := [4, 13]) (by kernel_rfl) (by simp) ?_
  refine AllReadyH.cons rfl (fun K hK => ?la) (AllReadyH.cons rfl (fun K hK => ?lb) AllReadyH.nil)
  case' la =>
    go_simp
    refine hK.out _ _ ⟨r3, x1⟩ (fun hHeld => ?_)
    clear hK K
    refine wpAnyH_ready (rs := [13]) (by kernel_rfl) (by simp) ?_
    refine AllReadyH.cons rfl (fun K hK => ?_) AllReadyH.nil
    refine step_copy rfl (.tmp 59) (.tmp 60) rfl A2 A (sz bs - pl bs) (sz bs - pl bs) m d rfl rfl HA2.out.mid.bk HA2.out.rd hmle HA2p.out (by rw [HA2.out.mid.ll]; exact hfit) (fun D3 hb3 hk3 => ?_)
    have HX0 : Hid (Af w (D3.setCell ⟨J.bp, k * 4 + 1, none⟩ (.int .i64 ((pl bs : Int) + (m : Int)))) B J k bs (spl L (pl bs) (bs.drop 8)) g kd) := HA2.out.copied hform hby hft hb3 hk3
    have y1 : D3.cell? ⟨J.bp, k * 4 + 1, none⟩ = some (.int .i64 (pl bs : Int)) := kept_cell hk3 (fun e => HA2.out.mid.gp e.symm) r1
    have y3 : D3.cell? ⟨J.bp, k * 4 + 3, none⟩ = some (.slice (some ⟨g, 0, none⟩) (sz bs) (sz bs)) := kept_cell hk3 (fun e => HA2.out.mid.gp e.symm) r3
    have z1 : D3.cell? ⟨kd, 1, none⟩ = some (.int .i64 (pl bs : Int)) := kept_cell hk3 HA2.out.kg x1
    have yf : D3.frozen? ⟨J.bp, k * 4 + 1, none⟩ = false := (HA2.out.mid.row.keep hk3 (fun e => HA2.out.mid.gp e.symm)).fz _
    refine hK.out _ _ ⟨y3, z1⟩ (fun hHeld => ?_)
    clear hK K
    refine wpAnyH_take (i := 14) (v := .int .i64 ((pl bs : Int) + (m : Int))) rfl (by kernel_rfl) (by kernel_rfl) (by kernel_rfl) (fun _ _ _ h => h) (Or.inl ⟨by rfl, fun w' hS => by (go_simp; exact wrap_id (by omega) (by omega))⟩) hHeld ?_
    simp only [Act.put, List.getElem_toArray, List.getElem_cons_zero, List.getElem_cons_succ, List.setIfInBounds_toArray, List.set_cons_zero, List.set_cons_succ]
    refine wpAnyH_take (i := 15) (v := .pointer (some ⟨J.bp, k * 4, none⟩)) rfl (by kernel_rfl) (by kernel_rfl) (by kernel_rfl) (fun _ _ _ h => h) (Or.inl ⟨by rfl, fun w' hS => by go_simp⟩) hHeld ?_
    simp only [Act.put, List.getElem_toArray, List.getElem_cons_zero, List.getElem_cons_succ, List.setIfInBounds_toArray, List.set_cons_zero, List.set_cons_succ]
    refine wpAnyH_take (i := 16) (v := .pointer (some ⟨J.bp, k * 4, none⟩)) rfl (by kernel_rfl) (by kernel_rfl) (by kernel_rfl) (fun _ _ _ h => h) (Or.inl ⟨by rfl, fun w' hS => by go_simp⟩) hHeld ?_
    simp only [Act.put, List.getElem_toArray, List.getElem_cons_zero, List.getElem_cons_succ, List.setIfInBounds_toArray, List.set_cons_zero, List.set_cons_succ]
    refine wpAnyH_take (i := 17) (v := .pointer (some ⟨J.bp, k * 4 + 1, none⟩)) rfl (by kernel_rfl) (by kernel_rfl) (by kernel_rfl) (fun _ _ _ h => h) (Or.inl ⟨by rfl, fun w' hS => by go_simp⟩) hHeld ?_
    simp only [Act.put, List.getElem_toArray, List.getElem_cons_zero, List.getElem_cons_succ, List.setIfInBounds_toArray, List.set_cons_zero, List.set_cons_succ]
    obtain ⟨X, hX⟩ : ∃ X, D3.setCell ⟨J.bp, k * 4 + 1, none⟩ (.int .i64 ((pl bs : Int) + (m : Int))) = X := ⟨_, rfl⟩
    have HX : Hid (Af w X B J k bs (spl L (pl bs) (bs.drop 8)) g kd) := (show Af w X B J k bs (spl L (pl bs) (bs.drop 8)) g kd from by rw [← hX]; exact HX0.out)
    have u1 : X.cell? ⟨kd, 1, none⟩ = some (.int .i64 (pl bs : Int)) := blk_cell HX.out.hx 1
    have u3 : X.cell? ⟨J.bp, k * 4 + 3, none⟩ = some (.slice (some ⟨g, 0, none⟩) (sz bs) (sz bs)) := (put_cells hk rfl HX.out.row).2.2.2
    clear HX0
    refine wpAnyH_ready (rs := [18]) (by kernel_rfl) (by simp) ?_
    refine AllReadyH.cons rfl (fun K hK => ?_) AllReadyH.nil
    go_simp
    refine hK.out _ _ ⟨u3, u1⟩ (fun hHeld => ?_)
    clear hK K
    refine wpAnyH_done (by kernel_rfl) ?_ _
    clear hHeld y1 y3 z1 yf hX hb3 hk3
  case' lb =>
    refine step_copy rfl (.tmp 59) (.tmp 60) rfl A2 A (sz bs - pl bs) (sz bs - pl bs) m d rfl rfl HA2.out.mid.bk HA2.out.rd hmle HA2p.out (by rw [HA2.out.mid.ll]; exact hfit) (fun D3 hb3 hk3 => ?_)
    have HX0 : Hid (Af w (D3.setCell ⟨J.bp, k * 4 + 1, none⟩ (.int .i64 ((pl bs : Int) + (m : Int)))) B J k bs (spl L (pl bs) (bs.drop 8)) g kd) := HA2.out.copied hform hby hft hb3 hk3
    have y1 : D3.cell? ⟨J.bp, k * 4 + 1, none⟩ = some (.int .i64 (pl bs : Int)) := kept_cell hk3 (fun e => HA2.out.mid.gp e.symm) r1
    have y3 : D3.cell? ⟨J.bp, k * 4 + 3, none⟩ = some (.slice (some ⟨g, 0, none⟩) (sz bs) (sz bs)) := kept_cell hk3 (fun e => HA2.out.mid.gp e.symm) r3
    have z1 : D3.cell? ⟨kd, 1, none⟩ = some (.int .i64 (pl bs : Int)) := kept_cell hk3 HA2.out.kg x1
    have yf : D3.frozen? ⟨J.bp, k * 4 + 1, none⟩ = false := (HA2.out.mid.row.keep hk3 (fun e => HA2.out.mid.gp e.symm)).fz _
    refine hK.out _ _ ⟨y3, z1⟩ (fun hHeld => ?_)
    clear hK K
    refine wpAnyH_ready (rs := [4]) (by kernel_rfl) (by simp) ?_
    refine AllReadyH.cons rfl (fun K hK => ?_) AllReadyH.nil
    go_simp
    refine hK.out _ _ ⟨y3, z1⟩ (fun hHeld => ?_)
    clear hK K
    refine wpAnyH_take (i := 14) (v := .int .i64 ((pl bs : Int) + (m : Int))) rfl (by kernel_rfl) (by kernel_rfl) (by kernel_rfl) (fun _ _ _ h => h) (Or.inl ⟨by rfl, fun w' hS => by (go_simp; exact wrap_id (by omega) (by omega))⟩) hHeld ?_
    simp only [Act.put, List.getElem_toArray, List.getElem_cons_zero, List.getElem_cons_succ, List.setIfInBounds_toArray, List.set_cons_zero, List.set_cons_succ]
    refine wpAnyH_take (i := 15) (v := .pointer (some ⟨J.bp, k * 4, none⟩)) rfl (by kernel_rfl) (by kernel_rfl) (by kernel_rfl) (fun _ _ _ h => h) (Or.inl ⟨by rfl, fun w' hS => by go_simp⟩) hHeld ?_
    simp only [Act.put, List.getElem_toArray, List.getElem_cons_zero, List.getElem_cons_succ, List.setIfInBounds_toArray, List.set_cons_zero, List.set_cons_succ]
    refine wpAnyH_take (i := 16) (v := .pointer (some ⟨J.bp, k * 4, none⟩)) rfl (by kernel_rfl) (by kernel_rfl) (by kernel_rfl) (fun _ _ _ h => h) (Or.inl ⟨by rfl, fun w' hS => by go_simp⟩) hHeld ?_
    simp only [Act.put, List.getElem_toArray, List.getElem_cons_zero, List.getElem_cons_succ, List.setIfInBounds_toArray, List.set_cons_zero, List.set_cons_succ]
    refine wpAnyH_take (i := 17) (v := .pointer (some ⟨J.bp, k * 4 + 1, none⟩)) rfl (by kernel_rfl) (by kernel_rfl) (by kernel_rfl) (fun _ _ _ h => h) (Or.inl ⟨by rfl, fun w' hS => by go_simp⟩) hHeld ?_
    simp only [Act.put, List.getElem_toArray, List.getElem_cons_zero, List.getElem_cons_succ, List.setIfInBounds_toArray, List.set_cons_zero, List.set_cons_succ]
    obtain ⟨X, hX⟩ : ∃ X, D3.setCell ⟨J.bp, k * 4 + 1, none⟩ (.int .i64 ((pl bs : Int) + (m : Int))) = X := ⟨_, rfl⟩
    have HX : Hid (Af w X B J k bs (spl L (pl bs) (bs.drop 8)) g kd) := (show Af w X B J k bs (spl L (pl bs) (bs.drop 8)) g kd from by rw [← hX]; exact HX0.out)
    have u1 : X.cell? ⟨kd, 1, none⟩ = some (.int .i64 (pl bs : Int)) := blk_cell HX.out.hx 1
    have u3 : X.cell? ⟨J.bp, k * 4 + 3, none⟩ = some (.slice (some ⟨g, 0, none⟩) (sz bs) (sz bs)) := (put_cells hk rfl HX.out.row).2.2.2
    clear HX0
    refine wpAnyH_ready (rs := [18]) (by kernel_rfl) (by simp) ?_
    refine AllReadyH.cons rfl (fun K hK => ?_) AllReadyH.nil
    go_simp
    refine hK.out _ _ ⟨u3, u1⟩ (fun hHeld => ?_)
    clear hK K
    refine wpAnyH_done (by kernel_rfl) ?_ _
    clear hHeld y1 y3 z1 yf hX hb3 hk3
  all_goals
    clear u1 u3 x0 x1 x2 r0 r1 r2 r3
    have Hmid : Hid (Mid w D B J k bs qb L g) := HA2.out.mid
    have HKP : Hid (kd ≠ J.bp) := HA2.out.kp
    clear HA2
    obtain ⟨v0, v1, v2, v3⟩ := put_cells hk rfl HX.out.row
    have u0 : X.cell? ⟨kd, 0, none⟩ = some (.int .i64 (sz bs : Int)) := blk_cell HX.out.hx 0
    have u2 : X.cell? ⟨kd, 2, none⟩ = some (.int .i64 (sm bs : Int)) := blk_cell HX.out.hx 2
    by_cases hw : (joined (J.ps k) bs).length < sz bs
    · have hwi : ((joined (J.ps k) bs).length : Int) < (sz bs : Int) := by omega
      have HE : Hid (take (J.ps k) bs = ⟨⟨sz bs, sm bs, joined (J.ps k) bs⟩, none, 0⟩) := (show _ = _ from by rw [take_eq ((form_iff bs).2 hform) hft, if_pos hw])
      generalize hjl : ((joined (J.ps k) bs).length : Int) = jl at *
      go_wp2_with fail
      go_quiet (fail)
      go_wp2
      refine bodyPost_ret (v := .tuple #[.slice none 0 0, .bool false, .int .i64 0]) (by simp [results, Tryd.results10, go_sem]) rfl ?_
      have HX2 := HX.out.still Hh.out (below_drewN (Below.refl _ _) nq)
      rw [HE.out]
      exact Hmid.out.fin_more Hh.out hk hform hby hft hw HX2.kp HX2.row HX2.bk HX2.ll HX2.lt HX2.lb HX2.jb HX2.oth
    · have hwi : ¬ ((joined (J.ps k) bs).length : Int) < (sz bs : Int) := by omega
      have hjs : (joined (J.ps k) bs).length = sz bs := by have := joined_len hform hft; have := hform.lt; omega
      have HLJ : Hid (spl L (pl bs) (bs.drop 8) = joined (J.ps k) bs) := (show _ = _ from by have := HX.out.lt; rw [List.take_of_length_le (by rw [HX.out.ll]; omega)] at this; exact this)
      clear Hb2
      generalize hjl : ((joined (J.ps k) bs).length : Int) = jl at *
      go_wp2_with fail
      go_quiet (fail)
      have HX2 : Hid (Af w (X.drewN nq) B J k bs (spl L (pl bs) (bs.drop 8)) g kd) := HX.out.still Hh.out (below_drewN (Below.refl _ _) nq)
      clear HX v0 v1 v2 v3 u0 u2
      generalize X.drewN nq = X2 at *
      have HZ := HX2.out.zero Hh.out Hmid.out.gp HKP.out
      obtain ⟨v0, v1, v2, v3⟩ := put_cells hk rfl HX2.out.row
      rw [hjl] at v1
      have f0 := HX2.out.row.fz (k * 4)
      have f1 := HX2.out.row.fz (k * 4 + 1)
      have f2 := HX2.out.row.fz (k * 4 + 2)
      have f3 := HX2.out.row.fz (k * 4 + 3)
      obtain ⟨Y, hY⟩ : ∃ Y, (((X2.setCell ⟨J.bp, k * 4, none⟩ (.int .i64 0)).setCell ⟨J.bp, k * 4 + 1, none⟩ (.int .i64 0)).setCell ⟨J.bp, k * 4 + 2, none⟩ (.int .i64 0)).setCell ⟨J.bp, k * 4 + 3, none⟩ (.slice none 0 0) = Y := ⟨_, rfl⟩
      rw [show X2.setCells J.bp (k * 4) (pcs p0 none) = Y from hY] at HZ
      obtain ⟨Z1, Z2, Z3, Z4, Z5, Z6⟩ := HZ
      rw [HLJ.out] at Z2
      have y0 : Y.cell? ⟨kd, 0, none⟩ = some (.int .i64 (sz bs : Int)) := blk_cell Z4 0
      have y2 : Y.cell? ⟨kd, 2, none⟩ = some (.int .i64 (sm bs : Int)) := blk_cell Z4 2
      have hTY : Tab Y := hT.keep Z3 (fun h0 => by have := Hh.out.own_lo 0 h0; omega)
      have HSum : Hid (∀ Y', Below Y.heap.size Y Y' → Calls Tryd.prog 13 #[.slice (some ⟨g, 0, none⟩) (sz bs) (sz bs)] Y' fun e w2 => e = .returned (.int .i64 ((crc (joined (J.ps k) bs) : Nat) : Int)) ∧ w2 = Y') := fun Y' hb' => (sum_any (by have := (Z2.all (sz bs) (by omega) (joined_by (Hh.out.ok k) hby)).still hb'; rw [hjs] at this; exact this) (by omega) (hTY.still hb')).mono fun e w2 hh => ⟨hh.1, hh.2.symm⟩
      have HZ1 : Hid (Fb Y J.bp 64 (J.n * 4) (J.put k p0 none).f) := Z1
      have HZ2 : Hid (Bk Y g (joined (J.ps k) bs)) := Z2
      have HZ3 : Hid (Kept w Y J.own) := Z3
      have HZ5 : Hid (Y.heap[J.b]? = w.heap[J.b]?) := Z5
      have HZ6 : Hid (∀ t g', t ≠ k → J.gs t = some g' → Y.heap[g']? = w.heap[g']?) := Z6
      have HFD : Hid (∀ nq, TkOut w (Y.drewN nq) B J k ⟨p0, some (joined (J.ps k) bs), 0⟩ (.returned (.tuple #[.slice (some ⟨g, 0, none⟩) (sz bs) (sz bs), .bool true, .int .i64 0])) ∧ TkOut w (Y.drewN nq) B J k ⟨p0, none, 91⟩ (.returned (.tuple #[.slice none 0 0, .bool false, .int .i64 91]))) := fun nq => by
        have hb' : Below Y.heap.size Y (Y.drewN nq) := below_drewN (Below.refl _ _) nq
        have := Hmid.out.fin_done Hh.out hk hby (X := Y.drewN nq) (HZ3.out.step (Kept.ofBelow hb' (fun _ => False)) (fun _ hf => hf.elim)) (HZ1.out.keep (Kept.ofBelow hb' (fun _ => False)) id) (HZ2.out.still hb') ((hb'.block _ (Nat.lt_of_lt_of_le (lt_heap Hh.out.jb) HZ3.out.size)).trans HZ5.out) (fun t g' ht hg => (hb'.block _ (Nat.lt_of_lt_of_le (Hh.out.yes t g' hg).1.lt HZ3.out.size)).trans (HZ6.out t g' ht hg))
        rw [hjs] at this
        exact this
      clear Z1 Z2 Z3 Z4 Z5 Z6 hTY
      go_wp2_with fail
      clear hY v0 v1 v2 v3 f0 f1 f2 f3
      by_cases hcr : crc (joined (J.ps k) bs) = sm bs
      · have hcb : (((crc (joined (J.ps k) bs) : Nat) : Int) != (sm bs : Int)) = false := by rw [hcr]; simp
        have HE : Hid (take (J.ps k) bs = ⟨p0, some (joined (J.ps k) bs), 0⟩) := (show _ = _ from by rw [take_eq ((form_iff bs).2 hform) hft, if_neg hw, if_pos hcr])
        clear hcr
        generalize ((crc (joined (J.ps k) bs) : Nat) : Int) = cr at *
        go_quiet ((go_at_call 13; exact Calls.quiet_of_same (HSum.out _ (by repeat (first | exact Below.refl _ _ | apply below_drewN | apply Below.drew)))))
        go_wp2
        rw [HE.out]
        exact bodyPost_ret (v := .tuple #[.slice (some ⟨g, 0, none⟩) (sz bs) (sz bs), .bool true, .int .i64 0]) (by simp [results, Tryd.results10, go_sem]) rfl (HFD.out _).1
      · have hcb : (((crc (joined (J.ps k) bs) : Nat) : Int) != (sm bs : Int)) = true := by rw [bne_iff_ne]; omega
        have HE : Hid (take (J.ps k) bs = ⟨p0, none, 91⟩) := (show _ = _ from by rw [take_eq ((form_iff bs).2 hform) hft, if_neg hw, if_neg hcr])
        clear hcr
        generalize ((crc (joined (J.ps k) bs) : Nat) : Int) = cr at *
        go_quiet ((go_at_call 13; exact Calls.quiet_of_same (HSum.out _ (by repeat (first | exact Below.refl _ _ | apply below_drewN | apply Below.drew)))))
        go_wp2
        rw [HE.out]
        exact bodyPost_ret (v := .tuple #[.slice none 0 0, .bool false, .int .i64 91]) (by simp [results, Tryd.results10, go_sem]) rfl (HFD.out _).2
end
end Go.Proofs.YtmphabgpabbbjaaDoor.Fg
