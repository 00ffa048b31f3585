import Derived.Test.YtcieinejjkddfabPq2
namespace Go.Proofs.Ytcieinejjkddfab.Qm
open Go.RowKit Mb
set_option linter.unusedVariables false
set_option maxRecDepth 100000
set_option linter.unusedSimpArgs false
section
variable {w w' : World} {B : Nat} {A : Wa} {R R' : Rq} {v : Vw} {s : Nat}
set_option maxHeartbeats 4000000 in
theorem new_no {ao : Option Addr} {n c : Nat} {xs : List Int} (hr : RdI w ao n c xs) (hok : okI xs = false) : Calls Try.prog 43 #[.slice ao n c] w fun e w' => e = .returned (.tuple #[.pointer none, .int .i64 110]) ∧ Below w.heap.size w w' := by
  have HC := counted_any hr
  rw [hok] at HC
  have HC2 : Hid (Calls Try.prog 31 #[.slice ao n c] w fun e w' => ∃ r : List Int, e = .returned (.tuple #[.agg (ints r).toArray, .bool false]) ∧ r.length = 19 ∧ Below w.heap.size w w') := HC.mono fun e w' ⟨r, e1, e2, e3, e4⟩ => ⟨r, e1, e2, e4⟩
  clear HC hr hok
  go_enter Try.func43, Try.ntmps43
  go_wp2_with (first
    | (go_at_call 31; refine HC2.out.mono ?_; rintro e w1 ⟨r, rfl, hl, hb1⟩; obtain ⟨A1, V, hA1, HA1, hV, HV, HBV⟩ := newbal w1 r hl)
    | (refine at_store 71 (.tmp 4) (.tmp 9) rfl ?_; refine store_mid 71 (.tmp 4) (.tmp 9) (xs := r) HA1.out (by rw [hl]; exact info_bal) rfl rfl rfl rfl ?_; rw [hV]; have HBW : Hid (Below w.heap.size w V) := bstep hb1 HBV.out; clear hV HA1 hA1 hb1 HV HBV)
    | fail)
  (try simp only [Exit.inBlock, Exit.then])
  refine bodyPost_ret (results_tmp2 rfl _ _ _) rfl ?_
  exact ⟨rfl, HBW.out⟩
theorem rnew_no {ao : Option Addr} {n c : Nat} {xs : List Int} (hr : RdI w ao n c xs) (hok : okI xs = false) : Calls Try.prog 44 #[.slice ao n c] w fun e w' => e = .returned (.tuple #[.pointer none, .int .i64 110]) ∧ w = w' := by
  have HC0 := rcheck_any hr
  unfold chkE at HC0
  rw [hok] at HC0
  have HC : Hid (Calls Try.prog 30 #[.slice ao n c] w fun e w' => e = .returned (.int .i64 110) ∧ w = w') := HC0
  clear HC0 hr hok
  go_enter Try.func44, Try.ntmps44
  go_wp2_with (first
    | (go_at_call 30; refine HC.out.mono ?_; rintro e w' ⟨rfl, rfl⟩)
    | fail)
  (try simp only [Exit.inBlock, Exit.then])
  refine bodyPost_ret (results_tmp2 rfl _ _ _) rfl ?_
  exact ⟨rfl, rfl⟩
structure Pr (A : Wa) (R : Rq) (w : World) (B : Nat) : Prop where
  a : A.Ok w
  ab : B ≤ A.b
  r : R.Ok w B
  s : Sim A R
theorem Pr.still (h : Pr A R w B) (hb : Below w.heap.size w w') : Pr A R w' B := ⟨h.a.still hb, h.ab, h.r.still hb, h.s⟩
set_option maxHeartbeats 4000000 in
theorem watched1_any (h : Pr A R w B) (hBw : B ≤ w.heap.size) (hmax : R.es.length ≤ 2299999999999) (k : Int) {mo : Option Addr} {mn mc : Nat} (hr : Rd3 w mo mn mc v.ms) (hm : mn ≤ 5864062014634) (hmb : mn ≠ 0 → ∀ b off, mo = some ⟨b, off, none⟩ → b < B) : Calls Try.prog 21 #[.pointer (some ⟨A.b, 0, none⟩), .pointer (some ⟨R.b, 0, none⟩), .agg #[.int .i64 k, .int .i64 v.ep, .int .i64 v.ld, .int .i64 v.ic, .int .i64 v.cd, .slice mo mn mc]] w fun e w' => e = .returned (.bool true) ∧ ∃ (A' : Wa) (R' : Rq), A'.b = A.b ∧ R'.b = R.b ∧ Pr A' R' w' B ∧ R'.es.length ≤ R.es.length + 1 ∧ Below B w w' ∧ (∀ g, (Value.slice R'.wo R'.es.length R'.wc).ownBlock = some g → some g = (Value.slice R.wo R.es.length R.wc).ownBlock ∨ w.heap.size ≤ g) ∧ Kept w w' (fun j => j = A.b ∨ j = R.b ∨ some j = (Value.slice R.wo R.es.length R.wc).ownBlock) := by
  generalize hW : w.alloc (.cells #[.int .i64 k, .int .i64 v.ep, .int .i64 v.ld, .int .i64 v.ic, .int .i64 v.cd, .slice mo mn mc] 54) = W
  have hbW : Below w.heap.size w W := by rw [← hW]; exact balloc (Below.refl _ w)
  have hblk : W.heap[w.heap.size]? = some (.cells #[.int .i64 k, .int .i64 v.ep, .int .i64 v.ld, .int .i64 v.ic, .int .i64 v.cd, .slice mo mn mc] 54 (0, 0)) := by rw [← hW]; exact heap_alloc_new w _
  have c0 : W.cell? ⟨w.heap.size, 0, none⟩ = some (.int .i64 k) := blk_cell hblk 0
  have HQ : Hid (W.rangeAt w.heap.size 1 [.int .i64 v.ep, .int .i64 v.ld, .int .i64 v.ic, .int .i64 v.cd, .slice mo mn mc]) := fun j u hu => by
    rw [blk_cell hblk]
    match j, hu with
    | 0, hu => exact hu
    | 1, hu => exact hu
    | 2, hu => exact hu
    | 3, hu => exact hu
    | 4, hu => exact hu
    | j + 5, hu => simp at hu
  have HP : Hid (Pr A R W B) := h.still hbW
  have HR : Hid (Rd3 W mo mn mc v.ms) := hr.still hbW
  have HB : Hid (Below B w W) := hbW.mono hBw
  have HBs : Hid (B ≤ W.heap.size) := Nat.le_trans hBw hbW.size
  have HBw : Hid (Below w.heap.size w W) := hbW
  have HWz : Hid (w.heap.size ≤ W.heap.size) := hbW.size
  clear h hr hbW hblk
  by_cases h1 : k = 1
  · subst h1
    go_enter Try.func21, Try.ntmps21
    go_wp2_with (first
      | (refine at_load 52 (.tmp 12) rfl ?_; refine load_mid 52 (.tmp 12) HQ.out _ Try.underlying52 rfl info_view rfl rfl rfl ?_)
      | fail)
    refine (enters_any HP.out.a HP.out.ab HP.out.r HBs.out HP.out.s hmax HR.out hm hmb).mono ?_
    rintro e w1 ⟨rfl, A', R', hA, hAb, hR, hRb, hs, hl, hbl, hrw, hkf⟩
    have HE : Hid (∃ (A' : Wa) (R' : Rq), A'.b = A.b ∧ R'.b = R.b ∧ Pr A' R' w1 B ∧ R'.es.length ≤ R.es.length + 1 ∧ Below B w w1 ∧ (∀ g, (Value.slice R'.wo R'.es.length R'.wc).ownBlock = some g → some g = (Value.slice R.wo R.es.length R.wc).ownBlock ∨ w.heap.size ≤ g) ∧ Kept w w1 (fun j => j = A.b ∨ j = R.b ∨ some j = (Value.slice R.wo R.es.length R.wc).ownBlock)) := ⟨A', R', hAb, hRb, ⟨hA, by rw [hAb]; exact HP.out.ab, hR, hs⟩, hl, HB.out.trans hbl, fun g hg => (hrw g hg).elim .inl (fun h => .inr (Nat.le_trans HWz.out h)), (Kept.ofBelow HBw.out _).trans hkf⟩
    clear hA hAb hR hRb hs hl hbl hrw hkf
    go_wp2_with (fail)
    go_ret
    exact ⟨rfl, HE.out⟩
  · have e1 : (k == 1) = false := by simpa using h1
    go_enter Try.func21, Try.ntmps21
    go_wp2_with (fail)
    refine (asks_any HP.out.a HP.out.r HP.out.s (by omega) k).mono ?_
    rintro e w1 ⟨rfl, hb1⟩
    have HE : Hid (∃ (A' : Wa) (R' : Rq), A'.b = A.b ∧ R'.b = R.b ∧ Pr A' R' w1 B ∧ R'.es.length ≤ R.es.length + 1 ∧ Below B w w1 ∧ (∀ g, (Value.slice R'.wo R'.es.length R'.wc).ownBlock = some g → some g = (Value.slice R.wo R.es.length R.wc).ownBlock ∨ w.heap.size ≤ g) ∧ Kept w w1 (fun j => j = A.b ∨ j = R.b ∨ some j = (Value.slice R.wo R.es.length R.wc).ownBlock)) := ⟨A, R, rfl, rfl, HP.out.still hb1, by omega, HB.out.trans (hb1.mono HBs.out), fun g hg => .inl hg.symm, Kept.ofBelow (bstep HBw.out hb1) _⟩
    clear hb1
    go_wp2_with (fail)
    go_ret
    exact ⟨rfl, HE.out⟩
end
end Go.Proofs.Ytcieinejjkddfab.Qm
