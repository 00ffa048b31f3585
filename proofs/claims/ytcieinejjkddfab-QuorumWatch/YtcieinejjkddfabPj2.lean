import Derived.Deep.AppendLies
import Derived.Test.YtcieinejjkddfabPi2
namespace Go.Proofs.Ytcieinejjkddfab.Qm
open Go.RowKit Mb
set_option linter.unusedVariables false
set_option maxRecDepth 100000
set_option linter.unusedSimpArgs false
section
variable {w w' : World} {B : Nat} {R : Rq}
theorem Rd3.keep {P : Nat → Prop} {ao : Option Addr} {n c : Nat} {ts : List St} (h : Rd3 w ao n c ts) (k : Kept w w' P) (hp : ∀ b off, ao = some ⟨b, off, none⟩ → ¬ P b) : Rd3 w' ao n c ts :=
  ⟨h.len, h.cap, h.nil, h.at_.elim (fun hh => .inl hh) (fun ⟨b, off, e, hc⟩ => .inr ⟨b, off, e, fun i hi => Kept.range k (hc i hi) (hp b off e)⟩)⟩
theorem cs_one (e : Ve) : ∀ u ∈ e.cs, u.oneCell' = true := by
  intro u hu
  simp only [Ve.cs, List.mem_cons, List.not_mem_nil, or_false] at hu
  rcases hu with rfl | rfl | rfl | rfl | rfl <;> rfl
theorem wp_app_v {o : Oper} {a : Act} {K : Act → World → Prop} {Q : Exit → Act → World → Prop} (s x : Operand)
    (ho : o.op = .call { callee := .builtin .append, args := #[s, x], argTypes := #[107, 107] })
    (v : Value) (n : Nat) (es : List Ve) (hs : a.eval s = v) (hown : w.ownsRow B 52 5 v n (flE es)) (hB : B ≤ w.heap.size)
    (g : Nat) (e : Ve) (hx : a.eval x = .slice (some ⟨g, 0, none⟩) 1 1) (hg : w.heap[g]? = some (.cells e.cs.toArray 52 (0, 0))) (hn : n ≤ 2300000000000)
    (h : ∀ v' w', Hid (w'.ownsRow B 52 5 v' (n + 1) (flE (es ++ [e]))) → Hid (w.grownBy w' v.ownBlock) → Hid (∀ q, v'.ownBlock = some q → v.ownBlock = some q ∨ q = w.heap.size) → K (a.put o.dst v') w') : o.wp Try.prog a w K Q := by
  obtain ⟨i0, hi, hz0, hz1, hz2⟩ := vw_info
  refine wp_append_lies w s x 107 ho B 52 i0 (.agg #[.int .i64 0, .int .i64 0, .int .i64 0, .int .i64 0, .slice none 0 0]) 5 56 Try.underlying107 hi hz0 hz1 hz2 (by rfl) (by decide) v n (flE es) hs hown ⟨g, 0, none⟩ 1 1 e.cs hx rfl (fun j u hu => by rw [Addr.add_lit, Nat.zero_add, blk_cell hg, List.getElem?_toArray]; exact hu) (cs_one e) (by decide) (by unfold maxLen; omega) (by omega) hB w.heap.size rfl ?_
  intro q cap w' h2 h3 h4 _
  refine h _ w' (by show World.ownsRow _ _ _ _ _ _ _; simpa [flE] using h2) h3 (fun q' hq => ?_)
  simp only [Value.ownBlock, Option.some.injEq] at hq
  subst hq
  exact h4
theorem app_ml {ops : Array Oper} {rest : List Oper} {o : Oper} {a : Act} {Q : Exit → Act → World → Prop} (hgd : o.guard = none) (s x : Operand)
    (ho : o.op = .call { callee := .builtin .append, args := #[s, x], argTypes := #[50, 50] })
    (hs : a.eval s = .slice none 0 0) (hB : B ≤ w.heap.size)
    (ad : Addr) (k c : Nat) (ys : List St) (hx : a.eval x = .slice (some ad) k c) (hr : Rd3 w (some ad) k c ys) (hn : k ≤ 5864062014805)
    (h : ∀ v' w', Hid (w'.ownsRow B 115 3 v' k (ints (fl3 ys))) → Hid (Below w.heap.size w w') → wpList Try.prog ops Q rest (a.put o.dst v') w') : wpList Try.prog ops Q (o :: rest) a w := by
  obtain ⟨i0, hi, hz0, hz1, hz2⟩ := mb_info
  have hk := hr.len
  refine wpList_append_own w hgd s x 50 ho B 115 i0 (.agg #[.int .i64 0, .int .i64 0, .int .i64 0]) 3 24 Try.underlying50 hi hz0 hz1 hz2 (by rfl) (by decide) (.slice none 0 0) 0 (ints (fl3 [])) hs ⟨rfl, .inl ⟨rfl, rfl⟩⟩ ad k c (ints (fl3 ys)) hx (by rw [ints_len, fl3_len]; omega) (rd3_cells hr ad rfl) (ints_one _) (by unfold maxLen; omega) (by omega) hB ?_
  intro v' w' h2 h3 _
  rw [Nat.zero_add] at h2
  exact h v' w' (by show World.ownsRow _ _ _ _ _ _ _; simpa [ints, fl3] using h2) ((Below.refl _ w).grown h3 (Nat.le_refl _) (fun q hq => by cases hq))
set_option maxHeartbeats 4000000 in
theorem renter_yes (h : R.Ok w B) (hBw : B ≤ w.heap.size) {v : Vw} {ad : Addr} {mn mc s : Nat} (hr : Rd3 w (some ad) mn mc v.ms) (hm : mn ≤ 5864062014634) (hmax : R.es.length ≤ 2300000000000) (hvp : viewP R.v.length v = some s) (hold : oldE R v.ep = false) (hnb : ∀ b off, some ad = some ⟨b, off, none⟩ → b ≠ R.b ∧ ¬ some b = (Value.slice R.wo R.es.length R.wc).ownBlock) : Calls Try.prog 69 #[.pointer (some ⟨R.b, 0, none⟩), .agg #[.int .i64 v.ep, .int .i64 v.ld, .int .i64 v.ic, .int .i64 v.cd, .slice (some ad) mn mc]] w fun e w' => ∃ R' : Rq, e = .returned (.tuple #[.bool (wins R.v s), .int .i64 0]) ∧ R'.Ok w' B ∧ R'.b = R.b ∧ R'.v = R.v ∧ R'.es.map (·.v) = R.es.map (·.v) ++ [v] ∧ (∀ e ∈ R'.es, e ∈ R.es ∨ ∀ g, (Value.slice e.mo e.mn e.mc).ownBlock = some g → w.heap.size ≤ g) ∧ (∀ g, (Value.slice R'.wo R'.es.length R'.wc).ownBlock = some g → some g = (Value.slice R.wo R.es.length R.wc).ownBlock ∨ w.heap.size ≤ g) ∧ Kept w w' (fun j => j = R.b ∨ some j = (Value.slice R.wo R.es.length R.wc).ownBlock) := by
  obtain ⟨mo, hmo⟩ : ∃ mo, mo = some ad := ⟨_, rfl⟩
  rw [← hmo] at hr ⊢
  generalize hW : w.alloc (.cells #[.int .i64 v.ep, .int .i64 v.ld, .int .i64 v.ic, .int .i64 v.cd, .slice mo mn mc] 52) = W
  have hbW : Below w.heap.size w W := by rw [← hW]; exact balloc (Below.refl _ w)
  have hblk : W.heap[w.heap.size]? = some (.cells #[.int .i64 v.ep, .int .i64 v.ld, .int .i64 v.ic, .int .i64 v.cd, .slice mo mn mc] 52 (0, 0)) := by rw [← hW]; exact heap_alloc_new w _
  have HQr : Hid (W.rangeAt w.heap.size 0 [.int .i64 v.ep, .int .i64 v.ld, .int .i64 v.ic, .int .i64 v.cd, .slice mo mn mc]) := fun j u hu => by
    rw [blk_cell hblk, Nat.zero_add, ← hu]
    simp
  have h16 := h.ok.1
  have hs16 : s < 65536 := by
    have h2 := two_pow_le R.v.length h16
    have h3 := memP_lt R.v.length h16 v.ms 0 s (Nat.two_pow_pos _) (viewP_memP hvp)
    omega
  have HOk : Hid (R.Ok W B) := h.still hbW
  have c0 := HOk.out.c0
  have c1 := HOk.out.c1
  have HBW : Hid (Below w.heap.size w W) := hbW
  have HVd : Hid (∀ V, Below W.heap.size W V → Calls Try.prog 90 #[.agg #[.int .i64 v.ep, .int .i64 v.ld, .int .i64 v.ic, .int .i64 v.cd, .slice mo mn mc], .int .i64 (R.v.length : Int)] V fun e w' => e = .returned (.bool true) ∧ Below V.heap.size V w') := fun V hV => by
    have := rvalid_any ((hr.still hbW).still hV) (by omega) R.v.length h16
    rw [hvp] at this
    exact this
  have HX : Hid (∀ V, Below W.heap.size W V → V.cell? ⟨w.heap.size, 0, none⟩ = some (.int .i64 v.ep)) := fun V hV => below_at hV (blk_cell hblk 0)
  have HX4 : Hid (∀ V, Below W.heap.size W V → V.cell? ⟨w.heap.size, 4, none⟩ = some (.slice mo mn mc)) := fun V hV => below_at hV (blk_cell hblk 4)
  have HRM : Hid (Rd3 W mo mn mc v.ms) := hr.still hbW
  have HsW : Hid (B ≤ W.heap.size) := Nat.le_trans hBw hbW.size
  have HsV : Hid (w.heap.size ≤ W.heap.size) := hbW.size
  have HMo : Hid (mo = some ad) := hmo
  have HVp : Hid (viewP R.v.length v = some s) := hvp
  have HOl : Hid (oldE R v.ep = false) := hold
  by_cases h0 : R.es.length = 0
  · have c1' := c1
    rw [h0] at c1'
    have H0 : Hid (R.es.length = 0) := h0
    clear hr hblk hbW hmo hvp hold h0 c1
    go_enter Try.func69, Try.ntmps69
    go_wp2_with (fail)
    refine wp_region_held_drew (S := (fun w' => w'.rangeAt w.heap.size 0 [.int .i64 v.ep, .int .i64 v.ld, .int .i64 v.ic, .int .i64 v.cd, .slice mo mn mc] ∧ w'.cell? ⟨R.b, 0, none⟩ = some (.slice R.vo R.v.length R.vc))) (by kernel_rfl) ⟨below_range (Below.refl _ _).drew HQr.out, below_at (Below.refl _ _).drew c0⟩ (fun hHeld => ?_)
    simp only [Act.put, List.size_toArray, List.length_cons, List.length_nil, Nat.zero_add]
    refine wpAnyH_take (i := 0) (v := .agg ([.int .i64 v.ep, .int .i64 v.ld, .int .i64 v.ic, .int .i64 v.cd, .slice mo mn mc] : List Value).toArray) rfl (by kernel_rfl) (by kernel_rfl) (by kernel_rfl) (fun _ _ _ h => h) (yieldsIf_load_mid (by rfl) 52 (.tmp 3) rfl w.heap.size 0 (by rfl) [.int .i64 v.ep, .int .i64 v.ld, .int .i64 v.ic, .int .i64 v.cd, .slice mo mn mc] _ (fun w' hS => hS.1) Try.underlying52 rfl info_view) hHeld ?_
    simp only [Act.put, List.getElem_toArray, List.getElem_cons_zero, List.getElem_cons_succ, List.setIfInBounds_toArray, List.set_cons_zero, List.set_cons_succ]
    refine wpAnyH_take (i := 1) (v := .pointer (some ⟨R.b, 0, none⟩)) rfl (by kernel_rfl) (by kernel_rfl) (by kernel_rfl) (fun _ _ _ h => h) (Or.inl ⟨by rfl, fun w' hS => by go_simp⟩) hHeld ?_
    simp only [Act.put, List.getElem_toArray, List.getElem_cons_zero, List.getElem_cons_succ, List.setIfInBounds_toArray, List.set_cons_zero, List.set_cons_succ]
    refine wpAnyH_take (i := 2) (v := .pointer (some ⟨R.b, 0, none⟩)) rfl (by kernel_rfl) (by kernel_rfl) (by kernel_rfl) (fun _ _ _ h => h) (Or.inl ⟨by rfl, fun w' hS => by go_simp⟩) hHeld ?_
    simp only [Act.put, List.getElem_toArray, List.getElem_cons_zero, List.getElem_cons_succ, List.setIfInBounds_toArray, List.set_cons_zero, List.set_cons_succ]
    refine wpAnyH_take (i := 3) (v := .pointer (some ⟨R.b, 0, none⟩)) rfl (by kernel_rfl) (by kernel_rfl) (by kernel_rfl) (fun _ _ _ h => h) (Or.inl ⟨by rfl, fun w' hS => by go_simp⟩) hHeld ?_
    simp only [Act.put, List.getElem_toArray, List.getElem_cons_zero, List.getElem_cons_succ, List.setIfInBounds_toArray, List.set_cons_zero, List.set_cons_succ]
    refine wpAnyH_take (i := 4) (v := .slice R.vo R.v.length R.vc) rfl (by kernel_rfl) (by kernel_rfl) (by kernel_rfl) (fun _ _ _ h => h) (Or.inl ⟨by rfl, fun w' hS => by (obtain ⟨s0, s1⟩ := hS; go_simp)⟩) hHeld ?_
    simp only [Act.put, List.getElem_toArray, List.getElem_cons_zero, List.getElem_cons_succ, List.setIfInBounds_toArray, List.set_cons_zero, List.set_cons_succ]
    refine wpAnyH_take (i := 5) (v := .int .i64 (R.v.length : Int)) rfl (by kernel_rfl) (by kernel_rfl) (by kernel_rfl) (fun _ _ _ h => h) (Or.inl ⟨by rfl, fun w' hS => by go_simp⟩) hHeld ?_
    simp only [Act.put, List.getElem_toArray, List.getElem_cons_zero, List.getElem_cons_succ, List.setIfInBounds_toArray, List.set_cons_zero, List.set_cons_succ]
    refine wpAnyH_ready (rs := [6]) (by kernel_rfl) (by simp) ?_
    refine AllReadyH.cons rfl (fun K hK => ?_) AllReadyH.nil
    go_simp
    refine (HVd.out _ (Below.refl _ _).drew).mono ?_
    rintro e w2 ⟨rfl, hb2⟩
    refine hK.out _ _ ⟨below_range hb2 (below_range (Below.refl _ _).drew HQr.out), below_at hb2 (below_at (Below.refl _ _).drew c0)⟩ (fun hHeld => ?_)
    clear hK K
    refine wpAnyH_take (i := 7) (v := .bool false) rfl (by kernel_rfl) (by kernel_rfl) (by kernel_rfl) (fun _ _ _ h => h) (Or.inl ⟨by rfl, fun w' hS => by go_simp⟩) hHeld ?_
    simp only [Act.put, List.getElem_toArray, List.getElem_cons_zero, List.getElem_cons_succ, List.setIfInBounds_toArray, List.set_cons_zero, List.set_cons_succ]
    refine wpAnyH_done (by kernel_rfl) ?_ _
    clear hHeld
    have HB2 : Hid (Below W.heap.size W w2) := bstep (Below.refl _ _).drew hb2
    have d1 := below_at HB2.out c1'
    clear hb2
    go_wp2
    refine wp_region_held_drew (S := (fun w' => w'.cell? ⟨R.b, 1, none⟩ = some (.slice R.wo 0 R.wc))) (by kernel_rfl) (below_at (Below.refl _ _).drew d1) (fun hHeld => ?_)
    simp only [Act.put, List.size_toArray, List.length_cons, List.length_nil, Nat.zero_add]
    refine wpAnyH_take (i := 0) (v := .int .i64 0) rfl (by kernel_rfl) (by kernel_rfl) (by kernel_rfl) (fun _ _ _ h => h) (Or.inl ⟨by rfl, fun w' hS => by go_simp⟩) hHeld ?_
    simp only [Act.put, List.getElem_toArray, List.getElem_cons_zero, List.getElem_cons_succ, List.setIfInBounds_toArray, List.set_cons_zero, List.set_cons_succ]
    refine wpAnyH_take (i := 1) (v := .bool false) rfl (by kernel_rfl) (by kernel_rfl) (by kernel_rfl) (fun _ _ _ h => h) (Or.inl ⟨by rfl, fun w' hS => by go_simp⟩) hHeld ?_
    simp only [Act.put, List.getElem_toArray, List.getElem_cons_zero, List.getElem_cons_succ, List.setIfInBounds_toArray, List.set_cons_zero, List.set_cons_succ]
    refine wpAnyH_take (i := 2) (v := .bool false) rfl (by kernel_rfl) (by kernel_rfl) (by kernel_rfl) (fun _ _ _ h => h) (Or.inl ⟨by rfl, fun w' hS => by go_simp⟩) hHeld ?_
    simp only [Act.put, List.getElem_toArray, List.getElem_cons_zero, List.getElem_cons_succ, List.setIfInBounds_toArray, List.set_cons_zero, List.set_cons_succ]
    refine wpAnyH_take (i := 3) (v := undef) rfl (by kernel_rfl) (by kernel_rfl) (by kernel_rfl) (fun _ _ _ h => h) (Or.inr ⟨by rfl, rfl⟩) hHeld ?_
    simp only [Act.put, List.getElem_toArray, List.getElem_cons_zero, List.getElem_cons_succ, List.setIfInBounds_toArray, List.set_cons_zero, List.set_cons_succ]
    refine wpAnyH_take (i := 4) (v := undef) rfl (by kernel_rfl) (by kernel_rfl) (by kernel_rfl) (fun _ _ _ h => h) (Or.inr ⟨by rfl, rfl⟩) hHeld ?_
    simp only [Act.put, List.getElem_toArray, List.getElem_cons_zero, List.getElem_cons_succ, List.setIfInBounds_toArray, List.set_cons_zero, List.set_cons_succ]
    refine wpAnyH_take (i := 5) (v := undef) rfl (by kernel_rfl) (by kernel_rfl) (by kernel_rfl) (fun _ _ _ h => h) (Or.inr ⟨by rfl, rfl⟩) hHeld ?_
    simp only [Act.put, List.getElem_toArray, List.getElem_cons_zero, List.getElem_cons_succ, List.setIfInBounds_toArray, List.set_cons_zero, List.set_cons_succ]
    refine wpAnyH_take (i := 6) (v := undef) rfl (by kernel_rfl) (by kernel_rfl) (by kernel_rfl) (fun _ _ _ h => h) (Or.inr ⟨by rfl, rfl⟩) hHeld ?_
    simp only [Act.put, List.getElem_toArray, List.getElem_cons_zero, List.getElem_cons_succ, List.setIfInBounds_toArray, List.set_cons_zero, List.set_cons_succ]
    refine wpAnyH_take (i := 7) (v := undef) rfl (by kernel_rfl) (by kernel_rfl) (by kernel_rfl) (fun _ _ _ h => h) (Or.inr ⟨by rfl, rfl⟩) hHeld ?_
    simp only [Act.put, List.getElem_toArray, List.getElem_cons_zero, List.getElem_cons_succ, List.setIfInBounds_toArray, List.set_cons_zero, List.set_cons_succ]
    refine wpAnyH_take (i := 8) (v := undef) rfl (by kernel_rfl) (by kernel_rfl) (by kernel_rfl) (fun _ _ _ h => h) (Or.inr ⟨by rfl, rfl⟩) hHeld ?_
    simp only [Act.put, List.getElem_toArray, List.getElem_cons_zero, List.getElem_cons_succ, List.setIfInBounds_toArray, List.set_cons_zero, List.set_cons_succ]
    refine wpAnyH_take (i := 9) (v := undef) rfl (by kernel_rfl) (by kernel_rfl) (by kernel_rfl) (fun _ _ _ h => h) (Or.inr ⟨by rfl, rfl⟩) hHeld ?_
    simp only [Act.put, List.getElem_toArray, List.getElem_cons_zero, List.getElem_cons_succ, List.setIfInBounds_toArray, List.set_cons_zero, List.set_cons_succ]
    refine wpAnyH_take (i := 10) (v := undef) rfl (by kernel_rfl) (by kernel_rfl) (by kernel_rfl) (fun _ _ _ h => h) (Or.inr ⟨by rfl, rfl⟩) hHeld ?_
    simp only [Act.put, List.getElem_toArray, List.getElem_cons_zero, List.getElem_cons_succ, List.setIfInBounds_toArray, List.set_cons_zero, List.set_cons_succ]
    refine wpAnyH_take (i := 11) (v := undef) rfl (by kernel_rfl) (by kernel_rfl) (by kernel_rfl) (fun _ _ _ h => h) (Or.inr ⟨by rfl, rfl⟩) hHeld ?_
    simp only [Act.put, List.getElem_toArray, List.getElem_cons_zero, List.getElem_cons_succ, List.setIfInBounds_toArray, List.set_cons_zero, List.set_cons_succ]
    refine wpAnyH_take (i := 12) (v := undef) rfl (by kernel_rfl) (by kernel_rfl) (by kernel_rfl) (fun _ _ _ h => h) (Or.inr ⟨by rfl, rfl⟩) hHeld ?_
    simp only [Act.put, List.getElem_toArray, List.getElem_cons_zero, List.getElem_cons_succ, List.setIfInBounds_toArray, List.set_cons_zero, List.set_cons_succ]
    refine wpAnyH_take (i := 13) (v := undef) rfl (by kernel_rfl) (by kernel_rfl) (by kernel_rfl) (fun _ _ _ h => h) (Or.inr ⟨by rfl, rfl⟩) hHeld ?_
    simp only [Act.put, List.getElem_toArray, List.getElem_cons_zero, List.getElem_cons_succ, List.setIfInBounds_toArray, List.set_cons_zero, List.set_cons_succ]
    refine wpAnyH_take (i := 14) (v := undef) rfl (by kernel_rfl) (by kernel_rfl) (by kernel_rfl) (fun _ _ _ h => h) (Or.inr ⟨by rfl, rfl⟩) hHeld ?_
    simp only [Act.put, List.getElem_toArray, List.getElem_cons_zero, List.getElem_cons_succ, List.setIfInBounds_toArray, List.set_cons_zero, List.set_cons_succ]
    refine wpAnyH_take (i := 15) (v := undef) rfl (by kernel_rfl) (by kernel_rfl) (by kernel_rfl) (fun _ _ _ h => h) (Or.inr ⟨by rfl, rfl⟩) hHeld ?_
    simp only [Act.put, List.getElem_toArray, List.getElem_cons_zero, List.getElem_cons_succ, List.setIfInBounds_toArray, List.set_cons_zero, List.set_cons_succ]
    refine wpAnyH_take (i := 16) (v := undef) rfl (by kernel_rfl) (by kernel_rfl) (by kernel_rfl) (fun _ _ _ h => h) (Or.inr ⟨by rfl, rfl⟩) hHeld ?_
    simp only [Act.put, List.getElem_toArray, List.getElem_cons_zero, List.getElem_cons_succ, List.setIfInBounds_toArray, List.set_cons_zero, List.set_cons_succ]
    refine wpAnyH_take (i := 17) (v := .bool false) rfl (by kernel_rfl) (by kernel_rfl) (by kernel_rfl) (fun _ _ _ h => h) (Or.inl ⟨by rfl, fun w' hS => by go_simp⟩) hHeld ?_
    simp only [Act.put, List.getElem_toArray, List.getElem_cons_zero, List.getElem_cons_succ, List.setIfInBounds_toArray, List.set_cons_zero, List.set_cons_succ]
    refine wpAnyH_done (by kernel_rfl) ?_ _
    clear hHeld
    obtain ⟨D1, hD1⟩ : ∃ D1, w2.drew = D1 := ⟨_, rfl⟩
    have HBD : Hid (Below W.heap.size W D1) := by rw [← hD1]; exact bstep HB2.out (Below.refl _ _).drew
    rw [hD1]
    clear hD1 HB2 d1
    have d4 := HX4.out _ HBD.out
    rw [HMo.out] at d4
    go_wp2_with (first
      | (at_builtin; refine app_ml (B := w.heap.size) rfl _ _ rfl rfl (Nat.le_trans HsV.out HBD.out.size) ad mn mc v.ms rfl (by rw [← HMo.out]; exact HRM.out.still HBD.out) (by omega) ?_; intro v1 E1 HO1 HB1; obtain ⟨a1, c1x, rfl⟩ := own_shape HO1.out)
      | fail)
    have HBE : Hid (Below W.heap.size W E1) := bstep HBD.out HB1.out
    have HOkE : Hid (R.Ok E1 B) := HOk.out.still HBE.out
    have e1c : E1.drew.cell? ⟨R.b, 1, none⟩ = some (.slice R.wo 0 R.wc) := by
      have := HOkE.out.c1
      rw [H0.out] at this
      exact below_at (Below.refl _ _).drew this
    have HEi : Hid (E1.drew.rangeAt w.heap.size 0 (ints v.id)) := fun j u hu => by
      have hh := below_range (bstep HBE.out (Below.refl _ _).drew) HQr.out
      match j, hu with
      | 0, hu => exact hh 0 _ hu
      | 1, hu => exact hh 1 _ hu
      | 2, hu => exact hh 2 _ hu
      | 3, hu => exact hh 3 _ hu
      | j + 4, hu => simp [ints, Vw.id] at hu
    generalize hF1 : E1.drew.alloc (.cells #[.int .i64 v.ep, .int .i64 v.ld, .int .i64 v.ic, .int .i64 v.cd, .slice a1 mn c1x] 52) = F1
    have HBF : Hid (Below E1.drew.heap.size E1.drew F1) := by rw [← hF1]; exact balloc (Below.refl _ _)
    have HF1b : Hid (F1.heap[E1.heap.size]? = some (.cells #[.int .i64 v.ep, .int .i64 v.ld, .int .i64 v.ic, .int .i64 v.cd, .slice a1 mn c1x] 52 (0, 0))) := by rw [← hF1]; exact heap_alloc_new E1.drew _
    have f1c : F1.cell? ⟨R.b, 1, none⟩ = some (.slice R.wo 0 R.wc) := below_at HBF.out e1c
    have HFi : Hid (F1.rangeAt w.heap.size 0 (ints v.id)) := below_range HBF.out HEi.out
    have HBEF : Hid (Below E1.heap.size E1 F1) := bstep (Below.refl _ _).drew HBF.out
    have HRF : Hid (F1.ownsRow B 52 5 (.slice R.wo 0 R.wc) (0) (flE R.es)) := by
      have := (HOkE.out.still HBEF.out).row
      rw [H0.out] at this
      exact this
    have HBB : Hid (B ≤ F1.heap.size) := Nat.le_trans HsW.out (Nat.le_trans HBE.out.size HBEF.out.size)
    have HnR : Hid (¬ some R.b = (Value.slice R.wo 0 R.wc).ownBlock) := fun e => by
      obtain ⟨cur, hc⟩ := own_type HRF.out e.symm
      exact ty_ne (HOkE.out.still HBEF.out).blk hc (by decide) rfl
    have HnX : Hid (¬ some w.heap.size = (Value.slice R.wo 0 R.wc).ownBlock) := fun e => by
      have hrow := h.row
      rw [H0.out] at hrow
      have := (World.ownsRow.lt hrow _ e.symm).2
      omega
    go_wp2
    refine wp_region_held_drew (S := (fun w' => w'.rangeAt w.heap.size 0 (ints v.id))) (by kernel_rfl) HEi.out (fun hHeld => ?_)
    simp only [Act.put, List.size_toArray, List.length_cons, List.length_nil, Nat.zero_add]
    refine wpAnyH_take (i := 0) (v := .pointer (some ⟨R.b, 0, none⟩)) rfl (by kernel_rfl) (by kernel_rfl) (by kernel_rfl) (fun _ _ _ h => h) (Or.inl ⟨by rfl, fun w' hS => by go_simp⟩) hHeld ?_
    simp only [Act.put, List.getElem_toArray, List.getElem_cons_zero, List.getElem_cons_succ, List.setIfInBounds_toArray, List.set_cons_zero, List.set_cons_succ]
    refine wpAnyH_take (i := 1) (v := .pointer (some ⟨R.b, 0, none⟩)) rfl (by kernel_rfl) (by kernel_rfl) (by kernel_rfl) (fun _ _ _ h => h) (Or.inl ⟨by rfl, fun w' hS => by go_simp⟩) hHeld ?_
    simp only [Act.put, List.getElem_toArray, List.getElem_cons_zero, List.getElem_cons_succ, List.setIfInBounds_toArray, List.set_cons_zero, List.set_cons_succ]
    refine wpAnyH_take (i := 2) (v := .pointer (some ⟨R.b, 0, none⟩)) rfl (by kernel_rfl) (by kernel_rfl) (by kernel_rfl) (fun _ _ _ h => h) (Or.inl ⟨by rfl, fun w' hS => by go_simp⟩) hHeld ?_
    simp only [Act.put, List.getElem_toArray, List.getElem_cons_zero, List.getElem_cons_succ, List.setIfInBounds_toArray, List.set_cons_zero, List.set_cons_succ]
    refine wpAnyH_take (i := 3) (v := .pointer (some ⟨R.b, 1, none⟩)) rfl (by kernel_rfl) (by kernel_rfl) (by kernel_rfl) (fun _ _ _ h => h) (Or.inl ⟨by rfl, fun w' hS => by go_simp⟩) hHeld ?_
    simp only [Act.put, List.getElem_toArray, List.getElem_cons_zero, List.getElem_cons_succ, List.setIfInBounds_toArray, List.set_cons_zero, List.set_cons_succ]
    refine wpAnyH_take (i := 5) (v := .pointer (some ⟨w.heap.size, 0, none⟩)) rfl (by kernel_rfl) (by kernel_rfl) (by kernel_rfl) (fun _ _ _ h => h) (Or.inl ⟨by rfl, fun w' hS => by go_simp⟩) hHeld ?_
    simp only [Act.put, List.getElem_toArray, List.getElem_cons_zero, List.getElem_cons_succ, List.setIfInBounds_toArray, List.set_cons_zero, List.set_cons_succ]
    refine wpAnyH_take (i := 6) (v := .agg (ints v.id).toArray) rfl (by kernel_rfl) (by kernel_rfl) (by kernel_rfl) (fun _ _ _ h => h) (yieldsIf_load_mid (by rfl) 49 (.tmp 48) rfl w.heap.size (0) (by rfl) (ints v.id) _ (fun w' hS => hS) Try.underlying49 rfl (by rw [ints_len, (show v.id.length = 4 from rfl)]; exact info_vid)) hHeld ?_
    simp only [Act.put, List.getElem_toArray, List.getElem_cons_zero, List.getElem_cons_succ, List.setIfInBounds_toArray, List.set_cons_zero, List.set_cons_succ]
    refine wpAnyH_take (i := 7) (v := .slice a1 mn c1x) rfl (by kernel_rfl) (by kernel_rfl) (by kernel_rfl) (fun _ _ _ h => h) (Or.inl ⟨by rfl, fun w' hS => by go_simp⟩) hHeld ?_
    simp only [Act.put, List.getElem_toArray, List.getElem_cons_zero, List.getElem_cons_succ, List.setIfInBounds_toArray, List.set_cons_zero, List.set_cons_succ]
    refine wpAnyH_take (i := 8) (v := .agg #[.int .i64 v.ep, .int .i64 v.ld, .int .i64 v.ic, .int .i64 v.cd, .slice a1 mn c1x]) rfl (by kernel_rfl) (by kernel_rfl) (by kernel_rfl) (fun _ _ _ h => h) (Or.inl ⟨by rfl, fun w' hS => by exact run_buildop 52 _ rfl _ (by kernel_rfl)⟩) hHeld ?_
    simp only [Act.put, List.getElem_toArray, List.getElem_cons_zero, List.getElem_cons_succ, List.setIfInBounds_toArray, List.set_cons_zero, List.set_cons_succ]
    refine wpAnyH_ready (rs := [4, 9]) (by kernel_rfl) (by simp) ?_
    refine AllReadyH.cons rfl (fun K hK => ?_) (AllReadyH.cons rfl (fun K hK => ?_) AllReadyH.nil)
    · skip
      go_simp
      refine hK.out _ _ HEi.out (fun hHeld => ?_)
      clear hK K
      refine wpAnyH_ready (rs := [9]) (by kernel_rfl) (by simp) ?_
      refine AllReadyH.cons rfl (fun K hK => ?_) AllReadyH.nil
      go_simp
      refine hK.out _ _ HFi.out (fun hHeld => ?_)
      clear hK K
      refine wpAnyH_ready (rs := [10]) (by kernel_rfl) (by simp) ?_
      refine AllReadyH.cons rfl (fun K hK => ?_) AllReadyH.nil
      split
      · skip
        refine wp_app_v (B := B) (.tmp 47) (.tmp 52) rfl (.slice R.wo 0 R.wc) (0) R.es rfl HRF.out HBB.out E1.heap.size (⟨v, a1, mn, c1x⟩ : Ve) rfl HF1b.out (by omega) ?_
        intro v2 G1 HO2x HGr HAt
        have HO2 : Hid (G1.ownsRow B 52 5 v2 (1) (flE (R.es ++ [(⟨v, a1, mn, c1x⟩ : Ve)]))) := HO2x.out
        clear HO2x
        obtain ⟨a2, c2, rfl⟩ := own_shape HO2.out
        have HKg : Hid (Kept F1 G1 (fun j => some j = (Value.slice R.wo 0 R.wc).ownBlock)) := Kept.ofGrown HGr.out
        have g1 : G1.cell? ⟨R.b, 1, none⟩ = some (.slice R.wo 0 R.wc) := Kept.cell HKg.out f1c HnR.out
        have gz : G1.frozen? ⟨R.b, 1, none⟩ = false := frozen_of_row G1 _ 1 _ _ (HKg.out.obj (HOkE.out.still HBEF.out).blk HnR.out)
        have HGi : Hid (G1.rangeAt w.heap.size 0 (ints v.id)) := Kept.range HKg.out HFi.out HnX.out
        refine hK.out _ _ HGi.out (fun hHeld => ?_)
        clear hK K
        refine wpAnyH_take (i := 11) (v := .pointer (some ⟨R.b, 0, none⟩)) rfl (by kernel_rfl) (by kernel_rfl) (by kernel_rfl) (fun _ _ _ h => h) (Or.inl ⟨by rfl, fun w' hS => by go_simp⟩) hHeld ?_
        simp only [Act.put, List.getElem_toArray, List.getElem_cons_zero, List.getElem_cons_succ, List.setIfInBounds_toArray, List.set_cons_zero, List.set_cons_succ]
        refine wpAnyH_take (i := 12) (v := .pointer (some ⟨R.b, 1, none⟩)) rfl (by kernel_rfl) (by kernel_rfl) (by kernel_rfl) (fun _ _ _ h => h) (Or.inl ⟨by rfl, fun w' hS => by go_simp⟩) hHeld ?_
        simp only [Act.put, List.getElem_toArray, List.getElem_cons_zero, List.getElem_cons_succ, List.setIfInBounds_toArray, List.set_cons_zero, List.set_cons_succ]
        refine wpAnyH_ready (rs := [13]) (by kernel_rfl) (by simp) ?_
        refine AllReadyH.cons rfl (fun K hK => ?_) AllReadyH.nil
        obtain ⟨H1, hH1⟩ : ∃ H1, G1.setCell ⟨R.b, 1, none⟩ (.slice a2 (1) c2) = H1 := ⟨_, rfl⟩
        have HKh : Hid (Kept G1 H1 (fun j => j = R.b)) := by rw [← hH1]; exact kset (P := fun j => j = R.b) _ _ _ _ rfl
        have hXR : w.heap.size ≠ R.b := by have := lt_heap h.blk; omega
        have HHi : Hid (H1.rangeAt w.heap.size 0 (ints v.id)) := Kept.range HKh.out HGi.out hXR
        have hLe : (R.es ++ [(⟨v, a1, mn, c1x⟩ : Ve)]).length = 1 := by rw [List.length_append, H0.out]; rfl
        have hGb := HKg.out.obj (HOkE.out.still HBEF.out).blk HnR.out
        have HKey : Hid (∀ (t sz n : Nat) (u : Value) (l : List Value), F1.ownsRow B t sz u n l → t ≠ 52 → t ≠ 109 → H1.ownsRow B t sz u n l) := fun t sz n u l ho h1 h2 => by
          have g2 := own_keepT ho HKg.out (fun g cur hg e => by
            obtain ⟨cur2, hc⟩ := own_type HRF.out e.symm
            exact ty_ne hg hc h1 rfl)
          exact own_keepT g2 HKh.out (fun g cur hg e => by subst e; exact ty_ne hg hGb h2 rfl)
        have HR' : Hid ((⟨R.b, R.v, R.vo, R.vc, a2, c2, R.es ++ [(⟨v, a1, mn, c1x⟩ : Ve)]⟩ : Rq).Ok H1 B) := by
          have hOF := HOkE.out.still HBEF.out
          refine ⟨?_, h.bB, HKey.out _ _ _ _ _ hOF.vot (by decide) (by decide), h.ok, ?_, fun e he => ?_⟩
          · show H1.heap[R.b]? = some (.cells #[.slice R.vo R.v.length R.vc, .slice a2 (R.es ++ [(⟨v, a1, mn, c1x⟩ : Ve)]).length c2] 109 (0, 0))
            rw [hLe, ← hH1]
            exact blk_set hGb rfl
          · show H1.ownsRow B 52 5 (.slice a2 (R.es ++ [(⟨v, a1, mn, c1x⟩ : Ve)]).length c2) (R.es ++ [(⟨v, a1, mn, c1x⟩ : Ve)]).length (flE (R.es ++ [(⟨v, a1, mn, c1x⟩ : Ve)]))
            rw [hLe]
            exact own_keepT HO2.out HKh.out (fun g cur hg e => by subst e; exact ty_ne hg hGb (by decide) rfl)
          · rcases List.mem_append.1 he with he | he
            · exact ⟨HKey.out _ _ _ _ _ (hOF.mem e he).1 (by decide) (by decide), (hOF.mem e he).2⟩
            · rw [List.mem_singleton.1 he]
              exact ⟨HKey.out _ _ _ _ _ (own_still (own_lower HO1.out hBw) HBEF.out) (by decide) (by decide), ⟨s, HVp.out⟩, hm⟩
        have HKall : Hid (Kept w H1 (fun j => j = R.b ∨ some j = (Value.slice R.wo R.es.length R.wc).ownBlock)) := by
          have eB : (Value.slice R.wo 0 R.wc).ownBlock = (Value.slice R.wo R.es.length R.wc).ownBlock := by cases R.wo <;> rfl
          exact ((Kept.ofBelow (bstep (bstep HBW.out HBE.out) HBEF.out) _).trans (HKg.out.mono fun k _ hp => .inr (by rw [← eB]; exact hp))).trans (HKh.out.mono fun k _ hp => .inl hp)
        have HRd : Hid (Rd3 H1 mo mn mc v.ms) := by
          have r1 := (HRM.out.still HBE.out).still HBEF.out
          refine (r1.keep HKg.out fun b off e => ?_).keep HKh.out fun b off e => ?_
          · rw [HMo.out] at e
            have eB : (Value.slice R.wo 0 R.wc).ownBlock = (Value.slice R.wo R.es.length R.wc).ownBlock := by cases R.wo <;> rfl
            rw [eB]
            exact (hnb b off e).2
          · rw [HMo.out] at e
            exact (hnb b off e).1
        have HVr : Hid (H1.rangeAt w.heap.size 0 [.int .i64 v.ep, .int .i64 v.ld, .int .i64 v.ic, .int .i64 v.cd, .slice mo mn mc]) := Kept.range HKh.out (Kept.range HKg.out (below_range HBEF.out (below_range HBE.out HQr.out)) HnX.out) hXR
        have h1c0 : H1.cell? ⟨R.b, 0, none⟩ = some (.slice R.vo R.v.length R.vc) := HR'.out.c0
        have HP : Hid (∀ V, Below H1.heap.size H1 V → Calls Try.prog 71 #[.agg #[.int .i64 v.ep, .int .i64 v.ld, .int .i64 v.ic, .int .i64 v.cd, .slice mo mn mc]] V fun e w' => e = .returned (.int .i64 (s : Int)) ∧ Below V.heap.size V w') := fun V hV => rpids_any (HRd.out.still hV) R.v.length s h16 (viewP_memP HVp.out) hs16 (by omega)
        have HWn : Hid (∀ V, Below H1.heap.size H1 V → Calls Try.prog 35 #[.slice R.vo R.v.length R.vc, .int .i64 (s : Int)] V fun e w' => e = .returned (.bool (wins R.v s)) ∧ V = w') := fun V hV => by
          have := rwins_any (HR'.out.votes.still hV) (okI_zi h.ok) s hs16
          rw [nv_zi] at this
          exact this
        have hmap : Hid ((R.es ++ [(⟨v, a1, mn, c1x⟩ : Ve)]).map (·.v) = R.es.map (·.v) ++ [v]) := (show _ = _ from by simp)
        have hfre : Hid (∀ e ∈ R.es ++ [(⟨v, a1, mn, c1x⟩ : Ve)], e ∈ R.es ∨ ∀ g, (Value.slice e.mo e.mn e.mc).ownBlock = some g → w.heap.size ≤ g) := fun e he => (List.mem_append.1 he).elim .inl (fun h1 => .inr (by rw [List.mem_singleton.1 h1]; exact fun g hg => (World.ownsRow.lt HO1.out g hg).1))
        have hrow2 : Hid (∀ g, (Value.slice a2 (R.es ++ [(⟨v, a1, mn, c1x⟩ : Ve)]).length c2).ownBlock = some g → some g = (Value.slice R.wo R.es.length R.wc).ownBlock ∨ w.heap.size ≤ g) := fun g hg => (HAt.out g (by rw [← hg]; cases a2 <;> rfl)).elim (fun e => .inl (e.symm.trans (by cases R.wo <;> rfl))) (fun e => .inr (by rw [e]; exact Nat.le_trans HsV.out (Nat.le_trans HBE.out.size HBEF.out.size)))
        go_simp
        try rw [hH1]
        refine hK.out _ _ HHi.out (fun hHeld => ?_)
        clear hK K
        refine wpAnyH_done (by kernel_rfl) ?_ _
        clear hHeld hH1 hGb g1 gz hLe
        go_wp2
        refine wp_region_held_drew (S := (fun w' => w'.cell? ⟨R.b, 0, none⟩ = some (.slice R.vo R.v.length R.vc) ∧ w'.rangeAt w.heap.size 0 [.int .i64 v.ep, .int .i64 v.ld, .int .i64 v.ic, .int .i64 v.cd, .slice mo mn mc])) (by kernel_rfl) ⟨below_at (Below.refl _ _).drew h1c0, below_range (Below.refl _ _).drew HVr.out⟩ (fun hHeld => ?_)
        simp only [Act.put, List.size_toArray, List.length_cons, List.length_nil, Nat.zero_add]
        refine wpAnyH_take (i := 0) (v := .pointer (some ⟨R.b, 0, none⟩)) rfl (by kernel_rfl) (by kernel_rfl) (by kernel_rfl) (fun _ _ _ h => h) (Or.inl ⟨by rfl, fun w' hS => by go_simp⟩) hHeld ?_
        simp only [Act.put, List.getElem_toArray, List.getElem_cons_zero, List.getElem_cons_succ, List.setIfInBounds_toArray, List.set_cons_zero, List.set_cons_succ]
        refine wpAnyH_take (i := 1) (v := .pointer (some ⟨R.b, 0, none⟩)) rfl (by kernel_rfl) (by kernel_rfl) (by kernel_rfl) (fun _ _ _ h => h) (Or.inl ⟨by rfl, fun w' hS => by go_simp⟩) hHeld ?_
        simp only [Act.put, List.getElem_toArray, List.getElem_cons_zero, List.getElem_cons_succ, List.setIfInBounds_toArray, List.set_cons_zero, List.set_cons_succ]
        refine wpAnyH_take (i := 2) (v := .pointer (some ⟨R.b, 0, none⟩)) rfl (by kernel_rfl) (by kernel_rfl) (by kernel_rfl) (fun _ _ _ h => h) (Or.inl ⟨by rfl, fun w' hS => by go_simp⟩) hHeld ?_
        simp only [Act.put, List.getElem_toArray, List.getElem_cons_zero, List.getElem_cons_succ, List.setIfInBounds_toArray, List.set_cons_zero, List.set_cons_succ]
        refine wpAnyH_take (i := 3) (v := .slice R.vo R.v.length R.vc) rfl (by kernel_rfl) (by kernel_rfl) (by kernel_rfl) (fun _ _ _ h => h) (Or.inl ⟨by rfl, fun w' hS => by (obtain ⟨s0, s1⟩ := hS; go_simp)⟩) hHeld ?_
        simp only [Act.put, List.getElem_toArray, List.getElem_cons_zero, List.getElem_cons_succ, List.setIfInBounds_toArray, List.set_cons_zero, List.set_cons_succ]
        refine wpAnyH_take (i := 4) (v := .agg ([.int .i64 v.ep, .int .i64 v.ld, .int .i64 v.ic, .int .i64 v.cd, .slice mo mn mc] : List Value).toArray) rfl (by kernel_rfl) (by kernel_rfl) (by kernel_rfl) (fun _ _ _ h => h) (yieldsIf_load_mid (by rfl) 52 (.tmp 3) rfl w.heap.size 0 (by rfl) [.int .i64 v.ep, .int .i64 v.ld, .int .i64 v.ic, .int .i64 v.cd, .slice mo mn mc] _ (fun w' hS => hS.2) Try.underlying52 rfl info_view) hHeld ?_
        simp only [Act.put, List.getElem_toArray, List.getElem_cons_zero, List.getElem_cons_succ, List.setIfInBounds_toArray, List.set_cons_zero, List.set_cons_succ]
        refine wpAnyH_ready (rs := [5]) (by kernel_rfl) (by simp) ?_
        refine AllReadyH.cons rfl (fun K hK => ?_) AllReadyH.nil
        go_simp
        refine (HP.out _ (Below.refl _ _).drew).mono ?_
        rintro e w5 ⟨rfl, hb5⟩
        refine hK.out _ _ ⟨below_at hb5 (below_at (Below.refl _ _).drew h1c0), below_range hb5 (below_range (Below.refl _ _).drew HVr.out)⟩ (fun hHeld => ?_)
        clear hK K
        refine wpAnyH_ready (rs := [6]) (by kernel_rfl) (by simp) ?_
        refine AllReadyH.cons rfl (fun K hK => ?_) AllReadyH.nil
        go_simp
        refine (HWn.out _ (bstep (Below.refl _ _).drew hb5)).mono ?_
        rintro e w6 ⟨rfl, rfl⟩
        refine hK.out _ _ ⟨below_at hb5 (below_at (Below.refl _ _).drew h1c0), below_range hb5 (below_range (Below.refl _ _).drew HVr.out)⟩ (fun hHeld => ?_)
        clear hK K
        refine wpAnyH_take (i := 7) (v := .bool (wins R.v s)) rfl (by kernel_rfl) (by kernel_rfl) (by kernel_rfl) (fun _ _ _ h => h) (Or.inl ⟨by rfl, fun w' hS => by go_simp⟩) hHeld ?_
        simp only [Act.put, List.getElem_toArray, List.getElem_cons_zero, List.getElem_cons_succ, List.setIfInBounds_toArray, List.set_cons_zero, List.set_cons_succ]
        refine wpAnyH_take (i := 8) (v := .int .i64 0) rfl (by kernel_rfl) (by kernel_rfl) (by kernel_rfl) (fun _ _ _ h => h) (Or.inl ⟨by rfl, fun w' hS => by go_simp⟩) hHeld ?_
        simp only [Act.put, List.getElem_toArray, List.getElem_cons_zero, List.getElem_cons_succ, List.setIfInBounds_toArray, List.set_cons_zero, List.set_cons_succ]
        refine wpAnyH_done (by kernel_rfl) ?_ _
        clear hHeld
        go_wp2
        (try simp only [Exit.inBlock, Exit.then])
        refine bodyPost_ret (results_tmp2 rfl _ _ _) rfl ?_
        exact ⟨_, rfl, HR'.out.still (bstep (Below.refl _ _).drew hb5), rfl, rfl, hmap.out, hfre.out, hrow2.out, HKall.out.trans (Kept.ofBelow (bstep (Below.refl _ _).drew hb5) _)⟩
      · rename_i hne2
        exact absurd rfl hne2
    · skip
      go_simp
      refine hK.out _ _ HFi.out (fun hHeld => ?_)
      clear hK K
      refine wpAnyH_ready (rs := [4]) (by kernel_rfl) (by simp) ?_
      refine AllReadyH.cons rfl (fun K hK => ?_) AllReadyH.nil
      go_simp
      refine hK.out _ _ HFi.out (fun hHeld => ?_)
      clear hK K
      refine wpAnyH_ready (rs := [10]) (by kernel_rfl) (by simp) ?_
      refine AllReadyH.cons rfl (fun K hK => ?_) AllReadyH.nil
      split
      · skip
        refine wp_app_v (B := B) (.tmp 47) (.tmp 52) rfl (.slice R.wo 0 R.wc) (0) R.es rfl HRF.out HBB.out E1.heap.size (⟨v, a1, mn, c1x⟩ : Ve) rfl HF1b.out (by omega) ?_
        intro v2 G1 HO2x HGr HAt
        have HO2 : Hid (G1.ownsRow B 52 5 v2 (1) (flE (R.es ++ [(⟨v, a1, mn, c1x⟩ : Ve)]))) := HO2x.out
        clear HO2x
        obtain ⟨a2, c2, rfl⟩ := own_shape HO2.out
        have HKg : Hid (Kept F1 G1 (fun j => some j = (Value.slice R.wo 0 R.wc).ownBlock)) := Kept.ofGrown HGr.out
        have g1 : G1.cell? ⟨R.b, 1, none⟩ = some (.slice R.wo 0 R.wc) := Kept.cell HKg.out f1c HnR.out
        have gz : G1.frozen? ⟨R.b, 1, none⟩ = false := frozen_of_row G1 _ 1 _ _ (HKg.out.obj (HOkE.out.still HBEF.out).blk HnR.out)
        have HGi : Hid (G1.rangeAt w.heap.size 0 (ints v.id)) := Kept.range HKg.out HFi.out HnX.out
        refine hK.out _ _ HGi.out (fun hHeld => ?_)
        clear hK K
        refine wpAnyH_take (i := 11) (v := .pointer (some ⟨R.b, 0, none⟩)) rfl (by kernel_rfl) (by kernel_rfl) (by kernel_rfl) (fun _ _ _ h => h) (Or.inl ⟨by rfl, fun w' hS => by go_simp⟩) hHeld ?_
        simp only [Act.put, List.getElem_toArray, List.getElem_cons_zero, List.getElem_cons_succ, List.setIfInBounds_toArray, List.set_cons_zero, List.set_cons_succ]
        refine wpAnyH_take (i := 12) (v := .pointer (some ⟨R.b, 1, none⟩)) rfl (by kernel_rfl) (by kernel_rfl) (by kernel_rfl) (fun _ _ _ h => h) (Or.inl ⟨by rfl, fun w' hS => by go_simp⟩) hHeld ?_
        simp only [Act.put, List.getElem_toArray, List.getElem_cons_zero, List.getElem_cons_succ, List.setIfInBounds_toArray, List.set_cons_zero, List.set_cons_succ]
        refine wpAnyH_ready (rs := [13]) (by kernel_rfl) (by simp) ?_
        refine AllReadyH.cons rfl (fun K hK => ?_) AllReadyH.nil
        obtain ⟨H1, hH1⟩ : ∃ H1, G1.setCell ⟨R.b, 1, none⟩ (.slice a2 (1) c2) = H1 := ⟨_, rfl⟩
        have HKh : Hid (Kept G1 H1 (fun j => j = R.b)) := by rw [← hH1]; exact kset (P := fun j => j = R.b) _ _ _ _ rfl
        have hXR : w.heap.size ≠ R.b := by have := lt_heap h.blk; omega
        have HHi : Hid (H1.rangeAt w.heap.size 0 (ints v.id)) := Kept.range HKh.out HGi.out hXR
        have hLe : (R.es ++ [(⟨v, a1, mn, c1x⟩ : Ve)]).length = 1 := by rw [List.length_append, H0.out]; rfl
        have hGb := HKg.out.obj (HOkE.out.still HBEF.out).blk HnR.out
        have HKey : Hid (∀ (t sz n : Nat) (u : Value) (l : List Value), F1.ownsRow B t sz u n l → t ≠ 52 → t ≠ 109 → H1.ownsRow B t sz u n l) := fun t sz n u l ho h1 h2 => by
          have g2 := own_keepT ho HKg.out (fun g cur hg e => by
            obtain ⟨cur2, hc⟩ := own_type HRF.out e.symm
            exact ty_ne hg hc h1 rfl)
          exact own_keepT g2 HKh.out (fun g cur hg e => by subst e; exact ty_ne hg hGb h2 rfl)
        have HR' : Hid ((⟨R.b, R.v, R.vo, R.vc, a2, c2, R.es ++ [(⟨v, a1, mn, c1x⟩ : Ve)]⟩ : Rq).Ok H1 B) := by
          have hOF := HOkE.out.still HBEF.out
          refine ⟨?_, h.bB, HKey.out _ _ _ _ _ hOF.vot (by decide) (by decide), h.ok, ?_, fun e he => ?_⟩
          · show H1.heap[R.b]? = some (.cells #[.slice R.vo R.v.length R.vc, .slice a2 (R.es ++ [(⟨v, a1, mn, c1x⟩ : Ve)]).length c2] 109 (0, 0))
            rw [hLe, ← hH1]
            exact blk_set hGb rfl
          · show H1.ownsRow B 52 5 (.slice a2 (R.es ++ [(⟨v, a1, mn, c1x⟩ : Ve)]).length c2) (R.es ++ [(⟨v, a1, mn, c1x⟩ : Ve)]).length (flE (R.es ++ [(⟨v, a1, mn, c1x⟩ : Ve)]))
            rw [hLe]
            exact own_keepT HO2.out HKh.out (fun g cur hg e => by subst e; exact ty_ne hg hGb (by decide) rfl)
          · rcases List.mem_append.1 he with he | he
            · exact ⟨HKey.out _ _ _ _ _ (hOF.mem e he).1 (by decide) (by decide), (hOF.mem e he).2⟩
            · rw [List.mem_singleton.1 he]
              exact ⟨HKey.out _ _ _ _ _ (own_still (own_lower HO1.out hBw) HBEF.out) (by decide) (by decide), ⟨s, HVp.out⟩, hm⟩
        have HKall : Hid (Kept w H1 (fun j => j = R.b ∨ some j = (Value.slice R.wo R.es.length R.wc).ownBlock)) := by
          have eB : (Value.slice R.wo 0 R.wc).ownBlock = (Value.slice R.wo R.es.length R.wc).ownBlock := by cases R.wo <;> rfl
          exact ((Kept.ofBelow (bstep (bstep HBW.out HBE.out) HBEF.out) _).trans (HKg.out.mono fun k _ hp => .inr (by rw [← eB]; exact hp))).trans (HKh.out.mono fun k _ hp => .inl hp)
        have HRd : Hid (Rd3 H1 mo mn mc v.ms) := by
          have r1 := (HRM.out.still HBE.out).still HBEF.out
          refine (r1.keep HKg.out fun b off e => ?_).keep HKh.out fun b off e => ?_
          · rw [HMo.out] at e
            have eB : (Value.slice R.wo 0 R.wc).ownBlock = (Value.slice R.wo R.es.length R.wc).ownBlock := by cases R.wo <;> rfl
            rw [eB]
            exact (hnb b off e).2
          · rw [HMo.out] at e
            exact (hnb b off e).1
        have HVr : Hid (H1.rangeAt w.heap.size 0 [.int .i64 v.ep, .int .i64 v.ld, .int .i64 v.ic, .int .i64 v.cd, .slice mo mn mc]) := Kept.range HKh.out (Kept.range HKg.out (below_range HBEF.out (below_range HBE.out HQr.out)) HnX.out) hXR
        have h1c0 : H1.cell? ⟨R.b, 0, none⟩ = some (.slice R.vo R.v.length R.vc) := HR'.out.c0
        have HP : Hid (∀ V, Below H1.heap.size H1 V → Calls Try.prog 71 #[.agg #[.int .i64 v.ep, .int .i64 v.ld, .int .i64 v.ic, .int .i64 v.cd, .slice mo mn mc]] V fun e w' => e = .returned (.int .i64 (s : Int)) ∧ Below V.heap.size V w') := fun V hV => rpids_any (HRd.out.still hV) R.v.length s h16 (viewP_memP HVp.out) hs16 (by omega)
        have HWn : Hid (∀ V, Below H1.heap.size H1 V → Calls Try.prog 35 #[.slice R.vo R.v.length R.vc, .int .i64 (s : Int)] V fun e w' => e = .returned (.bool (wins R.v s)) ∧ V = w') := fun V hV => by
          have := rwins_any (HR'.out.votes.still hV) (okI_zi h.ok) s hs16
          rw [nv_zi] at this
          exact this
        have hmap : Hid ((R.es ++ [(⟨v, a1, mn, c1x⟩ : Ve)]).map (·.v) = R.es.map (·.v) ++ [v]) := (show _ = _ from by simp)
        have hfre : Hid (∀ e ∈ R.es ++ [(⟨v, a1, mn, c1x⟩ : Ve)], e ∈ R.es ∨ ∀ g, (Value.slice e.mo e.mn e.mc).ownBlock = some g → w.heap.size ≤ g) := fun e he => (List.mem_append.1 he).elim .inl (fun h1 => .inr (by rw [List.mem_singleton.1 h1]; exact fun g hg => (World.ownsRow.lt HO1.out g hg).1))
        have hrow2 : Hid (∀ g, (Value.slice a2 (R.es ++ [(⟨v, a1, mn, c1x⟩ : Ve)]).length c2).ownBlock = some g → some g = (Value.slice R.wo R.es.length R.wc).ownBlock ∨ w.heap.size ≤ g) := fun g hg => (HAt.out g (by rw [← hg]; cases a2 <;> rfl)).elim (fun e => .inl (e.symm.trans (by cases R.wo <;> rfl))) (fun e => .inr (by rw [e]; exact Nat.le_trans HsV.out (Nat.le_trans HBE.out.size HBEF.out.size)))
        go_simp
        try rw [hH1]
        refine hK.out _ _ HHi.out (fun hHeld => ?_)
        clear hK K
        refine wpAnyH_done (by kernel_rfl) ?_ _
        clear hHeld hH1 hGb g1 gz hLe
        go_wp2
        refine wp_region_held_drew (S := (fun w' => w'.cell? ⟨R.b, 0, none⟩ = some (.slice R.vo R.v.length R.vc) ∧ w'.rangeAt w.heap.size 0 [.int .i64 v.ep, .int .i64 v.ld, .int .i64 v.ic, .int .i64 v.cd, .slice mo mn mc])) (by kernel_rfl) ⟨below_at (Below.refl _ _).drew h1c0, below_range (Below.refl _ _).drew HVr.out⟩ (fun hHeld => ?_)
        simp only [Act.put, List.size_toArray, List.length_cons, List.length_nil, Nat.zero_add]
        refine wpAnyH_take (i := 0) (v := .pointer (some ⟨R.b, 0, none⟩)) rfl (by kernel_rfl) (by kernel_rfl) (by kernel_rfl) (fun _ _ _ h => h) (Or.inl ⟨by rfl, fun w' hS => by go_simp⟩) hHeld ?_
        simp only [Act.put, List.getElem_toArray, List.getElem_cons_zero, List.getElem_cons_succ, List.setIfInBounds_toArray, List.set_cons_zero, List.set_cons_succ]
        refine wpAnyH_take (i := 1) (v := .pointer (some ⟨R.b, 0, none⟩)) rfl (by kernel_rfl) (by kernel_rfl) (by kernel_rfl) (fun _ _ _ h => h) (Or.inl ⟨by rfl, fun w' hS => by go_simp⟩) hHeld ?_
        simp only [Act.put, List.getElem_toArray, List.getElem_cons_zero, List.getElem_cons_succ, List.setIfInBounds_toArray, List.set_cons_zero, List.set_cons_succ]
        refine wpAnyH_take (i := 2) (v := .pointer (some ⟨R.b, 0, none⟩)) rfl (by kernel_rfl) (by kernel_rfl) (by kernel_rfl) (fun _ _ _ h => h) (Or.inl ⟨by rfl, fun w' hS => by go_simp⟩) hHeld ?_
        simp only [Act.put, List.getElem_toArray, List.getElem_cons_zero, List.getElem_cons_succ, List.setIfInBounds_toArray, List.set_cons_zero, List.set_cons_succ]
        refine wpAnyH_take (i := 3) (v := .slice R.vo R.v.length R.vc) rfl (by kernel_rfl) (by kernel_rfl) (by kernel_rfl) (fun _ _ _ h => h) (Or.inl ⟨by rfl, fun w' hS => by (obtain ⟨s0, s1⟩ := hS; go_simp)⟩) hHeld ?_
        simp only [Act.put, List.getElem_toArray, List.getElem_cons_zero, List.getElem_cons_succ, List.setIfInBounds_toArray, List.set_cons_zero, List.set_cons_succ]
        refine wpAnyH_take (i := 4) (v := .agg ([.int .i64 v.ep, .int .i64 v.ld, .int .i64 v.ic, .int .i64 v.cd, .slice mo mn mc] : List Value).toArray) rfl (by kernel_rfl) (by kernel_rfl) (by kernel_rfl) (fun _ _ _ h => h) (yieldsIf_load_mid (by rfl) 52 (.tmp 3) rfl w.heap.size 0 (by rfl) [.int .i64 v.ep, .int .i64 v.ld, .int .i64 v.ic, .int .i64 v.cd, .slice mo mn mc] _ (fun w' hS => hS.2) Try.underlying52 rfl info_view) hHeld ?_
        simp only [Act.put, List.getElem_toArray, List.getElem_cons_zero, List.getElem_cons_succ, List.setIfInBounds_toArray, List.set_cons_zero, List.set_cons_succ]
        refine wpAnyH_ready (rs := [5]) (by kernel_rfl) (by simp) ?_
        refine AllReadyH.cons rfl (fun K hK => ?_) AllReadyH.nil
        go_simp
        refine (HP.out _ (Below.refl _ _).drew).mono ?_
        rintro e w5 ⟨rfl, hb5⟩
        refine hK.out _ _ ⟨below_at hb5 (below_at (Below.refl _ _).drew h1c0), below_range hb5 (below_range (Below.refl _ _).drew HVr.out)⟩ (fun hHeld => ?_)
        clear hK K
        refine wpAnyH_ready (rs := [6]) (by kernel_rfl) (by simp) ?_
        refine AllReadyH.cons rfl (fun K hK => ?_) AllReadyH.nil
        go_simp
        refine (HWn.out _ (bstep (Below.refl _ _).drew hb5)).mono ?_
        rintro e w6 ⟨rfl, rfl⟩
        refine hK.out _ _ ⟨below_at hb5 (below_at (Below.refl _ _).drew h1c0), below_range hb5 (below_range (Below.refl _ _).drew HVr.out)⟩ (fun hHeld => ?_)
        clear hK K
        refine wpAnyH_take (i := 7) (v := .bool (wins R.v s)) rfl (by kernel_rfl) (by kernel_rfl) (by kernel_rfl) (fun _ _ _ h => h) (Or.inl ⟨by rfl, fun w' hS => by go_simp⟩) hHeld ?_
        simp only [Act.put, List.getElem_toArray, List.getElem_cons_zero, List.getElem_cons_succ, List.setIfInBounds_toArray, List.set_cons_zero, List.set_cons_succ]
        refine wpAnyH_take (i := 8) (v := .int .i64 0) rfl (by kernel_rfl) (by kernel_rfl) (by kernel_rfl) (fun _ _ _ h => h) (Or.inl ⟨by rfl, fun w' hS => by go_simp⟩) hHeld ?_
        simp only [Act.put, List.getElem_toArray, List.getElem_cons_zero, List.getElem_cons_succ, List.setIfInBounds_toArray, List.set_cons_zero, List.set_cons_succ]
        refine wpAnyH_done (by kernel_rfl) ?_ _
        clear hHeld
        go_wp2
        (try simp only [Exit.inBlock, Exit.then])
        refine bodyPost_ret (results_tmp2 rfl _ _ _) rfl ?_
        exact ⟨_, rfl, HR'.out.still (bstep (Below.refl _ _).drew hb5), rfl, rfl, hmap.out, hfre.out, hrow2.out, HKall.out.trans (Kept.ofBelow (bstep (Below.refl _ _).drew hb5) _)⟩
      · rename_i hne2
        exact absurd rfl hne2
  · obtain ⟨m, hm1⟩ : ∃ m, R.es.length = m + 1 := ⟨R.es.length - 1, by omega⟩
    have H0 : Hid (R.es.length = m + 1) := hm1
    obtain ⟨g, hg, hrg⟩ := HOk.out.view (i := m) (by omega)
    have cg : W.cell? ⟨g, m * 5, none⟩ = some (.int .i64 (R.es.getD m ve0).v.ep) := hrg 0 _ rfl
    have c1' := c1
    rw [hg, hm1] at c1'
    have hlt : ¬ v.ep ≤ (R.es.getD m ve0).v.ep := fun hh => by
      have := HOl.out
      unfold oldE at this
      rw [hm1, Nat.add_sub_cancel, decide_eq_true (by omega), decide_eq_true hh] at this
      cases this
    rw [hm1] at hmax
    generalize (R.es.getD m ve0).v.ep = le at *
    clear hr hblk hbW hmo hvp hold h0 c1 hm1 hg hrg
    go_enter Try.func69, Try.ntmps69
    go_wp2_with (fail)
    refine wp_region_held_drew (S := (fun w' => w'.rangeAt w.heap.size 0 [.int .i64 v.ep, .int .i64 v.ld, .int .i64 v.ic, .int .i64 v.cd, .slice mo mn mc] ∧ w'.cell? ⟨R.b, 0, none⟩ = some (.slice R.vo R.v.length R.vc))) (by kernel_rfl) ⟨below_range (Below.refl _ _).drew HQr.out, below_at (Below.refl _ _).drew c0⟩ (fun hHeld => ?_)
    simp only [Act.put, List.size_toArray, List.length_cons, List.length_nil, Nat.zero_add]
    refine wpAnyH_take (i := 0) (v := .agg ([.int .i64 v.ep, .int .i64 v.ld, .int .i64 v.ic, .int .i64 v.cd, .slice mo mn mc] : List Value).toArray) rfl (by kernel_rfl) (by kernel_rfl) (by kernel_rfl) (fun _ _ _ h => h) (yieldsIf_load_mid (by rfl) 52 (.tmp 3) rfl w.heap.size 0 (by rfl) [.int .i64 v.ep, .int .i64 v.ld, .int .i64 v.ic, .int .i64 v.cd, .slice mo mn mc] _ (fun w' hS => hS.1) Try.underlying52 rfl info_view) hHeld ?_
    simp only [Act.put, List.getElem_toArray, List.getElem_cons_zero, List.getElem_cons_succ, List.setIfInBounds_toArray, List.set_cons_zero, List.set_cons_succ]
    refine wpAnyH_take (i := 1) (v := .pointer (some ⟨R.b, 0, none⟩)) rfl (by kernel_rfl) (by kernel_rfl) (by kernel_rfl) (fun _ _ _ h => h) (Or.inl ⟨by rfl, fun w' hS => by go_simp⟩) hHeld ?_
    simp only [Act.put, List.getElem_toArray, List.getElem_cons_zero, List.getElem_cons_succ, List.setIfInBounds_toArray, List.set_cons_zero, List.set_cons_succ]
    refine wpAnyH_take (i := 2) (v := .pointer (some ⟨R.b, 0, none⟩)) rfl (by kernel_rfl) (by kernel_rfl) (by kernel_rfl) (fun _ _ _ h => h) (Or.inl ⟨by rfl, fun w' hS => by go_simp⟩) hHeld ?_
    simp only [Act.put, List.getElem_toArray, List.getElem_cons_zero, List.getElem_cons_succ, List.setIfInBounds_toArray, List.set_cons_zero, List.set_cons_succ]
    refine wpAnyH_take (i := 3) (v := .pointer (some ⟨R.b, 0, none⟩)) rfl (by kernel_rfl) (by kernel_rfl) (by kernel_rfl) (fun _ _ _ h => h) (Or.inl ⟨by rfl, fun w' hS => by go_simp⟩) hHeld ?_
    simp only [Act.put, List.getElem_toArray, List.getElem_cons_zero, List.getElem_cons_succ, List.setIfInBounds_toArray, List.set_cons_zero, List.set_cons_succ]
    refine wpAnyH_take (i := 4) (v := .slice R.vo R.v.length R.vc) rfl (by kernel_rfl) (by kernel_rfl) (by kernel_rfl) (fun _ _ _ h => h) (Or.inl ⟨by rfl, fun w' hS => by (obtain ⟨s0, s1⟩ := hS; go_simp)⟩) hHeld ?_
    simp only [Act.put, List.getElem_toArray, List.getElem_cons_zero, List.getElem_cons_succ, List.setIfInBounds_toArray, List.set_cons_zero, List.set_cons_succ]
    refine wpAnyH_take (i := 5) (v := .int .i64 (R.v.length : Int)) rfl (by kernel_rfl) (by kernel_rfl) (by kernel_rfl) (fun _ _ _ h => h) (Or.inl ⟨by rfl, fun w' hS => by go_simp⟩) hHeld ?_
    simp only [Act.put, List.getElem_toArray, List.getElem_cons_zero, List.getElem_cons_succ, List.setIfInBounds_toArray, List.set_cons_zero, List.set_cons_succ]
    refine wpAnyH_ready (rs := [6]) (by kernel_rfl) (by simp) ?_
    refine AllReadyH.cons rfl (fun K hK => ?_) AllReadyH.nil
    go_simp
    refine (HVd.out _ (Below.refl _ _).drew).mono ?_
    rintro e w2 ⟨rfl, hb2⟩
    refine hK.out _ _ ⟨below_range hb2 (below_range (Below.refl _ _).drew HQr.out), below_at hb2 (below_at (Below.refl _ _).drew c0)⟩ (fun hHeld => ?_)
    clear hK K
    refine wpAnyH_take (i := 7) (v := .bool false) rfl (by kernel_rfl) (by kernel_rfl) (by kernel_rfl) (fun _ _ _ h => h) (Or.inl ⟨by rfl, fun w' hS => by go_simp⟩) hHeld ?_
    simp only [Act.put, List.getElem_toArray, List.getElem_cons_zero, List.getElem_cons_succ, List.setIfInBounds_toArray, List.set_cons_zero, List.set_cons_succ]
    refine wpAnyH_done (by kernel_rfl) ?_ _
    clear hHeld
    have HB2 : Hid (Below W.heap.size W w2) := bstep (Below.refl _ _).drew hb2
    have d1 := below_at HB2.out c1'
    have dg := below_at HB2.out cg
    have d0 := HX.out _ HB2.out
    clear hb2
    go_wp2
    refine wp_region_held_drew (S := (fun w' => w'.cell? ⟨R.b, 1, none⟩ = some (.slice (some ⟨g, 0, none⟩) (m + 1) R.wc) ∧ w'.cell? ⟨g, m * 5, none⟩ = some (.int .i64 le) ∧ w'.cell? ⟨w.heap.size, 0, none⟩ = some (.int .i64 v.ep))) (by kernel_rfl) ⟨below_at (Below.refl _ _).drew d1, below_at (Below.refl _ _).drew dg, below_at (Below.refl _ _).drew d0⟩ (fun hHeld => ?_)
    simp only [Act.put, List.size_toArray, List.length_cons, List.length_nil, Nat.zero_add]
    refine wpAnyH_take (i := 0) (v := .int .i64 ((m : Int) + 1)) rfl (by kernel_rfl) (by kernel_rfl) (by kernel_rfl) (fun _ _ _ h => h) (Or.inl ⟨by rfl, fun w' hS => by go_simp⟩) hHeld ?_
    simp only [Act.put, List.getElem_toArray, List.getElem_cons_zero, List.getElem_cons_succ, List.setIfInBounds_toArray, List.set_cons_zero, List.set_cons_succ]
    refine wpAnyH_take (i := 1) (v := .bool true) rfl (by kernel_rfl) (by kernel_rfl) (by kernel_rfl) (fun _ _ _ h => h) (Or.inl ⟨by rfl, fun w' hS => by (go_simp <;> omega)⟩) hHeld ?_
    simp only [Act.put, List.getElem_toArray, List.getElem_cons_zero, List.getElem_cons_succ, List.setIfInBounds_toArray, List.set_cons_zero, List.set_cons_succ]
    refine wpAnyH_take (i := 2) (v := .bool true) rfl (by kernel_rfl) (by kernel_rfl) (by kernel_rfl) (fun _ _ _ h => h) (Or.inl ⟨by rfl, fun w' hS => by go_simp⟩) hHeld ?_
    simp only [Act.put, List.getElem_toArray, List.getElem_cons_zero, List.getElem_cons_succ, List.setIfInBounds_toArray, List.set_cons_zero, List.set_cons_succ]
    refine wpAnyH_take (i := 3) (v := .pointer (some ⟨R.b, 0, none⟩)) rfl (by kernel_rfl) (by kernel_rfl) (by kernel_rfl) (fun _ _ _ h => h) (Or.inl ⟨by rfl, fun w' hS => by go_simp⟩) hHeld ?_
    simp only [Act.put, List.getElem_toArray, List.getElem_cons_zero, List.getElem_cons_succ, List.setIfInBounds_toArray, List.set_cons_zero, List.set_cons_succ]
    refine wpAnyH_take (i := 4) (v := .pointer (some ⟨R.b, 0, none⟩)) rfl (by kernel_rfl) (by kernel_rfl) (by kernel_rfl) (fun _ _ _ h => h) (Or.inl ⟨by rfl, fun w' hS => by go_simp⟩) hHeld ?_
    simp only [Act.put, List.getElem_toArray, List.getElem_cons_zero, List.getElem_cons_succ, List.setIfInBounds_toArray, List.set_cons_zero, List.set_cons_succ]
    refine wpAnyH_take (i := 5) (v := .pointer (some ⟨R.b, 1, none⟩)) rfl (by kernel_rfl) (by kernel_rfl) (by kernel_rfl) (fun _ _ _ h => h) (Or.inl ⟨by rfl, fun w' hS => by go_simp⟩) hHeld ?_
    simp only [Act.put, List.getElem_toArray, List.getElem_cons_zero, List.getElem_cons_succ, List.setIfInBounds_toArray, List.set_cons_zero, List.set_cons_succ]
    refine wpAnyH_take (i := 6) (v := .slice (some ⟨g, 0, none⟩) (m + 1) R.wc) rfl (by kernel_rfl) (by kernel_rfl) (by kernel_rfl) (fun _ _ _ h => h) (Or.inl ⟨by rfl, fun w' hS => by (obtain ⟨s0, s1, s2⟩ := hS; go_simp)⟩) hHeld ?_
    simp only [Act.put, List.getElem_toArray, List.getElem_cons_zero, List.getElem_cons_succ, List.setIfInBounds_toArray, List.set_cons_zero, List.set_cons_succ]
    refine wpAnyH_take (i := 7) (v := .int .i64 ((m : Int) + 1)) rfl (by kernel_rfl) (by kernel_rfl) (by kernel_rfl) (fun _ _ _ h => h) (Or.inl ⟨by rfl, fun w' hS => by go_simp⟩) hHeld ?_
    simp only [Act.put, List.getElem_toArray, List.getElem_cons_zero, List.getElem_cons_succ, List.setIfInBounds_toArray, List.set_cons_zero, List.set_cons_succ]
    refine wpAnyH_take (i := 8) (v := .int .i64 (m : Int)) rfl (by kernel_rfl) (by kernel_rfl) (by kernel_rfl) (fun _ _ _ h => h) (Or.inl ⟨by rfl, fun w' hS => by (go_simp; exact wrap_id (by omega) (by omega))⟩) hHeld ?_
    simp only [Act.put, List.getElem_toArray, List.getElem_cons_zero, List.getElem_cons_succ, List.setIfInBounds_toArray, List.set_cons_zero, List.set_cons_succ]
    refine wpAnyH_take (i := 9) (v := .pointer (some ⟨g, m * 5, none⟩)) rfl (by kernel_rfl) (by kernel_rfl) (by kernel_rfl) (fun _ _ _ h => h) (Or.inl ⟨by rfl, fun w' hS => by (go_simp <;> omega)⟩) hHeld ?_
    simp only [Act.put, List.getElem_toArray, List.getElem_cons_zero, List.getElem_cons_succ, List.setIfInBounds_toArray, List.set_cons_zero, List.set_cons_succ]
    refine wpAnyH_take (i := 10) (v := .pointer (some ⟨g, m * 5, none⟩)) rfl (by kernel_rfl) (by kernel_rfl) (by kernel_rfl) (fun _ _ _ h => h) (Or.inl ⟨by rfl, fun w' hS => by go_simp⟩) hHeld ?_
    simp only [Act.put, List.getElem_toArray, List.getElem_cons_zero, List.getElem_cons_succ, List.setIfInBounds_toArray, List.set_cons_zero, List.set_cons_succ]
    refine wpAnyH_take (i := 11) (v := .pointer (some ⟨g, m * 5, none⟩)) rfl (by kernel_rfl) (by kernel_rfl) (by kernel_rfl) (fun _ _ _ h => h) (Or.inl ⟨by rfl, fun w' hS => by go_simp⟩) hHeld ?_
    simp only [Act.put, List.getElem_toArray, List.getElem_cons_zero, List.getElem_cons_succ, List.setIfInBounds_toArray, List.set_cons_zero, List.set_cons_succ]
    refine wpAnyH_take (i := 12) (v := .int .i64 le) rfl (by kernel_rfl) (by kernel_rfl) (by kernel_rfl) (fun _ _ _ h => h) (Or.inl ⟨by rfl, fun w' hS => by (obtain ⟨s0, s1, s2⟩ := hS; go_simp)⟩) hHeld ?_
    simp only [Act.put, List.getElem_toArray, List.getElem_cons_zero, List.getElem_cons_succ, List.setIfInBounds_toArray, List.set_cons_zero, List.set_cons_succ]
    refine wpAnyH_take (i := 13) (v := .pointer (some ⟨w.heap.size, 0, none⟩)) rfl (by kernel_rfl) (by kernel_rfl) (by kernel_rfl) (fun _ _ _ h => h) (Or.inl ⟨by rfl, fun w' hS => by go_simp⟩) hHeld ?_
    simp only [Act.put, List.getElem_toArray, List.getElem_cons_zero, List.getElem_cons_succ, List.setIfInBounds_toArray, List.set_cons_zero, List.set_cons_succ]
    refine wpAnyH_take (i := 14) (v := .pointer (some ⟨w.heap.size, 0, none⟩)) rfl (by kernel_rfl) (by kernel_rfl) (by kernel_rfl) (fun _ _ _ h => h) (Or.inl ⟨by rfl, fun w' hS => by go_simp⟩) hHeld ?_
    simp only [Act.put, List.getElem_toArray, List.getElem_cons_zero, List.getElem_cons_succ, List.setIfInBounds_toArray, List.set_cons_zero, List.set_cons_succ]
    refine wpAnyH_take (i := 15) (v := .int .i64 v.ep) rfl (by kernel_rfl) (by kernel_rfl) (by kernel_rfl) (fun _ _ _ h => h) (Or.inl ⟨by rfl, fun w' hS => by (obtain ⟨s0, s1, s2⟩ := hS; go_simp)⟩) hHeld ?_
    simp only [Act.put, List.getElem_toArray, List.getElem_cons_zero, List.getElem_cons_succ, List.setIfInBounds_toArray, List.set_cons_zero, List.set_cons_succ]
    refine wpAnyH_take (i := 16) (v := .bool false) rfl (by kernel_rfl) (by kernel_rfl) (by kernel_rfl) (fun _ _ _ h => h) (Or.inl ⟨by rfl, fun w' hS => by (go_simp <;> omega)⟩) hHeld ?_
    simp only [Act.put, List.getElem_toArray, List.getElem_cons_zero, List.getElem_cons_succ, List.setIfInBounds_toArray, List.set_cons_zero, List.set_cons_succ]
    refine wpAnyH_take (i := 17) (v := .bool false) rfl (by kernel_rfl) (by kernel_rfl) (by kernel_rfl) (fun _ _ _ h => h) (Or.inl ⟨by rfl, fun w' hS => by go_simp⟩) hHeld ?_
    simp only [Act.put, List.getElem_toArray, List.getElem_cons_zero, List.getElem_cons_succ, List.setIfInBounds_toArray, List.set_cons_zero, List.set_cons_succ]
    refine wpAnyH_done (by kernel_rfl) ?_ _
    clear hHeld
    obtain ⟨D1, hD1⟩ : ∃ D1, w2.drew = D1 := ⟨_, rfl⟩
    have HBD : Hid (Below W.heap.size W D1) := by rw [← hD1]; exact bstep HB2.out (Below.refl _ _).drew
    rw [hD1]
    clear hD1 HB2 d1 dg d0 cg c1'
    have d4 := HX4.out _ HBD.out
    rw [HMo.out] at d4
    go_wp2_with (first
      | (at_builtin; refine app_ml (B := w.heap.size) rfl _ _ rfl rfl (Nat.le_trans HsV.out HBD.out.size) ad mn mc v.ms rfl (by rw [← HMo.out]; exact HRM.out.still HBD.out) (by omega) ?_; intro v1 E1 HO1 HB1; obtain ⟨a1, c1x, rfl⟩ := own_shape HO1.out)
      | fail)
    have HBE : Hid (Below W.heap.size W E1) := bstep HBD.out HB1.out
    have HOkE : Hid (R.Ok E1 B) := HOk.out.still HBE.out
    have e1c : E1.drew.cell? ⟨R.b, 1, none⟩ = some (.slice R.wo (m + 1) R.wc) := by
      have := HOkE.out.c1
      rw [H0.out] at this
      exact below_at (Below.refl _ _).drew this
    have HEi : Hid (E1.drew.rangeAt w.heap.size 0 (ints v.id)) := fun j u hu => by
      have hh := below_range (bstep HBE.out (Below.refl _ _).drew) HQr.out
      match j, hu with
      | 0, hu => exact hh 0 _ hu
      | 1, hu => exact hh 1 _ hu
      | 2, hu => exact hh 2 _ hu
      | 3, hu => exact hh 3 _ hu
      | j + 4, hu => simp [ints, Vw.id] at hu
    generalize hF1 : E1.drew.alloc (.cells #[.int .i64 v.ep, .int .i64 v.ld, .int .i64 v.ic, .int .i64 v.cd, .slice a1 mn c1x] 52) = F1
    have HBF : Hid (Below E1.drew.heap.size E1.drew F1) := by rw [← hF1]; exact balloc (Below.refl _ _)
    have HF1b : Hid (F1.heap[E1.heap.size]? = some (.cells #[.int .i64 v.ep, .int .i64 v.ld, .int .i64 v.ic, .int .i64 v.cd, .slice a1 mn c1x] 52 (0, 0))) := by rw [← hF1]; exact heap_alloc_new E1.drew _
    have f1c : F1.cell? ⟨R.b, 1, none⟩ = some (.slice R.wo (m + 1) R.wc) := below_at HBF.out e1c
    have HFi : Hid (F1.rangeAt w.heap.size 0 (ints v.id)) := below_range HBF.out HEi.out
    have HBEF : Hid (Below E1.heap.size E1 F1) := bstep (Below.refl _ _).drew HBF.out
    have HRF : Hid (F1.ownsRow B 52 5 (.slice R.wo (m + 1) R.wc) ((m + 1)) (flE R.es)) := by
      have := (HOkE.out.still HBEF.out).row
      rw [H0.out] at this
      exact this
    have HBB : Hid (B ≤ F1.heap.size) := Nat.le_trans HsW.out (Nat.le_trans HBE.out.size HBEF.out.size)
    have HnR : Hid (¬ some R.b = (Value.slice R.wo (m + 1) R.wc).ownBlock) := fun e => by
      obtain ⟨cur, hc⟩ := own_type HRF.out e.symm
      exact ty_ne (HOkE.out.still HBEF.out).blk hc (by decide) rfl
    have HnX : Hid (¬ some w.heap.size = (Value.slice R.wo (m + 1) R.wc).ownBlock) := fun e => by
      have hrow := h.row
      rw [H0.out] at hrow
      have := (World.ownsRow.lt hrow _ e.symm).2
      omega
    go_wp2
    refine wp_region_held_drew (S := (fun w' => w'.rangeAt w.heap.size 0 (ints v.id))) (by kernel_rfl) HEi.out (fun hHeld => ?_)
    simp only [Act.put, List.size_toArray, List.length_cons, List.length_nil, Nat.zero_add]
    refine wpAnyH_take (i := 0) (v := .pointer (some ⟨R.b, 0, none⟩)) rfl (by kernel_rfl) (by kernel_rfl) (by kernel_rfl) (fun _ _ _ h => h) (Or.inl ⟨by rfl, fun w' hS => by go_simp⟩) hHeld ?_
    simp only [Act.put, List.getElem_toArray, List.getElem_cons_zero, List.getElem_cons_succ, List.setIfInBounds_toArray, List.set_cons_zero, List.set_cons_succ]
    refine wpAnyH_take (i := 1) (v := .pointer (some ⟨R.b, 0, none⟩)) rfl (by kernel_rfl) (by kernel_rfl) (by kernel_rfl) (fun _ _ _ h => h) (Or.inl ⟨by rfl, fun w' hS => by go_simp⟩) hHeld ?_
    simp only [Act.put, List.getElem_toArray, List.getElem_cons_zero, List.getElem_cons_succ, List.setIfInBounds_toArray, List.set_cons_zero, List.set_cons_succ]
    refine wpAnyH_take (i := 2) (v := .pointer (some ⟨R.b, 0, none⟩)) rfl (by kernel_rfl) (by kernel_rfl) (by kernel_rfl) (fun _ _ _ h => h) (Or.inl ⟨by rfl, fun w' hS => by go_simp⟩) hHeld ?_
    simp only [Act.put, List.getElem_toArray, List.getElem_cons_zero, List.getElem_cons_succ, List.setIfInBounds_toArray, List.set_cons_zero, List.set_cons_succ]
    refine wpAnyH_take (i := 3) (v := .pointer (some ⟨R.b, 1, none⟩)) rfl (by kernel_rfl) (by kernel_rfl) (by kernel_rfl) (fun _ _ _ h => h) (Or.inl ⟨by rfl, fun w' hS => by go_simp⟩) hHeld ?_
    simp only [Act.put, List.getElem_toArray, List.getElem_cons_zero, List.getElem_cons_succ, List.setIfInBounds_toArray, List.set_cons_zero, List.set_cons_succ]
    refine wpAnyH_take (i := 5) (v := .pointer (some ⟨w.heap.size, 0, none⟩)) rfl (by kernel_rfl) (by kernel_rfl) (by kernel_rfl) (fun _ _ _ h => h) (Or.inl ⟨by rfl, fun w' hS => by go_simp⟩) hHeld ?_
    simp only [Act.put, List.getElem_toArray, List.getElem_cons_zero, List.getElem_cons_succ, List.setIfInBounds_toArray, List.set_cons_zero, List.set_cons_succ]
    refine wpAnyH_take (i := 6) (v := .agg (ints v.id).toArray) rfl (by kernel_rfl) (by kernel_rfl) (by kernel_rfl) (fun _ _ _ h => h) (yieldsIf_load_mid (by rfl) 49 (.tmp 48) rfl w.heap.size (0) (by rfl) (ints v.id) _ (fun w' hS => hS) Try.underlying49 rfl (by rw [ints_len, (show v.id.length = 4 from rfl)]; exact info_vid)) hHeld ?_
    simp only [Act.put, List.getElem_toArray, List.getElem_cons_zero, List.getElem_cons_succ, List.setIfInBounds_toArray, List.set_cons_zero, List.set_cons_succ]
    refine wpAnyH_take (i := 7) (v := .slice a1 mn c1x) rfl (by kernel_rfl) (by kernel_rfl) (by kernel_rfl) (fun _ _ _ h => h) (Or.inl ⟨by rfl, fun w' hS => by go_simp⟩) hHeld ?_
    simp only [Act.put, List.getElem_toArray, List.getElem_cons_zero, List.getElem_cons_succ, List.setIfInBounds_toArray, List.set_cons_zero, List.set_cons_succ]
    refine wpAnyH_take (i := 8) (v := .agg #[.int .i64 v.ep, .int .i64 v.ld, .int .i64 v.ic, .int .i64 v.cd, .slice a1 mn c1x]) rfl (by kernel_rfl) (by kernel_rfl) (by kernel_rfl) (fun _ _ _ h => h) (Or.inl ⟨by rfl, fun w' hS => by exact run_buildop 52 _ rfl _ (by kernel_rfl)⟩) hHeld ?_
    simp only [Act.put, List.getElem_toArray, List.getElem_cons_zero, List.getElem_cons_succ, List.setIfInBounds_toArray, List.set_cons_zero, List.set_cons_succ]
    refine wpAnyH_ready (rs := [4, 9]) (by kernel_rfl) (by simp) ?_
    refine AllReadyH.cons rfl (fun K hK => ?_) (AllReadyH.cons rfl (fun K hK => ?_) AllReadyH.nil)
    · skip
      go_simp
      refine hK.out _ _ HEi.out (fun hHeld => ?_)
      clear hK K
      refine wpAnyH_ready (rs := [9]) (by kernel_rfl) (by simp) ?_
      refine AllReadyH.cons rfl (fun K hK => ?_) AllReadyH.nil
      go_simp
      refine hK.out _ _ HFi.out (fun hHeld => ?_)
      clear hK K
      refine wpAnyH_ready (rs := [10]) (by kernel_rfl) (by simp) ?_
      refine AllReadyH.cons rfl (fun K hK => ?_) AllReadyH.nil
      split
      · skip
        refine wp_app_v (B := B) (.tmp 47) (.tmp 52) rfl (.slice R.wo (m + 1) R.wc) ((m + 1)) R.es rfl HRF.out HBB.out E1.heap.size (⟨v, a1, mn, c1x⟩ : Ve) rfl HF1b.out (by omega) ?_
        intro v2 G1 HO2x HGr HAt
        have HO2 : Hid (G1.ownsRow B 52 5 v2 (m + 1 + 1) (flE (R.es ++ [(⟨v, a1, mn, c1x⟩ : Ve)]))) := HO2x.out
        clear HO2x
        obtain ⟨a2, c2, rfl⟩ := own_shape HO2.out
        have HKg : Hid (Kept F1 G1 (fun j => some j = (Value.slice R.wo (m + 1) R.wc).ownBlock)) := Kept.ofGrown HGr.out
        have g1 : G1.cell? ⟨R.b, 1, none⟩ = some (.slice R.wo (m + 1) R.wc) := Kept.cell HKg.out f1c HnR.out
        have gz : G1.frozen? ⟨R.b, 1, none⟩ = false := frozen_of_row G1 _ 1 _ _ (HKg.out.obj (HOkE.out.still HBEF.out).blk HnR.out)
        have HGi : Hid (G1.rangeAt w.heap.size 0 (ints v.id)) := Kept.range HKg.out HFi.out HnX.out
        refine hK.out _ _ HGi.out (fun hHeld => ?_)
        clear hK K
        refine wpAnyH_take (i := 11) (v := .pointer (some ⟨R.b, 0, none⟩)) rfl (by kernel_rfl) (by kernel_rfl) (by kernel_rfl) (fun _ _ _ h => h) (Or.inl ⟨by rfl, fun w' hS => by go_simp⟩) hHeld ?_
        simp only [Act.put, List.getElem_toArray, List.getElem_cons_zero, List.getElem_cons_succ, List.setIfInBounds_toArray, List.set_cons_zero, List.set_cons_succ]
        refine wpAnyH_take (i := 12) (v := .pointer (some ⟨R.b, 1, none⟩)) rfl (by kernel_rfl) (by kernel_rfl) (by kernel_rfl) (fun _ _ _ h => h) (Or.inl ⟨by rfl, fun w' hS => by go_simp⟩) hHeld ?_
        simp only [Act.put, List.getElem_toArray, List.getElem_cons_zero, List.getElem_cons_succ, List.setIfInBounds_toArray, List.set_cons_zero, List.set_cons_succ]
        refine wpAnyH_ready (rs := [13]) (by kernel_rfl) (by simp) ?_
        refine AllReadyH.cons rfl (fun K hK => ?_) AllReadyH.nil
        obtain ⟨H1, hH1⟩ : ∃ H1, G1.setCell ⟨R.b, 1, none⟩ (.slice a2 (m + 1 + 1) c2) = H1 := ⟨_, rfl⟩
        have HKh : Hid (Kept G1 H1 (fun j => j = R.b)) := by rw [← hH1]; exact kset (P := fun j => j = R.b) _ _ _ _ rfl
        have hXR : w.heap.size ≠ R.b := by have := lt_heap h.blk; omega
        have HHi : Hid (H1.rangeAt w.heap.size 0 (ints v.id)) := Kept.range HKh.out HGi.out hXR
        have hLe : (R.es ++ [(⟨v, a1, mn, c1x⟩ : Ve)]).length = m + 1 + 1 := by rw [List.length_append, H0.out]; rfl
        have hGb := HKg.out.obj (HOkE.out.still HBEF.out).blk HnR.out
        have HKey : Hid (∀ (t sz n : Nat) (u : Value) (l : List Value), F1.ownsRow B t sz u n l → t ≠ 52 → t ≠ 109 → H1.ownsRow B t sz u n l) := fun t sz n u l ho h1 h2 => by
          have g2 := own_keepT ho HKg.out (fun g cur hg e => by
            obtain ⟨cur2, hc⟩ := own_type HRF.out e.symm
            exact ty_ne hg hc h1 rfl)
          exact own_keepT g2 HKh.out (fun g cur hg e => by subst e; exact ty_ne hg hGb h2 rfl)
        have HR' : Hid ((⟨R.b, R.v, R.vo, R.vc, a2, c2, R.es ++ [(⟨v, a1, mn, c1x⟩ : Ve)]⟩ : Rq).Ok H1 B) := by
          have hOF := HOkE.out.still HBEF.out
          refine ⟨?_, h.bB, HKey.out _ _ _ _ _ hOF.vot (by decide) (by decide), h.ok, ?_, fun e he => ?_⟩
          · show H1.heap[R.b]? = some (.cells #[.slice R.vo R.v.length R.vc, .slice a2 (R.es ++ [(⟨v, a1, mn, c1x⟩ : Ve)]).length c2] 109 (0, 0))
            rw [hLe, ← hH1]
            exact blk_set hGb rfl
          · show H1.ownsRow B 52 5 (.slice a2 (R.es ++ [(⟨v, a1, mn, c1x⟩ : Ve)]).length c2) (R.es ++ [(⟨v, a1, mn, c1x⟩ : Ve)]).length (flE (R.es ++ [(⟨v, a1, mn, c1x⟩ : Ve)]))
            rw [hLe]
            exact own_keepT HO2.out HKh.out (fun g cur hg e => by subst e; exact ty_ne hg hGb (by decide) rfl)
          · rcases List.mem_append.1 he with he | he
            · exact ⟨HKey.out _ _ _ _ _ (hOF.mem e he).1 (by decide) (by decide), (hOF.mem e he).2⟩
            · rw [List.mem_singleton.1 he]
              exact ⟨HKey.out _ _ _ _ _ (own_still (own_lower HO1.out hBw) HBEF.out) (by decide) (by decide), ⟨s, HVp.out⟩, hm⟩
        have HKall : Hid (Kept w H1 (fun j => j = R.b ∨ some j = (Value.slice R.wo R.es.length R.wc).ownBlock)) := by
          have eB : (Value.slice R.wo (m + 1) R.wc).ownBlock = (Value.slice R.wo R.es.length R.wc).ownBlock := by cases R.wo <;> rfl
          exact ((Kept.ofBelow (bstep (bstep HBW.out HBE.out) HBEF.out) _).trans (HKg.out.mono fun k _ hp => .inr (by rw [← eB]; exact hp))).trans (HKh.out.mono fun k _ hp => .inl hp)
        have HRd : Hid (Rd3 H1 mo mn mc v.ms) := by
          have r1 := (HRM.out.still HBE.out).still HBEF.out
          refine (r1.keep HKg.out fun b off e => ?_).keep HKh.out fun b off e => ?_
          · rw [HMo.out] at e
            have eB : (Value.slice R.wo (m + 1) R.wc).ownBlock = (Value.slice R.wo R.es.length R.wc).ownBlock := by cases R.wo <;> rfl
            rw [eB]
            exact (hnb b off e).2
          · rw [HMo.out] at e
            exact (hnb b off e).1
        have HVr : Hid (H1.rangeAt w.heap.size 0 [.int .i64 v.ep, .int .i64 v.ld, .int .i64 v.ic, .int .i64 v.cd, .slice mo mn mc]) := Kept.range HKh.out (Kept.range HKg.out (below_range HBEF.out (below_range HBE.out HQr.out)) HnX.out) hXR
        have h1c0 : H1.cell? ⟨R.b, 0, none⟩ = some (.slice R.vo R.v.length R.vc) := HR'.out.c0
        have HP : Hid (∀ V, Below H1.heap.size H1 V → Calls Try.prog 71 #[.agg #[.int .i64 v.ep, .int .i64 v.ld, .int .i64 v.ic, .int .i64 v.cd, .slice mo mn mc]] V fun e w' => e = .returned (.int .i64 (s : Int)) ∧ Below V.heap.size V w') := fun V hV => rpids_any (HRd.out.still hV) R.v.length s h16 (viewP_memP HVp.out) hs16 (by omega)
        have HWn : Hid (∀ V, Below H1.heap.size H1 V → Calls Try.prog 35 #[.slice R.vo R.v.length R.vc, .int .i64 (s : Int)] V fun e w' => e = .returned (.bool (wins R.v s)) ∧ V = w') := fun V hV => by
          have := rwins_any (HR'.out.votes.still hV) (okI_zi h.ok) s hs16
          rw [nv_zi] at this
          exact this
        have hmap : Hid ((R.es ++ [(⟨v, a1, mn, c1x⟩ : Ve)]).map (·.v) = R.es.map (·.v) ++ [v]) := (show _ = _ from by simp)
        have hfre : Hid (∀ e ∈ R.es ++ [(⟨v, a1, mn, c1x⟩ : Ve)], e ∈ R.es ∨ ∀ g, (Value.slice e.mo e.mn e.mc).ownBlock = some g → w.heap.size ≤ g) := fun e he => (List.mem_append.1 he).elim .inl (fun h1 => .inr (by rw [List.mem_singleton.1 h1]; exact fun g hg => (World.ownsRow.lt HO1.out g hg).1))
        have hrow2 : Hid (∀ g, (Value.slice a2 (R.es ++ [(⟨v, a1, mn, c1x⟩ : Ve)]).length c2).ownBlock = some g → some g = (Value.slice R.wo R.es.length R.wc).ownBlock ∨ w.heap.size ≤ g) := fun g hg => (HAt.out g (by rw [← hg]; cases a2 <;> rfl)).elim (fun e => .inl (e.symm.trans (by cases R.wo <;> rfl))) (fun e => .inr (by rw [e]; exact Nat.le_trans HsV.out (Nat.le_trans HBE.out.size HBEF.out.size)))
        go_simp
        try rw [hH1]
        refine hK.out _ _ HHi.out (fun hHeld => ?_)
        clear hK K
        refine wpAnyH_done (by kernel_rfl) ?_ _
        clear hHeld hH1 hGb g1 gz hLe
        go_wp2
        refine wp_region_held_drew (S := (fun w' => w'.cell? ⟨R.b, 0, none⟩ = some (.slice R.vo R.v.length R.vc) ∧ w'.rangeAt w.heap.size 0 [.int .i64 v.ep, .int .i64 v.ld, .int .i64 v.ic, .int .i64 v.cd, .slice mo mn mc])) (by kernel_rfl) ⟨below_at (Below.refl _ _).drew h1c0, below_range (Below.refl _ _).drew HVr.out⟩ (fun hHeld => ?_)
        simp only [Act.put, List.size_toArray, List.length_cons, List.length_nil, Nat.zero_add]
        refine wpAnyH_take (i := 0) (v := .pointer (some ⟨R.b, 0, none⟩)) rfl (by kernel_rfl) (by kernel_rfl) (by kernel_rfl) (fun _ _ _ h => h) (Or.inl ⟨by rfl, fun w' hS => by go_simp⟩) hHeld ?_
        simp only [Act.put, List.getElem_toArray, List.getElem_cons_zero, List.getElem_cons_succ, List.setIfInBounds_toArray, List.set_cons_zero, List.set_cons_succ]
        refine wpAnyH_take (i := 1) (v := .pointer (some ⟨R.b, 0, none⟩)) rfl (by kernel_rfl) (by kernel_rfl) (by kernel_rfl) (fun _ _ _ h => h) (Or.inl ⟨by rfl, fun w' hS => by go_simp⟩) hHeld ?_
        simp only [Act.put, List.getElem_toArray, List.getElem_cons_zero, List.getElem_cons_succ, List.setIfInBounds_toArray, List.set_cons_zero, List.set_cons_succ]
        refine wpAnyH_take (i := 2) (v := .pointer (some ⟨R.b, 0, none⟩)) rfl (by kernel_rfl) (by kernel_rfl) (by kernel_rfl) (fun _ _ _ h => h) (Or.inl ⟨by rfl, fun w' hS => by go_simp⟩) hHeld ?_
        simp only [Act.put, List.getElem_toArray, List.getElem_cons_zero, List.getElem_cons_succ, List.setIfInBounds_toArray, List.set_cons_zero, List.set_cons_succ]
        refine wpAnyH_take (i := 3) (v := .slice R.vo R.v.length R.vc) rfl (by kernel_rfl) (by kernel_rfl) (by kernel_rfl) (fun _ _ _ h => h) (Or.inl ⟨by rfl, fun w' hS => by (obtain ⟨s0, s1⟩ := hS; go_simp)⟩) hHeld ?_
        simp only [Act.put, List.getElem_toArray, List.getElem_cons_zero, List.getElem_cons_succ, List.setIfInBounds_toArray, List.set_cons_zero, List.set_cons_succ]
        refine wpAnyH_take (i := 4) (v := .agg ([.int .i64 v.ep, .int .i64 v.ld, .int .i64 v.ic, .int .i64 v.cd, .slice mo mn mc] : List Value).toArray) rfl (by kernel_rfl) (by kernel_rfl) (by kernel_rfl) (fun _ _ _ h => h) (yieldsIf_load_mid (by rfl) 52 (.tmp 3) rfl w.heap.size 0 (by rfl) [.int .i64 v.ep, .int .i64 v.ld, .int .i64 v.ic, .int .i64 v.cd, .slice mo mn mc] _ (fun w' hS => hS.2) Try.underlying52 rfl info_view) hHeld ?_
        simp only [Act.put, List.getElem_toArray, List.getElem_cons_zero, List.getElem_cons_succ, List.setIfInBounds_toArray, List.set_cons_zero, List.set_cons_succ]
        refine wpAnyH_ready (rs := [5]) (by kernel_rfl) (by simp) ?_
        refine AllReadyH.cons rfl (fun K hK => ?_) AllReadyH.nil
        go_simp
        refine (HP.out _ (Below.refl _ _).drew).mono ?_
        rintro e w5 ⟨rfl, hb5⟩
        refine hK.out _ _ ⟨below_at hb5 (below_at (Below.refl _ _).drew h1c0), below_range hb5 (below_range (Below.refl _ _).drew HVr.out)⟩ (fun hHeld => ?_)
        clear hK K
        refine wpAnyH_ready (rs := [6]) (by kernel_rfl) (by simp) ?_
        refine AllReadyH.cons rfl (fun K hK => ?_) AllReadyH.nil
        go_simp
        refine (HWn.out _ (bstep (Below.refl _ _).drew hb5)).mono ?_
        rintro e w6 ⟨rfl, rfl⟩
        refine hK.out _ _ ⟨below_at hb5 (below_at (Below.refl _ _).drew h1c0), below_range hb5 (below_range (Below.refl _ _).drew HVr.out)⟩ (fun hHeld => ?_)
        clear hK K
        refine wpAnyH_take (i := 7) (v := .bool (wins R.v s)) rfl (by kernel_rfl) (by kernel_rfl) (by kernel_rfl) (fun _ _ _ h => h) (Or.inl ⟨by rfl, fun w' hS => by go_simp⟩) hHeld ?_
        simp only [Act.put, List.getElem_toArray, List.getElem_cons_zero, List.getElem_cons_succ, List.setIfInBounds_toArray, List.set_cons_zero, List.set_cons_succ]
        refine wpAnyH_take (i := 8) (v := .int .i64 0) rfl (by kernel_rfl) (by kernel_rfl) (by kernel_rfl) (fun _ _ _ h => h) (Or.inl ⟨by rfl, fun w' hS => by go_simp⟩) hHeld ?_
        simp only [Act.put, List.getElem_toArray, List.getElem_cons_zero, List.getElem_cons_succ, List.setIfInBounds_toArray, List.set_cons_zero, List.set_cons_succ]
        refine wpAnyH_done (by kernel_rfl) ?_ _
        clear hHeld
        go_wp2
        (try simp only [Exit.inBlock, Exit.then])
        refine bodyPost_ret (results_tmp2 rfl _ _ _) rfl ?_
        exact ⟨_, rfl, HR'.out.still (bstep (Below.refl _ _).drew hb5), rfl, rfl, hmap.out, hfre.out, hrow2.out, HKall.out.trans (Kept.ofBelow (bstep (Below.refl _ _).drew hb5) _)⟩
      · rename_i hne2
        exact absurd rfl hne2
    · skip
      go_simp
      refine hK.out _ _ HFi.out (fun hHeld => ?_)
      clear hK K
      refine wpAnyH_ready (rs := [4]) (by kernel_rfl) (by simp) ?_
      refine AllReadyH.cons rfl (fun K hK => ?_) AllReadyH.nil
      go_simp
      refine hK.out _ _ HFi.out (fun hHeld => ?_)
      clear hK K
      refine wpAnyH_ready (rs := [10]) (by kernel_rfl) (by simp) ?_
      refine AllReadyH.cons rfl (fun K hK => ?_) AllReadyH.nil
      split
      · skip
        refine wp_app_v (B := B) (.tmp 47) (.tmp 52) rfl (.slice R.wo (m + 1) R.wc) ((m + 1)) R.es rfl HRF.out HBB.out E1.heap.size (⟨v, a1, mn, c1x⟩ : Ve) rfl HF1b.out (by omega) ?_
        intro v2 G1 HO2x HGr HAt
        have HO2 : Hid (G1.ownsRow B 52 5 v2 (m + 1 + 1) (flE (R.es ++ [(⟨v, a1, mn, c1x⟩ : Ve)]))) := HO2x.out
        clear HO2x
        obtain ⟨a2, c2, rfl⟩ := own_shape HO2.out
        have HKg : Hid (Kept F1 G1 (fun j => some j = (Value.slice R.wo (m + 1) R.wc).ownBlock)) := Kept.ofGrown HGr.out
        have g1 : G1.cell? ⟨R.b, 1, none⟩ = some (.slice R.wo (m + 1) R.wc) := Kept.cell HKg.out f1c HnR.out
        have gz : G1.frozen? ⟨R.b, 1, none⟩ = false := frozen_of_row G1 _ 1 _ _ (HKg.out.obj (HOkE.out.still HBEF.out).blk HnR.out)
        have HGi : Hid (G1.rangeAt w.heap.size 0 (ints v.id)) := Kept.range HKg.out HFi.out HnX.out
        refine hK.out _ _ HGi.out (fun hHeld => ?_)
        clear hK K
        refine wpAnyH_take (i := 11) (v := .pointer (some ⟨R.b, 0, none⟩)) rfl (by kernel_rfl) (by kernel_rfl) (by kernel_rfl) (fun _ _ _ h => h) (Or.inl ⟨by rfl, fun w' hS => by go_simp⟩) hHeld ?_
        simp only [Act.put, List.getElem_toArray, List.getElem_cons_zero, List.getElem_cons_succ, List.setIfInBounds_toArray, List.set_cons_zero, List.set_cons_succ]
        refine wpAnyH_take (i := 12) (v := .pointer (some ⟨R.b, 1, none⟩)) rfl (by kernel_rfl) (by kernel_rfl) (by kernel_rfl) (fun _ _ _ h => h) (Or.inl ⟨by rfl, fun w' hS => by go_simp⟩) hHeld ?_
        simp only [Act.put, List.getElem_toArray, List.getElem_cons_zero, List.getElem_cons_succ, List.setIfInBounds_toArray, List.set_cons_zero, List.set_cons_succ]
        refine wpAnyH_ready (rs := [13]) (by kernel_rfl) (by simp) ?_
        refine AllReadyH.cons rfl (fun K hK => ?_) AllReadyH.nil
        obtain ⟨H1, hH1⟩ : ∃ H1, G1.setCell ⟨R.b, 1, none⟩ (.slice a2 (m + 1 + 1) c2) = H1 := ⟨_, rfl⟩
        have HKh : Hid (Kept G1 H1 (fun j => j = R.b)) := by rw [← hH1]; exact kset (P := fun j => j = R.b) _ _ _ _ rfl
        have hXR : w.heap.size ≠ R.b := by have := lt_heap h.blk; omega
        have HHi : Hid (H1.rangeAt w.heap.size 0 (ints v.id)) := Kept.range HKh.out HGi.out hXR
        have hLe : (R.es ++ [(⟨v, a1, mn, c1x⟩ : Ve)]).length = m + 1 + 1 := by rw [List.length_append, H0.out]; rfl
        have hGb := HKg.out.obj (HOkE.out.still HBEF.out).blk HnR.out
        have HKey : Hid (∀ (t sz n : Nat) (u : Value) (l : List Value), F1.ownsRow B t sz u n l → t ≠ 52 → t ≠ 109 → H1.ownsRow B t sz u n l) := fun t sz n u l ho h1 h2 => by
          have g2 := own_keepT ho HKg.out (fun g cur hg e => by
            obtain ⟨cur2, hc⟩ := own_type HRF.out e.symm
            exact ty_ne hg hc h1 rfl)
          exact own_keepT g2 HKh.out (fun g cur hg e => by subst e; exact ty_ne hg hGb h2 rfl)
        have HR' : Hid ((⟨R.b, R.v, R.vo, R.vc, a2, c2, R.es ++ [(⟨v, a1, mn, c1x⟩ : Ve)]⟩ : Rq).Ok H1 B) := by
          have hOF := HOkE.out.still HBEF.out
          refine ⟨?_, h.bB, HKey.out _ _ _ _ _ hOF.vot (by decide) (by decide), h.ok, ?_, fun e he => ?_⟩
          · show H1.heap[R.b]? = some (.cells #[.slice R.vo R.v.length R.vc, .slice a2 (R.es ++ [(⟨v, a1, mn, c1x⟩ : Ve)]).length c2] 109 (0, 0))
            rw [hLe, ← hH1]
            exact blk_set hGb rfl
          · show H1.ownsRow B 52 5 (.slice a2 (R.es ++ [(⟨v, a1, mn, c1x⟩ : Ve)]).length c2) (R.es ++ [(⟨v, a1, mn, c1x⟩ : Ve)]).length (flE (R.es ++ [(⟨v, a1, mn, c1x⟩ : Ve)]))
            rw [hLe]
            exact own_keepT HO2.out HKh.out (fun g cur hg e => by subst e; exact ty_ne hg hGb (by decide) rfl)
          · rcases List.mem_append.1 he with he | he
            · exact ⟨HKey.out _ _ _ _ _ (hOF.mem e he).1 (by decide) (by decide), (hOF.mem e he).2⟩
            · rw [List.mem_singleton.1 he]
              exact ⟨HKey.out _ _ _ _ _ (own_still (own_lower HO1.out hBw) HBEF.out) (by decide) (by decide), ⟨s, HVp.out⟩, hm⟩
        have HKall : Hid (Kept w H1 (fun j => j = R.b ∨ some j = (Value.slice R.wo R.es.length R.wc).ownBlock)) := by
          have eB : (Value.slice R.wo (m + 1) R.wc).ownBlock = (Value.slice R.wo R.es.length R.wc).ownBlock := by cases R.wo <;> rfl
          exact ((Kept.ofBelow (bstep (bstep HBW.out HBE.out) HBEF.out) _).trans (HKg.out.mono fun k _ hp => .inr (by rw [← eB]; exact hp))).trans (HKh.out.mono fun k _ hp => .inl hp)
        have HRd : Hid (Rd3 H1 mo mn mc v.ms) := by
          have r1 := (HRM.out.still HBE.out).still HBEF.out
          refine (r1.keep HKg.out fun b off e => ?_).keep HKh.out fun b off e => ?_
          · rw [HMo.out] at e
            have eB : (Value.slice R.wo (m + 1) R.wc).ownBlock = (Value.slice R.wo R.es.length R.wc).ownBlock := by cases R.wo <;> rfl
            rw [eB]
            exact (hnb b off e).2
          · rw [HMo.out] at e
            exact (hnb b off e).1
        have HVr : Hid (H1.rangeAt w.heap.size 0 [.int .i64 v.ep, .int .i64 v.ld, .int .i64 v.ic, .int .i64 v.cd, .slice mo mn mc]) := Kept.range HKh.out (Kept.range HKg.out (below_range HBEF.out (below_range HBE.out HQr.out)) HnX.out) hXR
        have h1c0 : H1.cell? ⟨R.b, 0, none⟩ = some (.slice R.vo R.v.length R.vc) := HR'.out.c0
        have HP : Hid (∀ V, Below H1.heap.size H1 V → Calls Try.prog 71 #[.agg #[.int .i64 v.ep, .int .i64 v.ld, .int .i64 v.ic, .int .i64 v.cd, .slice mo mn mc]] V fun e w' => e = .returned (.int .i64 (s : Int)) ∧ Below V.heap.size V w') := fun V hV => rpids_any (HRd.out.still hV) R.v.length s h16 (viewP_memP HVp.out) hs16 (by omega)
        have HWn : Hid (∀ V, Below H1.heap.size H1 V → Calls Try.prog 35 #[.slice R.vo R.v.length R.vc, .int .i64 (s : Int)] V fun e w' => e = .returned (.bool (wins R.v s)) ∧ V = w') := fun V hV => by
          have := rwins_any (HR'.out.votes.still hV) (okI_zi h.ok) s hs16
          rw [nv_zi] at this
          exact this
        have hmap : Hid ((R.es ++ [(⟨v, a1, mn, c1x⟩ : Ve)]).map (·.v) = R.es.map (·.v) ++ [v]) := (show _ = _ from by simp)
        have hfre : Hid (∀ e ∈ R.es ++ [(⟨v, a1, mn, c1x⟩ : Ve)], e ∈ R.es ∨ ∀ g, (Value.slice e.mo e.mn e.mc).ownBlock = some g → w.heap.size ≤ g) := fun e he => (List.mem_append.1 he).elim .inl (fun h1 => .inr (by rw [List.mem_singleton.1 h1]; exact fun g hg => (World.ownsRow.lt HO1.out g hg).1))
        have hrow2 : Hid (∀ g, (Value.slice a2 (R.es ++ [(⟨v, a1, mn, c1x⟩ : Ve)]).length c2).ownBlock = some g → some g = (Value.slice R.wo R.es.length R.wc).ownBlock ∨ w.heap.size ≤ g) := fun g hg => (HAt.out g (by rw [← hg]; cases a2 <;> rfl)).elim (fun e => .inl (e.symm.trans (by cases R.wo <;> rfl))) (fun e => .inr (by rw [e]; exact Nat.le_trans HsV.out (Nat.le_trans HBE.out.size HBEF.out.size)))
        go_simp
        try rw [hH1]
        refine hK.out _ _ HHi.out (fun hHeld => ?_)
        clear hK K
        refine wpAnyH_done (by kernel_rfl) ?_ _
        clear hHeld hH1 hGb g1 gz hLe
        go_wp2
        refine wp_region_held_drew (S := (fun w' => w'.cell? ⟨R.b, 0, none⟩ = some (.slice R.vo R.v.length R.vc) ∧ w'.rangeAt w.heap.size 0 [.int .i64 v.ep, .int .i64 v.ld, .int .i64 v.ic, .int .i64 v.cd, .slice mo mn mc])) (by kernel_rfl) ⟨below_at (Below.refl _ _).drew h1c0, below_range (Below.refl _ _).drew HVr.out⟩ (fun hHeld => ?_)
        simp only [Act.put, List.size_toArray, List.length_cons, List.length_nil, Nat.zero_add]
        refine wpAnyH_take (i := 0) (v := .pointer (some ⟨R.b, 0, none⟩)) rfl (by kernel_rfl) (by kernel_rfl) (by kernel_rfl) (fun _ _ _ h => h) (Or.inl ⟨by rfl, fun w' hS => by go_simp⟩) hHeld ?_
        simp only [Act.put, List.getElem_toArray, List.getElem_cons_zero, List.getElem_cons_succ, List.setIfInBounds_toArray, List.set_cons_zero, List.set_cons_succ]
        refine wpAnyH_take (i := 1) (v := .pointer (some ⟨R.b, 0, none⟩)) rfl (by kernel_rfl) (by kernel_rfl) (by kernel_rfl) (fun _ _ _ h => h) (Or.inl ⟨by rfl, fun w' hS => by go_simp⟩) hHeld ?_
        simp only [Act.put, List.getElem_toArray, List.getElem_cons_zero, List.getElem_cons_succ, List.setIfInBounds_toArray, List.set_cons_zero, List.set_cons_succ]
        refine wpAnyH_take (i := 2) (v := .pointer (some ⟨R.b, 0, none⟩)) rfl (by kernel_rfl) (by kernel_rfl) (by kernel_rfl) (fun _ _ _ h => h) (Or.inl ⟨by rfl, fun w' hS => by go_simp⟩) hHeld ?_
        simp only [Act.put, List.getElem_toArray, List.getElem_cons_zero, List.getElem_cons_succ, List.setIfInBounds_toArray, List.set_cons_zero, List.set_cons_succ]
        refine wpAnyH_take (i := 3) (v := .slice R.vo R.v.length R.vc) rfl (by kernel_rfl) (by kernel_rfl) (by kernel_rfl) (fun _ _ _ h => h) (Or.inl ⟨by rfl, fun w' hS => by (obtain ⟨s0, s1⟩ := hS; go_simp)⟩) hHeld ?_
        simp only [Act.put, List.getElem_toArray, List.getElem_cons_zero, List.getElem_cons_succ, List.setIfInBounds_toArray, List.set_cons_zero, List.set_cons_succ]
        refine wpAnyH_take (i := 4) (v := .agg ([.int .i64 v.ep, .int .i64 v.ld, .int .i64 v.ic, .int .i64 v.cd, .slice mo mn mc] : List Value).toArray) rfl (by kernel_rfl) (by kernel_rfl) (by kernel_rfl) (fun _ _ _ h => h) (yieldsIf_load_mid (by rfl) 52 (.tmp 3) rfl w.heap.size 0 (by rfl) [.int .i64 v.ep, .int .i64 v.ld, .int .i64 v.ic, .int .i64 v.cd, .slice mo mn mc] _ (fun w' hS => hS.2) Try.underlying52 rfl info_view) hHeld ?_
        simp only [Act.put, List.getElem_toArray, List.getElem_cons_zero, List.getElem_cons_succ, List.setIfInBounds_toArray, List.set_cons_zero, List.set_cons_succ]
        refine wpAnyH_ready (rs := [5]) (by kernel_rfl) (by simp) ?_
        refine AllReadyH.cons rfl (fun K hK => ?_) AllReadyH.nil
        go_simp
        refine (HP.out _ (Below.refl _ _).drew).mono ?_
        rintro e w5 ⟨rfl, hb5⟩
        refine hK.out _ _ ⟨below_at hb5 (below_at (Below.refl _ _).drew h1c0), below_range hb5 (below_range (Below.refl _ _).drew HVr.out)⟩ (fun hHeld => ?_)
        clear hK K
        refine wpAnyH_ready (rs := [6]) (by kernel_rfl) (by simp) ?_
        refine AllReadyH.cons rfl (fun K hK => ?_) AllReadyH.nil
        go_simp
        refine (HWn.out _ (bstep (Below.refl _ _).drew hb5)).mono ?_
        rintro e w6 ⟨rfl, rfl⟩
        refine hK.out _ _ ⟨below_at hb5 (below_at (Below.refl _ _).drew h1c0), below_range hb5 (below_range (Below.refl _ _).drew HVr.out)⟩ (fun hHeld => ?_)
        clear hK K
        refine wpAnyH_take (i := 7) (v := .bool (wins R.v s)) rfl (by kernel_rfl) (by kernel_rfl) (by kernel_rfl) (fun _ _ _ h => h) (Or.inl ⟨by rfl, fun w' hS => by go_simp⟩) hHeld ?_
        simp only [Act.put, List.getElem_toArray, List.getElem_cons_zero, List.getElem_cons_succ, List.setIfInBounds_toArray, List.set_cons_zero, List.set_cons_succ]
        refine wpAnyH_take (i := 8) (v := .int .i64 0) rfl (by kernel_rfl) (by kernel_rfl) (by kernel_rfl) (fun _ _ _ h => h) (Or.inl ⟨by rfl, fun w' hS => by go_simp⟩) hHeld ?_
        simp only [Act.put, List.getElem_toArray, List.getElem_cons_zero, List.getElem_cons_succ, List.setIfInBounds_toArray, List.set_cons_zero, List.set_cons_succ]
        refine wpAnyH_done (by kernel_rfl) ?_ _
        clear hHeld
        go_wp2
        (try simp only [Exit.inBlock, Exit.then])
        refine bodyPost_ret (results_tmp2 rfl _ _ _) rfl ?_
        exact ⟨_, rfl, HR'.out.still (bstep (Below.refl _ _).drew hb5), rfl, rfl, hmap.out, hfre.out, hrow2.out, HKall.out.trans (Kept.ofBelow (bstep (Below.refl _ _).drew hb5) _)⟩
      · rename_i hne2
        exact absurd rfl hne2
end
end Go.Proofs.Ytcieinejjkddfab.Qm
