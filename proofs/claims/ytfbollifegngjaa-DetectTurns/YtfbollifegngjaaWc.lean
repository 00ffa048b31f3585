import Derived.Test.YtfbollifegngjaaWb
namespace Go.Proofs.Ytfbollifegngjaa.Dt
open Go.RowKit
set_option linter.unusedVariables false
set_option maxRecDepth 100000
set_option linter.unusedSimpArgs false
section
variable {R R' : Rf} {w w' W V : World} {B m : Nat}
theorem put8 {t : TypeId} {k : Nat} {z0 z1 z2 z3 z4 z5 z6 z7 : Value} (v0 v1 v2 v3 v4 v5 v6 v7 : Value) (h : W.heap[k]? = some (.cells #[z0, z1, z2, z3, z4, z5, z6, z7] t (0, 0))) : ((((((((W.setCell ⟨k, 0, none⟩ v0).setCell ⟨k, 1, none⟩ v1).setCell ⟨k, 2, none⟩ v2).setCell ⟨k, 3, none⟩ v3).setCell ⟨k, 4, none⟩ v4).setCell ⟨k, 5, none⟩ v5).setCell ⟨k, 6, none⟩ v6).setCell ⟨k, 7, none⟩ v7).heap[k]? = some (.cells #[v0, v1, v2, v3, v4, v5, v6, v7] t (0, 0)) := (blk_set (cs' := #[v0, v1, v2, v3, v4, v5, v6, v7]) (blk_set (cs' := #[v0, v1, v2, v3, v4, v5, v6, z7]) (blk_set (cs' := #[v0, v1, v2, v3, v4, v5, z6, z7]) (blk_set (cs' := #[v0, v1, v2, v3, v4, z5, z6, z7]) (blk_set (cs' := #[v0, v1, v2, v3, z4, z5, z6, z7]) (blk_set (cs' := #[v0, v1, v2, z3, z4, z5, z6, z7]) (blk_set (cs' := #[v0, v1, z2, z3, z4, z5, z6, z7]) (blk_set (cs' := #[v0, z1, z2, z3, z4, z5, z6, z7]) h rfl) rfl) rfl) rfl) rfl) rfl) rfl) rfl)
theorem cell_of {t : TypeId} {k : Nat} {cs : Array Value} (h : w.heap[k]? = some (.cells cs t (0, 0))) (i : Nat) {v : Value} (e : cs[i]? = some v) : w.cell? ⟨k, i, none⟩ = some v := (blk_cell h i).trans e
def Rf.of (R : Rf) (q : Int) : Py := ofP R.base R.step R.lim q R.all
def Rf.ofK (R : Rf) (q : Int) (k : Nat) : Py := ofP R.base R.step R.lim q (R.all.take k)
theorem ofK_next (R : Rf) (q : Int) (k : Nat) (hk : k < R.all.length) : R.ofK q (k + 1) = (R.ofK q k).next q R.step R.lim (R.all.getD k x0) := by
  unfold Rf.ofK
  have e2 : R.all[k]? = some (R.all.getD k x0) := by simp [List.getD, hk]
  rw [List.take_add_one, e2]
  exact ofP_app _ _ _ _ _ _
theorem ofK_in (h : R.Ok w B) (q : Int) (k : Nat) (hk : k ≤ R.all.length) : (R.ofK q k).In R.lim k := by
  obtain ⟨_, _, _, _, _, h5, h6, h7, h8, h9⟩ := h.num
  have := ofP_in (base := R.base) (step := R.step) (lim := R.lim) q h9 h7 ⟨h5, h6⟩ (R.all.take k)
  rw [List.length_take, Nat.min_eq_left hk] at this
  exact this
def pz : Py := ⟨0, 0, 0, 0, 0, false, false, false⟩
set_option maxHeartbeats 1000000 in
theorem of_any (h : R.Ok w B) (q : Int) (hA : R.all.length ≤ 2513169434917) : Calls Try.prog 51 #[.pointer (some ⟨R.b, 0, none⟩), .int .i64 q] w fun e w' => e = .returned (.agg (R.of q).cs) ∧ Below w.heap.size w w' := by
  have hnum := h.num
  generalize hW : (w.alloc (.cells #[.int .i64 0, .int .i64 0, .int .i64 0, .int .i64 0, .int .i64 0, .bool false, .bool false, .bool false] 96)).alloc (.cells #[.int .i64 0, .int .i64 0, .int .i64 0, .int .i64 R.base, .int .i64 0, .bool false, .bool false, .bool false] 96) = W
  have hbW : Below w.heap.size w W := by rw [← hW]; exact balloc (balloc (Below.refl _ w))
  have hk0 : PyAt W w.heap.size pz := by rw [← hW]; exact blk_alloc (heap_alloc_new w _)
  have hk1 : PyAt W (w.heap.size + 1) (py0 R.base) := by
    rw [← hW]
    have := heap_alloc_new (w.alloc (.cells #[.int .i64 0, .int .i64 0, .int .i64 0, .int .i64 0, .int .i64 0, .bool false, .bool false, .bool false] 96)) (.cells #[.int .i64 0, .int .i64 0, .int .i64 0, .int .i64 R.base, .int .i64 0, .bool false, .bool false, .bool false] 96)
    simpa [PyAt, Py.cs, py0] using this
  have hbW1 : Below w.heap.size w (w.alloc (.cells #[.int .i64 0, .int .i64 0, .int .i64 0, .int .i64 0, .int .i64 0, .bool false, .bool false, .bool false] 96)) := balloc (Below.refl _ w)
  have d3 := (h.still hbW1).cells.2.2.2.1
  have Hh : Hid (R.Ok w B) := h
  have H0 : Hid (PyAt W w.heap.size pz ∧ PyAt W (w.heap.size + 1) (py0 R.base) ∧ Below w.heap.size w W) := ⟨hk0, hk1, hbW⟩
  have c6 := (h.still hbW).cells.2.2.2.2.2.2
  have hRb := lt_heap h.blk
  clear h hbW hk0 hk1 hbW1
  go_enter Try.func51, Try.ntmps51
  go_wp2
  generalize hN : R.all.length = N at *
  go_loopw [6] (fun v6 wr => ∃ (k : Nat), k ≤ N ∧ v6 = .int .i64 (k : Int) ∧ PyAt wr (w.heap.size + 1) (R.ofK q k) ∧ PyAt wr w.heap.size pz ∧ Below w.heap.size w wr) (fun v6 _ => N - (intOf v6).toNat)
  case atStart => exact ⟨0, Nat.zero_le _, rfl, H0.out.2.1, H0.out.1, H0.out.2.2⟩
  case round =>
    obtain ⟨k, hk, rfl, hp, hz, hb⟩ := hrel
    have hR := Hh.out.still hb
    obtain ⟨e0, e1, e2, e3, e4, e5, e6⟩ := hR.cells
    rw [hN] at e6
    by_cases hlt : k < N
    · obtain ⟨g, hva, v0, v1, v2, v3, v4⟩ := hR.at (k := k) (by omega)
      have hnx := ofK_next R q k (by omega)
      have hin := ofK_in hR q k (by omega)
      generalize R.ofK q k = p at *
      generalize R.all.getD k x0 = x at *
      have i1 : (0 : Int) ≤ (k : Int) := Int.natCast_nonneg _
      have i2 : (k : Int) < (N : Int) := by omega
      generalize hX : wr.alloc (.cells x.cs 100) = X
      have hbX : Below wr.heap.size wr X := by rw [← hX]; exact balloc (Below.refl _ wr)
      have hkX : X.heap[wr.heap.size]? = some (.cells x.cs 100 (0, 0)) := by rw [← hX]; exact heap_alloc_new wr _
      have y0 : X.cell? ⟨wr.heap.size, 0, none⟩ = some (.int .i64 x.k) := blk_cell hkX 0
      have y1 : X.cell? ⟨wr.heap.size, 1, none⟩ = some (.int .i64 x.q) := blk_cell hkX 1
      have y2 : X.cell? ⟨wr.heap.size, 2, none⟩ = some (.int .i64 x.inc) := blk_cell hkX 2
      have y3 : X.cell? ⟨wr.heap.size, 3, none⟩ = some (.int .i64 x.t) := blk_cell hkX 3
      have y4 : X.cell? ⟨wr.heap.size, 4, none⟩ = some (.bool x.mu) := blk_cell hkX 4
      have hpl := lt_heap hp
      have hpX := hp.still hbX
      have hzX := hz.still hbX
      obtain ⟨q0, q1, q2, q3, q4, q5, q6, q7⟩ := hpX.c
      have f2 := hpX.f 2
      have f5 := hpX.f 5
      have f7 := hpX.f 7
      have HpX : Hid (PyAt X (w.heap.size + 1) p) := hpX
      have HzX : Hid (PyAt X w.heap.size pz) := hzX
      have HbX : Hid (Below w.heap.size w X) := hb.trans (hbX.mono hb.size)
      have Hnx : Hid (R.ofK q (k + 1) = p.next q R.step R.lim x) := hnx
      have e4' := below_at hbX e4
      have e5' := below_at hbX e5
      have e6' := below_at hbX e6
      unfold Pst.cs at hX
      rw [hva] at e6 e6'
      clear hnx hp hz hb hpX hzX hR hva hbX hkX
      have hp1 : w.heap.size + 1 ≠ w.heap.size := by omega
      by_cases h3 : x.k = 3
      · rw [h3] at v0 y0 hX
        have hn2 : p.next q R.step R.lim x = { p with left := true, heard := false } := by unfold Py.next; rw [if_pos h3]
        have Hn2 : Hid (p.next q R.step R.lim x = { p with left := true, heard := false }) := hn2
        clear hn2
        have HF : Hid (PyAt ((X.setCell ⟨w.heap.size + 1, 7, none⟩ (.bool true)).setCell ⟨w.heap.size + 1, 5, none⟩ (.bool false)) (w.heap.size + 1) { p with left := true, heard := false }) := Eq.trans (blkset (blkset HpX.out)) rfl
        clear h3
        go_wp2
        exact ⟨⟨k + 1, by omega, by go_num, by rw [Hnx.out, Hn2.out]; exact HF.out, blk_set_ne (blk_set_ne HzX.out (by omega)) (by omega), bset (bset HbX.out (Nat.le_succ _) _ _) (Nat.le_succ _) _ _⟩, by simp [intOf]; omega⟩
      · have t3 : ((x.k == 3) = false) := by simp [h3]
        by_cases h1 : x.k = 1
        · rw [h1] at v0 y0 hX
          cases hh : p.heard with
          | true =>
            rw [hh] at q5
            have hn2 : p.next q R.step R.lim x = { p with age := p.age + 1, heard := decide (p.age + 1 ≤ p.ticks) } := by unfold Py.next; rw [if_neg h3, if_pos ⟨h1, hh⟩]
            have Hn2 : Hid (p.next q R.step R.lim x = { p with age := p.age + 1, heard := decide (p.age + 1 ≤ p.ticks) }) := hn2
            clear hn2
            have hwa : IntKind.i64.wrap (p.age + 1) = p.age + 1 := by have := hin.age; exact wrap_id (by omega) (by omega)
            obtain ⟨Y, hY, HY, z2, z3, HzY, HbY, g5, z5⟩ : ∃ Y, X.setCell ⟨w.heap.size + 1, 2, none⟩ (.int .i64 (p.age + 1)) = Y ∧ Hid (PyAt Y (w.heap.size + 1) { p with age := p.age + 1 }) ∧ Y.cell? ⟨w.heap.size + 1, 2, none⟩ = some (.int .i64 (p.age + 1)) ∧ Y.cell? ⟨w.heap.size + 1, 3, none⟩ = some (.int .i64 p.ticks) ∧ Hid (PyAt Y w.heap.size pz) ∧ Hid (Below w.heap.size w Y) ∧ Y.frozen? ⟨w.heap.size + 1, 5, none⟩ = false ∧ Y.cell? ⟨w.heap.size + 1, 5, none⟩ = some (.bool p.heard) := by
              have hyy : PyAt (X.setCell ⟨w.heap.size + 1, 2, none⟩ (.int .i64 (p.age + 1))) (w.heap.size + 1) { p with age := p.age + 1 } := Eq.trans (blkset HpX.out) rfl
              exact ⟨_, rfl, hyy, hyy.c.2.2.1, hyy.c.2.2.2.1, blk_set_ne HzX.out (by omega), bset HbX.out (Nat.le_succ _) _ _, hyy.f 5, hyy.c.2.2.2.2.2.1⟩
            have HF : Hid (PyAt (Y.setCell ⟨w.heap.size + 1, 5, none⟩ (.bool (decide (p.age + 1 ≤ p.ticks)))) (w.heap.size + 1) { p with age := p.age + 1, heard := decide (p.age + 1 ≤ p.ticks) }) := Eq.trans (blkset HY.out) rfl
            clear hin
            go_wp2
            refine wp_region_held_drew (S := (fun w' => w'.cell? ⟨w.heap.size + 1, 2, none⟩ = some (.int .i64 (p.age + 1)) ∧ w'.cell? ⟨w.heap.size + 1, 3, none⟩ = some (.int .i64 p.ticks))) (by kernel_rfl) ⟨cell_drew z2, cell_drew z3⟩ (fun hHeld => ?_)
            simp only [Act.put, List.size_toArray, List.length_cons, List.length_nil, Nat.zero_add]
            refine wpAnyH_take (i := 0) (v := .pointer (some ⟨w.heap.size + 1, 0, none⟩)) rfl (by kernel_rfl) (by kernel_rfl) (by kernel_rfl) (fun _ _ _ h => h) (Or.inl ⟨by rfl, fun w' hS => by go_simp⟩) hHeld ?_
            simp only [Act.put, List.getElem_toArray, List.getElem_cons_zero, List.getElem_cons_succ, List.setIfInBounds_toArray, List.set_cons_zero, List.set_cons_succ]
            refine wpAnyH_take (i := 1) (v := .pointer (some ⟨w.heap.size + 1, 0, none⟩)) rfl (by kernel_rfl) (by kernel_rfl) (by kernel_rfl) (fun _ _ _ h => h) (Or.inl ⟨by rfl, fun w' hS => by go_simp⟩) hHeld ?_
            simp only [Act.put, List.getElem_toArray, List.getElem_cons_zero, List.getElem_cons_succ, List.setIfInBounds_toArray, List.set_cons_zero, List.set_cons_succ]
            refine wpAnyH_take (i := 2) (v := .pointer (some ⟨w.heap.size + 1, 0, none⟩)) rfl (by kernel_rfl) (by kernel_rfl) (by kernel_rfl) (fun _ _ _ h => h) (Or.inl ⟨by rfl, fun w' hS => by go_simp⟩) hHeld ?_
            simp only [Act.put, List.getElem_toArray, List.getElem_cons_zero, List.getElem_cons_succ, List.setIfInBounds_toArray, List.set_cons_zero, List.set_cons_succ]
            refine wpAnyH_take (i := 3) (v := .pointer (some ⟨w.heap.size + 1, 2, none⟩)) rfl (by kernel_rfl) (by kernel_rfl) (by kernel_rfl) (fun _ _ _ h => h) (Or.inl ⟨by rfl, fun w' hS => by go_simp⟩) hHeld ?_
            simp only [Act.put, List.getElem_toArray, List.getElem_cons_zero, List.getElem_cons_succ, List.setIfInBounds_toArray, List.set_cons_zero, List.set_cons_succ]
            refine wpAnyH_take (i := 4) (v := .int .i64 (p.age + 1)) rfl (by kernel_rfl) (by kernel_rfl) (by kernel_rfl) (fun _ _ _ h => h) (Or.inl ⟨by rfl, fun w' hS => by (obtain ⟨s0, s1⟩ := hS; go_simp)⟩) hHeld ?_
            simp only [Act.put, List.getElem_toArray, List.getElem_cons_zero, List.getElem_cons_succ, List.setIfInBounds_toArray, List.set_cons_zero, List.set_cons_succ]
            refine wpAnyH_take (i := 5) (v := .pointer (some ⟨w.heap.size + 1, 0, none⟩)) rfl (by kernel_rfl) (by kernel_rfl) (by kernel_rfl) (fun _ _ _ h => h) (Or.inl ⟨by rfl, fun w' hS => by go_simp⟩) hHeld ?_
            simp only [Act.put, List.getElem_toArray, List.getElem_cons_zero, List.getElem_cons_succ, List.setIfInBounds_toArray, List.set_cons_zero, List.set_cons_succ]
            refine wpAnyH_take (i := 6) (v := .pointer (some ⟨w.heap.size + 1, 0, none⟩)) rfl (by kernel_rfl) (by kernel_rfl) (by kernel_rfl) (fun _ _ _ h => h) (Or.inl ⟨by rfl, fun w' hS => by go_simp⟩) hHeld ?_
            simp only [Act.put, List.getElem_toArray, List.getElem_cons_zero, List.getElem_cons_succ, List.setIfInBounds_toArray, List.set_cons_zero, List.set_cons_succ]
            refine wpAnyH_take (i := 7) (v := .pointer (some ⟨w.heap.size + 1, 3, none⟩)) rfl (by kernel_rfl) (by kernel_rfl) (by kernel_rfl) (fun _ _ _ h => h) (Or.inl ⟨by rfl, fun w' hS => by go_simp⟩) hHeld ?_
            simp only [Act.put, List.getElem_toArray, List.getElem_cons_zero, List.getElem_cons_succ, List.setIfInBounds_toArray, List.set_cons_zero, List.set_cons_succ]
            refine wpAnyH_take (i := 8) (v := .int .i64 p.ticks) rfl (by kernel_rfl) (by kernel_rfl) (by kernel_rfl) (fun _ _ _ h => h) (Or.inl ⟨by rfl, fun w' hS => by (obtain ⟨s0, s1⟩ := hS; go_simp)⟩) hHeld ?_
            simp only [Act.put, List.getElem_toArray, List.getElem_cons_zero, List.getElem_cons_succ, List.setIfInBounds_toArray, List.set_cons_zero, List.set_cons_succ]
            refine wpAnyH_take (i := 9) (v := .bool (decide (p.age + 1 ≤ p.ticks))) rfl (by kernel_rfl) (by kernel_rfl) (by kernel_rfl) (fun _ _ _ h => h) (Or.inl ⟨by rfl, fun w' hS => by go_simp⟩) hHeld ?_
            simp only [Act.put, List.getElem_toArray, List.getElem_cons_zero, List.getElem_cons_succ, List.setIfInBounds_toArray, List.set_cons_zero, List.set_cons_succ]
            refine wpAnyH_take (i := 10) (v := .pointer (some ⟨w.heap.size + 1, 0, none⟩)) rfl (by kernel_rfl) (by kernel_rfl) (by kernel_rfl) (fun _ _ _ h => h) (Or.inl ⟨by rfl, fun w' hS => by go_simp⟩) hHeld ?_
            simp only [Act.put, List.getElem_toArray, List.getElem_cons_zero, List.getElem_cons_succ, List.setIfInBounds_toArray, List.set_cons_zero, List.set_cons_succ]
            refine wpAnyH_take (i := 11) (v := .pointer (some ⟨w.heap.size + 1, 5, none⟩)) rfl (by kernel_rfl) (by kernel_rfl) (by kernel_rfl) (fun _ _ _ h => h) (Or.inl ⟨by rfl, fun w' hS => by go_simp⟩) hHeld ?_
            simp only [Act.put, List.getElem_toArray, List.getElem_cons_zero, List.getElem_cons_succ, List.setIfInBounds_toArray, List.set_cons_zero, List.set_cons_succ]
            refine wpAnyH_ready (rs := [12]) (by kernel_rfl) (by simp) ?_
            refine AllReadyH.cons rfl (fun K hK => ?_) AllReadyH.nil
            go_simp
            refine hK.out _ _ ⟨(cell_drew (cell_of (blkset HY.out) 2 rfl)), (cell_drew (cell_of (blkset HY.out) 3 rfl))⟩ (fun hHeld => ?_)
            clear hK K
            refine wpAnyH_done (by kernel_rfl) ?_ _
            clear hHeld
            go_wp2
            exact ⟨⟨k + 1, by omega, by go_num, by rw [Hnx.out, Hn2.out]; exact blkdrew HF.out, blkdrew (blk_set_ne HzY.out (by omega)), (bset HbY.out (Nat.le_succ _) _ _).drew⟩, by simp [intOf]; omega⟩
          | false =>
            rw [hh] at q5
            have hn2 : p.next q R.step R.lim x = p := by unfold Py.next; rw [if_neg h3, if_neg (by rw [hh]; simp), if_neg (by omega)]
            have Hn2 : Hid (p.next q R.step R.lim x = p) := hn2
            clear hn2
            clear hin
            go_wp2
            exact ⟨⟨k + 1, by omega, by go_num, by rw [Hnx.out, Hn2.out]; exact HpX.out, HzX.out, HbX.out⟩, by simp [intOf]; omega⟩
        · have t1 : ((x.k == 1) = false) := by simp [h1]
          by_cases h2 : x.k = 2
          · by_cases hq : x.q = q
            · have HBt : Hid (∀ w', Below X.heap.size X w' → Calls Try.prog 55 #[.pointer (some ⟨w.heap.size + 1, 0, none⟩), .agg #[.int .i64 x.k, .int .i64 x.q, .int .i64 x.inc, .int .i64 x.t, .bool x.mu], .int .i64 R.step, .int .i64 R.lim] w' fun e w2 => e = .returned (.tuple #[]) ∧ PyAt w2 (w.heap.size + 1) (p.beat x R.step R.lim) ∧ Kept w' w2 (fun j => j = w.heap.size + 1)) := fun w' hb => beat_peer (HpX.out.still hb) x R.step R.lim (by have := hin.ticks; omega) (by omega) (by have := hin.wrong; omega)
              have hn2 : p.next q R.step R.lim x = p.beat x R.step R.lim := by unfold Py.next; rw [if_neg h3, if_neg (by omega), if_pos ⟨h2, hq⟩]
              have Hn2 : Hid (p.next q R.step R.lim x = p.beat x R.step R.lim) := hn2
              clear hn2
              have hnx : ¬ wr.heap.size = w.heap.size + 1 := by omega
              have hnr : ¬ R.b = w.heap.size + 1 := by omega
              have e4 := e4'
              have e5 := e5'
              have h2' : x.k = 2 := h2
              rw [h2] at v0 y0 hX HBt
              subst hq
              clear hin h2 h2'
              go_wp2
              refine wp_region_held_drew (S := (fun w' => w'.cell? ⟨wr.heap.size, 0, none⟩ = some (.int .i64 2) ∧ w'.cell? ⟨wr.heap.size, 1, none⟩ = some (.int .i64 x.q) ∧ w'.cell? ⟨wr.heap.size, 2, none⟩ = some (.int .i64 x.inc) ∧ w'.cell? ⟨wr.heap.size, 3, none⟩ = some (.int .i64 x.t) ∧ w'.cell? ⟨wr.heap.size, 4, none⟩ = some (.bool x.mu) ∧ w'.cell? ⟨R.b, 4, none⟩ = some (.int .i64 R.step) ∧ w'.cell? ⟨R.b, 5, none⟩ = some (.int .i64 R.lim))) (by kernel_rfl) ⟨cell_drew y0, cell_drew y1, cell_drew y2, cell_drew y3, cell_drew y4, cell_drew e4, cell_drew e5⟩ (fun hHeld => ?_)
              simp only [Act.put, List.size_toArray, List.length_cons, List.length_nil, Nat.zero_add]
              refine wpAnyH_take (i := 0) (v := .pointer (some ⟨w.heap.size + 1, 0, none⟩)) rfl (by kernel_rfl) (by kernel_rfl) (by kernel_rfl) (fun _ _ _ h => h) (Or.inl ⟨by rfl, fun w' hS => by go_simp⟩) hHeld ?_
              simp only [Act.put, List.getElem_toArray, List.getElem_cons_zero, List.getElem_cons_succ, List.setIfInBounds_toArray, List.set_cons_zero, List.set_cons_succ]
              refine wpAnyH_take (i := 1) (v := .agg #[.int .i64 2, .int .i64 x.q, .int .i64 x.inc, .int .i64 x.t, .bool x.mu]) rfl (by kernel_rfl) (by kernel_rfl) (by kernel_rfl) (fun _ _ _ h => h) (Or.inl ⟨by rfl, fun w' hS => by (obtain ⟨s0, s1, s2, s3, s4, s5, s6⟩ := hS; go_simp)⟩) hHeld ?_
              simp only [Act.put, List.getElem_toArray, List.getElem_cons_zero, List.getElem_cons_succ, List.setIfInBounds_toArray, List.set_cons_zero, List.set_cons_succ]
              refine wpAnyH_take (i := 2) (v := .pointer (some ⟨R.b, 0, none⟩)) rfl (by kernel_rfl) (by kernel_rfl) (by kernel_rfl) (fun _ _ _ h => h) (Or.inl ⟨by rfl, fun w' hS => by go_simp⟩) hHeld ?_
              simp only [Act.put, List.getElem_toArray, List.getElem_cons_zero, List.getElem_cons_succ, List.setIfInBounds_toArray, List.set_cons_zero, List.set_cons_succ]
              refine wpAnyH_take (i := 3) (v := .pointer (some ⟨R.b, 0, none⟩)) rfl (by kernel_rfl) (by kernel_rfl) (by kernel_rfl) (fun _ _ _ h => h) (Or.inl ⟨by rfl, fun w' hS => by go_simp⟩) hHeld ?_
              simp only [Act.put, List.getElem_toArray, List.getElem_cons_zero, List.getElem_cons_succ, List.setIfInBounds_toArray, List.set_cons_zero, List.set_cons_succ]
              refine wpAnyH_take (i := 4) (v := .pointer (some ⟨R.b, 4, none⟩)) rfl (by kernel_rfl) (by kernel_rfl) (by kernel_rfl) (fun _ _ _ h => h) (Or.inl ⟨by rfl, fun w' hS => by go_simp⟩) hHeld ?_
              simp only [Act.put, List.getElem_toArray, List.getElem_cons_zero, List.getElem_cons_succ, List.setIfInBounds_toArray, List.set_cons_zero, List.set_cons_succ]
              refine wpAnyH_take (i := 5) (v := .int .i64 R.step) rfl (by kernel_rfl) (by kernel_rfl) (by kernel_rfl) (fun _ _ _ h => h) (Or.inl ⟨by rfl, fun w' hS => by (obtain ⟨s0, s1, s2, s3, s4, s5, s6⟩ := hS; go_simp)⟩) hHeld ?_
              simp only [Act.put, List.getElem_toArray, List.getElem_cons_zero, List.getElem_cons_succ, List.setIfInBounds_toArray, List.set_cons_zero, List.set_cons_succ]
              refine wpAnyH_take (i := 6) (v := .pointer (some ⟨R.b, 0, none⟩)) rfl (by kernel_rfl) (by kernel_rfl) (by kernel_rfl) (fun _ _ _ h => h) (Or.inl ⟨by rfl, fun w' hS => by go_simp⟩) hHeld ?_
              simp only [Act.put, List.getElem_toArray, List.getElem_cons_zero, List.getElem_cons_succ, List.setIfInBounds_toArray, List.set_cons_zero, List.set_cons_succ]
              refine wpAnyH_take (i := 7) (v := .pointer (some ⟨R.b, 0, none⟩)) rfl (by kernel_rfl) (by kernel_rfl) (by kernel_rfl) (fun _ _ _ h => h) (Or.inl ⟨by rfl, fun w' hS => by go_simp⟩) hHeld ?_
              simp only [Act.put, List.getElem_toArray, List.getElem_cons_zero, List.getElem_cons_succ, List.setIfInBounds_toArray, List.set_cons_zero, List.set_cons_succ]
              refine wpAnyH_take (i := 8) (v := .pointer (some ⟨R.b, 5, none⟩)) rfl (by kernel_rfl) (by kernel_rfl) (by kernel_rfl) (fun _ _ _ h => h) (Or.inl ⟨by rfl, fun w' hS => by go_simp⟩) hHeld ?_
              simp only [Act.put, List.getElem_toArray, List.getElem_cons_zero, List.getElem_cons_succ, List.setIfInBounds_toArray, List.set_cons_zero, List.set_cons_succ]
              refine wpAnyH_take (i := 9) (v := .int .i64 R.lim) rfl (by kernel_rfl) (by kernel_rfl) (by kernel_rfl) (fun _ _ _ h => h) (Or.inl ⟨by rfl, fun w' hS => by (obtain ⟨s0, s1, s2, s3, s4, s5, s6⟩ := hS; go_simp)⟩) hHeld ?_
              simp only [Act.put, List.getElem_toArray, List.getElem_cons_zero, List.getElem_cons_succ, List.setIfInBounds_toArray, List.set_cons_zero, List.set_cons_succ]
              refine wpAnyH_ready (rs := [10]) (by kernel_rfl) (by simp) ?_
              refine AllReadyH.cons rfl (fun K hK => ?_) AllReadyH.nil
              go_simp
              refine (HBt.out _ (Below.refl _ _).drew).mono ?_
              rintro e w9 ⟨rfl, hp9, hk9⟩
              refine hK.out _ _ ⟨cell_keep hk9 hnx (cell_drew y0), cell_keep hk9 hnx (cell_drew y1), cell_keep hk9 hnx (cell_drew y2), cell_keep hk9 hnx (cell_drew y3), cell_keep hk9 hnx (cell_drew y4), cell_keep hk9 hnr (cell_drew e4), cell_keep hk9 hnr (cell_drew e5)⟩ (fun hHeld => ?_)
              clear hK K
              refine wpAnyH_done (by kernel_rfl) ?_ _
              clear hHeld
              go_wp2
              exact ⟨⟨k + 1, by omega, by go_num, by rw [Hnx.out, Hn2.out]; exact hp9, hk9.obj (blkdrew HzX.out) (by omega), (HbX.out.drew).trans (hk9.below (Nat.le_trans HbX.out.size (by simp)) (fun j hj e => by omega))⟩, by simp [intOf]; omega⟩
            · have t2 : ((x.q == q) = false) := by simp [hq]
              have hn2 : p.next q R.step R.lim x = p := by unfold Py.next; rw [if_neg h3, if_neg (by omega), if_neg (by omega)]
              have Hn2 : Hid (p.next q R.step R.lim x = p) := hn2
              clear hn2
              rw [h2] at v0 y0 hX
              clear hin
              go_wp2
              exact ⟨⟨k + 1, by omega, by go_num, by rw [Hnx.out, Hn2.out]; exact HpX.out, HzX.out, HbX.out⟩, by simp [intOf]; omega⟩
          · have t2 : ((x.k == 2) = false) := by simp [h2]
            have hn2 : p.next q R.step R.lim x = p := by unfold Py.next; rw [if_neg h3, if_neg (by omega), if_neg (by omega)]
            have Hn2 : Hid (p.next q R.step R.lim x = p) := hn2
            clear hn2
            clear hin
            go_wp2
            exact ⟨⟨k + 1, by omega, by go_num, by rw [Hnx.out, Hn2.out]; exact HpX.out, HzX.out, HbX.out⟩, by simp [intOf]; omega⟩
    · obtain rfl : k = N := by omega
      have hof : R.ofK q k = R.of q := by unfold Rf.ofK Rf.of; rw [List.take_of_length_le (by omega)]
      rw [hof] at hp
      obtain ⟨q0, q1, q2, q3, q4, q5, q6, q7⟩ := hp.c
      generalize hpp : R.of q = p at *
      obtain ⟨z0, z1, z2, z3, z4, z5, z6, z7⟩ := hz.c
      have g0 := hz.f 0
      have g1 := hz.f 1
      have g2 := hz.f 2
      have g3 := hz.f 3
      have g4 := hz.f 4
      have g5 := hz.f 5
      have g6 := hz.f 6
      have g7 := hz.f 7
      have Hz0 : Hid (wr.heap[w.heap.size]? = some (.cells #[.int .i64 0, .int .i64 0, .int .i64 0, .int .i64 0, .int .i64 0, .bool false, .bool false, .bool false] 96 (0, 0))) := hz
      have Hb2 : Hid (Below w.heap.size w wr) := hb
      clear hz hb hp hR hof
      go_wp2
      have hfin := put8 (.int .i64 p.known) (.int .i64 p.last) (.int .i64 p.age) (.int .i64 p.ticks) (.int .i64 p.wrong) (.bool p.heard) (.bool p.both) (.bool p.left) Hz0.out
      have hfb : Below w.heap.size w ((((((((wr.setCell ⟨w.heap.size, 0, none⟩ (.int .i64 p.known)).setCell ⟨w.heap.size, 1, none⟩ (.int .i64 p.last)).setCell ⟨w.heap.size, 2, none⟩ (.int .i64 p.age)).setCell ⟨w.heap.size, 3, none⟩ (.int .i64 p.ticks)).setCell ⟨w.heap.size, 4, none⟩ (.int .i64 p.wrong)).setCell ⟨w.heap.size, 5, none⟩ (.bool p.heard)).setCell ⟨w.heap.size, 6, none⟩ (.bool p.both)).setCell ⟨w.heap.size, 7, none⟩ (.bool p.left)) := bset (bset (bset (bset (bset (bset (bset (bset Hb2.out (Nat.le_refl _) _ _) (Nat.le_refl _) _ _) (Nat.le_refl _) _ _) (Nat.le_refl _) _ _) (Nat.le_refl _) _ _) (Nat.le_refl _) _ _) (Nat.le_refl _) _ _) (Nat.le_refl _) _ _
      generalize ((((((((wr.setCell ⟨w.heap.size, 0, none⟩ (.int .i64 p.known)).setCell ⟨w.heap.size, 1, none⟩ (.int .i64 p.last)).setCell ⟨w.heap.size, 2, none⟩ (.int .i64 p.age)).setCell ⟨w.heap.size, 3, none⟩ (.int .i64 p.ticks)).setCell ⟨w.heap.size, 4, none⟩ (.int .i64 p.wrong)).setCell ⟨w.heap.size, 5, none⟩ (.bool p.heard)).setCell ⟨w.heap.size, 6, none⟩ (.bool p.both)).setCell ⟨w.heap.size, 7, none⟩ (.bool p.left)) = Z at *
      have r0 : Z.cell? ⟨w.heap.size, 0, none⟩ = some (.int .i64 p.known) := blk_cell hfin 0
      have r1 : Z.cell? ⟨w.heap.size, 1, none⟩ = some (.int .i64 p.last) := blk_cell hfin 1
      have r2 : Z.cell? ⟨w.heap.size, 2, none⟩ = some (.int .i64 p.age) := blk_cell hfin 2
      have r3 : Z.cell? ⟨w.heap.size, 3, none⟩ = some (.int .i64 p.ticks) := blk_cell hfin 3
      have r4 : Z.cell? ⟨w.heap.size, 4, none⟩ = some (.int .i64 p.wrong) := blk_cell hfin 4
      have r5 : Z.cell? ⟨w.heap.size, 5, none⟩ = some (.bool p.heard) := blk_cell hfin 5
      have r6 : Z.cell? ⟨w.heap.size, 6, none⟩ = some (.bool p.both) := blk_cell hfin 6
      have r7 : Z.cell? ⟨w.heap.size, 7, none⟩ = some (.bool p.left) := blk_cell hfin 7
      exact bodyPost_ret (v := .agg p.cs) (by simp [results, Try.results51, go_sem, r0, r1, r2, r3, r4, r5, r6, r7, Py.cs]) rfl ⟨by rw [hpp], hfb⟩
end
end Go.Proofs.Ytfbollifegngjaa.Dt
