import Derived.Test.YtgpehjkogfbnkaaLk5
import Derived.Test.YtgpehjkogfbnkaaLk9
import Derived.Test.YtgpehjkogfbnkaaLkC
import Derived.Test.YtgpehjkogfbnkaaLkE
namespace Go.Proofs.Ytgpehjkogfbnkaa.Ln
open Go.RowKit Mb Oe
set_option linter.unusedVariables false
set_option maxRecDepth 100000
set_option linter.unusedSimpArgs false
def wq (P : Px) (s : Nat) : Nat := ((P.E s).sent - (P.E s).op + P.win - 1) / P.win
def nt (P : Px) (s : Nat) : Nat := if s = 0 then 0 else if s = 1 then wq P 0 else max (wq P 0) (wq P 1)
section
variable {w w' W : World} {B : Nat} {X X' : Wr} {P : Px}
theorem nt_next (P : Px) {s : Nat} (hs : s < 2) : nt P (s + 1) = max (nt P s) (wq P s) := by
  rcases s2 hs with rfl | rfl
  · show wq P 0 = max 0 (wq P 0); omega
  · rfl
theorem wq_ok (P : Px) {s : Nat} (hw : 1 ≤ P.win) : (P.E s).sent - (P.E s).op ≤ wq P s * P.win := by
  unfold wq
  generalize (P.E s).sent - (P.E s).op = a
  have h1 := Nat.div_add_mod (a + P.win - 1) P.win
  have h2 := Nat.mod_lt (a + P.win - 1) (show 0 < P.win by omega)
  rw [Nat.mul_comm]
  omega
theorem nt_ok (P : Px) {s : Nat} (hs : s < 2) (hw : 1 ≤ P.win) : (P.E s).sent - (P.E s).op ≤ nt P 2 * P.win := by
  refine Nat.le_trans (wq_ok P hw) (Nat.mul_le_mul_right _ ?_)
  show wq P s ≤ max (wq P 0) (wq P 1)
  rcases s2 hs with rfl | rfl <;> omega
structure WtO (wr w' : World) (q : Nat) (e : Ending) : Prop where
  ret : e = .returned (.int .i64 (q : Int))
  bel : Below wr.heap.size wr w'
structure CaE (W0 D w7 : World) (b0 : Nat) (e : Ending) : Prop where
  out : e = .returned (.bool true) ∧ ∃ oa oc pa pc ol, w7.cell? ⟨b0, 7, none⟩ = some (.slice oa ol oc) ∧ w7.cell? ⟨b0, 4, none⟩ = some (.slice pa ol pc) ∧ Hid (Calls Try.prog 18 #[.slice oa ol oc, .slice pa ol pc] w7 fun e w' => e = .returned (.bool true) ∧ Below w7.heap.size w7 w') ∧ Below W0.heap.size W0 w7
structure CaP (W0 w6 : World) (b0 : Nat) (e : Ending) : Prop where
  ret : e = .returned (.bool true)
  tn : Calls Try.prog 21 #[.pointer (some ⟨b0, 0, none⟩)] w6 fun e w' => CaE W0 w6 w' b0 e
def a5 : Ac := ⟨0, 1, 0, [1]⟩
theorem act5 (P : Px) : P.act a5 = P.push 0 (cutB [1]) := by simp [Px.act, a5, Ac.s, absI]
theorem by1 : By [1] := fun i => by
  have : i = 0 ∨ 1 ≤ i := by omega
  rcases this with rfl | h
  · simp
  · simp [List.getD, List.getElem?_eq_none (show ([1] : List Int).length ≤ i by simpa using h)]
theorem same_of {u s : Nat} {wr : World} (hX : X.Ok wr B) (hu : u < 2) (hs : s < 2) (he : X.pu.o u = X.pu.p s) (hT : X.pu.Sz 1000) : ∃ oa oc pa pc ol, X.v (6 + u) = .slice oa ol oc ∧ X.v (4 + s) = .slice pa ol pc ∧ ∀ D, Below wr.heap.size wr D → Calls Try.prog 18 #[.slice oa ol oc, .slice pa ol pc] D fun e w' => e = .returned (.bool true) ∧ Below D.heap.size D w' := by
  obtain ⟨oa, oc, hov⟩ := row_shape (hX.rowo hu)
  obtain ⟨pa, pc, hpv⟩ := row_shape (hX.rowp hs)
  have he2 : (X.o u).map Bn.bs = (X.p s).map Bn.bs := he
  have hl : (X.o u).length = (X.p s).length := by have := congrArg List.length he2; rw [List.length_map, List.length_map] at this; exact this
  have h1 := RdL.of (hX.rowo hu) (fun y hy => (hX.en y ⟨u, hu, .inr (.inl hy)⟩).1)
  have h2 := RdL.of (hX.rowp hs) (fun y hy => (hX.en y ⟨s, hs, .inl hy⟩).1)
  have hlen : (X.o u).length ≤ 1000000 := by
    have h3 : ((X.p s).map Bn.bs).length ≤ 1000 := (hT s hs).1
    rw [List.length_map] at h3
    omega
  refine ⟨oa, oc, pa, pc, _, hov, by rw [hl]; exact hpv, fun D hb => ?_⟩
  have := lists_yes (h1.still hb) (h2.still hb) he2 hlen
  rw [hov, hpv, ← hl] at this
  exact this
theorem Px.Sz.mono {T T' : Nat} (h : P.Sz T) (hT : T ≤ T') : P.Sz T' := fun s hs => by have := h s hs; omega
set_option maxHeartbeats 8000000 in
theorem calm_any {t : Tk} (ht : TkIn w t) : Calls Try.prog 6 #[.agg #[.int .i64 t.wi, .int .i64 t.rm, .slice t.ba t.bn t.bc, .slice t.aa t.an t.ac, .int .i64 t.o0, .int .i64 t.o1, .int .i64 t.o2, .int .i64 t.o3, .int .i64 t.sq, .slice t.da t.dn t.dc]] w fun e w' => e = .returned (.bool true) ∧ Below w.heap.size w w' := by
  obtain ⟨win, hwin⟩ : ∃ k, 1 + (absI t.wi).toNat % 5 = k := ⟨_, rfl⟩
  obtain ⟨space, hsp⟩ : ∃ k, win + (absI t.rm).toNat % 9 = k := ⟨_, rfl⟩
  have hw1 : 1 ≤ win ∧ win ≤ 5 ∧ win ≤ space ∧ space ≤ 13 := by have := Nat.mod_lt (absI t.wi).toNat (show 0 < 5 by omega); have := Nat.mod_lt (absI t.rm).toNat (show 0 < 9 by omega); omega
  generalize hW0 : w.alloc (.cells #[.int .i64 t.wi, .int .i64 t.rm, .slice t.ba t.bn t.bc, .slice t.aa t.an t.ac, .int .i64 t.o0, .int .i64 t.o1, .int .i64 t.o2, .int .i64 t.o3, .int .i64 t.sq, .slice t.da t.dn t.dc] 27) = W0
  have hbW : Below w.heap.size w W0 := by rw [← hW0]; exact balloc (Below.refl _ _)
  have hblk : W0.heap[w.heap.size]? = some (.cells #[.int .i64 t.wi, .int .i64 t.rm, .slice t.ba t.bn t.bc, .slice t.aa t.an t.ac, .int .i64 t.o0, .int .i64 t.o1, .int .i64 t.o2, .int .i64 t.o3, .int .i64 t.sq, .slice t.da t.dn t.dc] 27 (0, 0)) := by rw [← hW0]; exact heap_alloc_new _ _
  have c0 : W0.cell? ⟨w.heap.size, 0, none⟩ = some (.int .i64 t.wi) := blk_cell hblk 0
  have c1 : W0.cell? ⟨w.heap.size, 1, none⟩ = some (.int .i64 t.rm) := blk_cell hblk 1
  have c3 : W0.cell? ⟨w.heap.size, 3, none⟩ = some (.slice t.aa t.an t.ac) := blk_cell hblk 3
  have HbW : Hid (Below w.heap.size w W0) := hbW
  obtain ⟨P, hP⟩ : ∃ P, runA (px0 win space) (t.ax.take 400) = P := ⟨_, rfl⟩
  have hPw : P.win = win ∧ P.space = space := by rw [← hP]; exact run_win _ _
  have HI : Hid (P.Inv) := (show Px.Inv _ from by rw [← hP]; exact run_inv _ _ (px0_inv _ _) (fun x hx => ht.ax.bys x (List.mem_of_mem_take hx)))
  have HT : Hid (P.Sz 400) := (show Px.Sz _ _ from by
    rw [← hP]
    have h1 := run_sz (t.ax.take 400) (px0 win space) 0 (px0_sz _ _) hw1.2.1
    intro s hs
    have h2 := h1 s hs
    have h3 : (t.ax.take 400).length ≤ 400 := by rw [List.length_take]; omega
    omega)
  have H0 : Hid (Calls Try.prog 7 #[.int .i64 t.wi, .int .i64 t.rm, .slice t.aa t.an t.ac] W0 fun e w' => TlO W0 w' P e) := (show Calls _ _ _ _ _ from by have := talked_any (w := W0) ht.wi ht.rm (c := t.ac) (ht.ax.still hbW) ht.an; rw [hwin, hsp, hP] at this; exact this)
  have HPw : Hid (P.win = win ∧ P.space = space) := hPw
  clear hwin hsp ht hbW hblk hP hPw
  go_enter Try.func6, Try.ntmps6
  go_wp2_with (first | (go_at_call 7; refine H0.out.mono ?_) | fail)
  rintro e w1 hx
  obtain ⟨X0, he, hok, hpu, hbel⟩ := hx.out
  subst he
  obtain ⟨b0, hb0⟩ : ∃ b0, X0.b = b0 := ⟨_, rfl⟩
  have HF0 : Hid (∃ X, TlS W0 w1 b0 P X) := (show ∃ X, TlS _ _ _ _ X from ⟨X0, hok, hpu, hbel, hb0⟩)
  have HN : Hid (∀ s, s < 2 → wq P s ≤ 17) := fun s hs => (show _ ≤ _ from by
    have hE := (hok.mo s hs).el _ _ (hok.me s hs)
    have e1 : (P.E s).sent = (X0.e s).sent := by rw [← hpu]; rfl
    have e2 : (P.E s).op = (X0.e s).o.p := by rw [← hpu]; rfl
    have k2 := hE.s2
    rw [(hok.mt s hs).2.2] at k2
    have k3 := hok.w1.2.2.2
    unfold wq
    refine Nat.le_trans (Nat.div_le_self _ _) ?_
    rw [e1, e2, HPw.out.1]
    omega)
  rw [hb0]
  clear hx hok hpu hbel hb0 H0 hW0 c0 c1 c3
  go_wp2
  go_loopw [4, 5, 6] (fun v4 v5 _ wr => ∃ s : Nat, s ≤ 2 ∧ v5 = .int .i64 (s : Int) ∧ v4 = .int .i64 ((nt P s : Nat) : Int) ∧ Hid (∃ X, TlS W0 wr b0 P X)) (fun _ v5 _ _ => 2 - (intOf v5).toNat)
  case atStart => exact ⟨0, by omega, rfl, rfl, HF0⟩
  case round =>
    clear HF0
    obtain ⟨s, hs2, rfl, rfl, hst⟩ := hrel
    obtain ⟨X, hX⟩ := hst.out
    clear hst
    by_cases hs : s < 2
    · have i1 : (0 : Int) ≤ (s : Int) := Int.natCast_nonneg _
      have i2 : (s : Int) < 2 := by omega
      have j1 : (0 : Int) ≤ 1 - (s : Int) := by omega
      have j2 : 1 - (s : Int) ≤ 1 := by omega
      obtain ⟨pm, hpm⟩ : ∃ p, (X.m s).b = p := ⟨_, rfl⟩
      have cm : wr.cell? ⟨b0, s, none⟩ = some (.pointer (some ⟨pm, 0, none⟩)) := by have := hX.ok.cm hs; rw [hX.b, hpm] at this; exact this
      have hxw : X.win = win := (show X.pu.win = win from by rw [hX.pu]; exact HPw.out.1)
      have cw : wr.cell? ⟨b0, 2, none⟩ = some (.int .i64 (win : Int)) := by have : wr.cell? ⟨X.b, 2, none⟩ = some (.int .i64 (X.win : Int)) := hX.ok.c 2 rfl; rw [hX.b, hxw] at this; exact this
      have hE := (hX.ok.mo s hs).el _ _ (hX.ok.me s hs)
      obtain ⟨wt, hwt⟩ : ∃ k, (P.E s).sent - (P.E s).op = k := ⟨_, rfl⟩
      have e1 : (P.E s).sent = (X.e s).sent := by rw [← hX.pu]; rfl
      have e2 : (P.E s).op = (X.e s).o.p := by rw [← hX.pu]; rfl
      have k1 := hE.s1
      have k2 := hE.s2
      rw [(hX.ok.mt s hs).2.2] at k2
      have k3 := hX.ok.w1.2.2.2
      have hwi : ((X.e s).sent : Int) - ((X.e s).o.p : Int) = (wt : Int) := by omega
      have hwt13 : wt ≤ 13 := by omega
      have HWt : Hid (∀ D, Below wr.heap.size wr D → Calls Try.prog 27 #[.pointer (some ⟨pm, 0, none⟩), .int .i64 (2 + 3 * (1 - (s : Int)))] D fun e w' => e = .returned (.int .i64 (wt : Int)) ∧ Below D.heap.size D w') := fun D hb => (show Calls _ _ _ _ _ from by have := wait_yes ((hX.ok.still hb).mo s hs) (qat (hX.ok.still hb) hs); rw [hwi, hpm] at this; exact this)
      obtain ⟨q, hq⟩ : ∃ k, wt + win - 1 = k := ⟨_, rfl⟩
      obtain ⟨nq, hnq⟩ : ∃ k, q / win = k := ⟨_, rfl⟩
      have HQ : Hid ((q : Int) / (win : Int) = (nq : Int)) := (show _ = _ from by rw [← hnq]; simp)
      have hnq17 : nq ≤ q := by rw [← hnq]; exact Nat.div_le_self _ _
      have hwz : ¬ win = 0 := by omega
      have HNx : Hid (nt P (s + 1) = max (nt P s) nq) := (show _ = _ from by rw [nt_next P hs]; unfold wq; rw [hwt, HPw.out.1, hq, hnq])
      obtain ⟨ns, hns⟩ : ∃ k, nt P s = k := ⟨_, rfl⟩
      rw [hns] at HNx
      rw [hns]
      have HX : Hid (TlS W0 wr b0 P X) := hX
      clear hE hX hpm hxw e1 e2 k1 k2 k3 hwi hwt hnq hns
      go_wp2
      refine wp_region_held_drew (S := (fun w' => w'.cell? ⟨b0, s, none⟩ = some (.pointer (some ⟨pm, 0, none⟩)) ∧ w'.cell? ⟨b0, 2, none⟩ = some (.int .i64 (win : Int)))) (by kernel_rfl) ⟨below_at (drew_bel _) cm, below_at (drew_bel _) cw⟩ (fun hHeld => ?_)
      simp only [Act.put, List.size_toArray, List.length_cons, List.length_nil, Nat.zero_add]
      refine wpAnyH_take (i := 0) (v := .pointer (some ⟨b0, 0, none⟩)) rfl (by kernel_rfl) (by kernel_rfl) (by kernel_rfl) (fun _ _ _ h => h) (Or.inl ⟨by rfl, fun w' hS => by go_simp⟩) hHeld ?_
      simp only [Act.put, List.getElem_toArray, List.getElem_cons_zero, List.getElem_cons_succ, List.setIfInBounds_toArray, List.set_cons_zero, List.set_cons_succ]
      refine wpAnyH_take (i := 1) (v := .int .i64 (s : Int)) rfl (by kernel_rfl) (by kernel_rfl) (by kernel_rfl) (fun _ _ _ h => h) (Or.inl ⟨by rfl, fun w' hS => by go_simp⟩) hHeld ?_
      simp only [Act.put, List.getElem_toArray, List.getElem_cons_zero, List.getElem_cons_succ, List.setIfInBounds_toArray, List.set_cons_zero, List.set_cons_succ]
      refine wpAnyH_take (i := 2) (v := .pointer (some ⟨b0, 0, none⟩)) rfl (by kernel_rfl) (by kernel_rfl) (by kernel_rfl) (fun _ _ _ h => h) (Or.inl ⟨by rfl, fun w' hS => by go_simp⟩) hHeld ?_
      simp only [Act.put, List.getElem_toArray, List.getElem_cons_zero, List.getElem_cons_succ, List.setIfInBounds_toArray, List.set_cons_zero, List.set_cons_succ]
      refine wpAnyH_take (i := 3) (v := .pointer (some ⟨b0, 0, none⟩)) rfl (by kernel_rfl) (by kernel_rfl) (by kernel_rfl) (fun _ _ _ h => h) (Or.inl ⟨by rfl, fun w' hS => by go_simp⟩) hHeld ?_
      simp only [Act.put, List.getElem_toArray, List.getElem_cons_zero, List.getElem_cons_succ, List.setIfInBounds_toArray, List.set_cons_zero, List.set_cons_succ]
      refine wpAnyH_take (i := 4) (v := .pointer (some ⟨b0, s, none⟩)) rfl (by kernel_rfl) (by kernel_rfl) (by kernel_rfl) (fun _ _ _ h => h) (Or.inl ⟨by rfl, fun w' hS => by go_simp⟩) hHeld ?_
      simp only [Act.put, List.getElem_toArray, List.getElem_cons_zero, List.getElem_cons_succ, List.setIfInBounds_toArray, List.set_cons_zero, List.set_cons_succ]
      refine wpAnyH_take (i := 5) (v := .pointer (some ⟨pm, 0, none⟩)) rfl (by kernel_rfl) (by kernel_rfl) (by kernel_rfl) (fun _ _ _ h => h) (Or.inl ⟨by rfl, fun w' hS => by (obtain ⟨s0, s1⟩ := hS; go_simp)⟩) hHeld ?_
      simp only [Act.put, List.getElem_toArray, List.getElem_cons_zero, List.getElem_cons_succ, List.setIfInBounds_toArray, List.set_cons_zero, List.set_cons_succ]
      refine wpAnyH_take (i := 6) (v := .int .i64 (s : Int)) rfl (by kernel_rfl) (by kernel_rfl) (by kernel_rfl) (fun _ _ _ h => h) (Or.inl ⟨by rfl, fun w' hS => by go_simp⟩) hHeld ?_
      simp only [Act.put, List.getElem_toArray, List.getElem_cons_zero, List.getElem_cons_succ, List.setIfInBounds_toArray, List.set_cons_zero, List.set_cons_succ]
      refine wpAnyH_take (i := 7) (v := .int .i64 (1 - (s : Int))) rfl (by kernel_rfl) (by kernel_rfl) (by kernel_rfl) (fun _ _ _ h => h) (Or.inl ⟨by rfl, fun w' hS => by (go_simp <;> exact wrap_id (by omega) (by omega))⟩) hHeld ?_
      simp only [Act.put, List.getElem_toArray, List.getElem_cons_zero, List.getElem_cons_succ, List.setIfInBounds_toArray, List.set_cons_zero, List.set_cons_succ]
      refine wpAnyH_take (i := 10) (v := .pointer (some ⟨b0, 0, none⟩)) rfl (by kernel_rfl) (by kernel_rfl) (by kernel_rfl) (fun _ _ _ h => h) (Or.inl ⟨by rfl, fun w' hS => by go_simp⟩) hHeld ?_
      simp only [Act.put, List.getElem_toArray, List.getElem_cons_zero, List.getElem_cons_succ, List.setIfInBounds_toArray, List.set_cons_zero, List.set_cons_succ]
      refine wpAnyH_take (i := 11) (v := .pointer (some ⟨b0, 0, none⟩)) rfl (by kernel_rfl) (by kernel_rfl) (by kernel_rfl) (fun _ _ _ h => h) (Or.inl ⟨by rfl, fun w' hS => by go_simp⟩) hHeld ?_
      simp only [Act.put, List.getElem_toArray, List.getElem_cons_zero, List.getElem_cons_succ, List.setIfInBounds_toArray, List.set_cons_zero, List.set_cons_succ]
      refine wpAnyH_take (i := 12) (v := .pointer (some ⟨b0, 2, none⟩)) rfl (by kernel_rfl) (by kernel_rfl) (by kernel_rfl) (fun _ _ _ h => h) (Or.inl ⟨by rfl, fun w' hS => by go_simp⟩) hHeld ?_
      simp only [Act.put, List.getElem_toArray, List.getElem_cons_zero, List.getElem_cons_succ, List.setIfInBounds_toArray, List.set_cons_zero, List.set_cons_succ]
      refine wpAnyH_take (i := 13) (v := .int .i64 (win : Int)) rfl (by kernel_rfl) (by kernel_rfl) (by kernel_rfl) (fun _ _ _ h => h) (Or.inl ⟨by rfl, fun w' hS => by (obtain ⟨s0, s1⟩ := hS; go_simp)⟩) hHeld ?_
      simp only [Act.put, List.getElem_toArray, List.getElem_cons_zero, List.getElem_cons_succ, List.setIfInBounds_toArray, List.set_cons_zero, List.set_cons_succ]
      refine wpAnyH_take (i := 16) (v := .pointer (some ⟨b0, 0, none⟩)) rfl (by kernel_rfl) (by kernel_rfl) (by kernel_rfl) (fun _ _ _ h => h) (Or.inl ⟨by rfl, fun w' hS => by go_simp⟩) hHeld ?_
      simp only [Act.put, List.getElem_toArray, List.getElem_cons_zero, List.getElem_cons_succ, List.setIfInBounds_toArray, List.set_cons_zero, List.set_cons_succ]
      refine wpAnyH_take (i := 17) (v := .pointer (some ⟨b0, 0, none⟩)) rfl (by kernel_rfl) (by kernel_rfl) (by kernel_rfl) (fun _ _ _ h => h) (Or.inl ⟨by rfl, fun w' hS => by go_simp⟩) hHeld ?_
      simp only [Act.put, List.getElem_toArray, List.getElem_cons_zero, List.getElem_cons_succ, List.setIfInBounds_toArray, List.set_cons_zero, List.set_cons_succ]
      refine wpAnyH_take (i := 18) (v := .pointer (some ⟨b0, 2, none⟩)) rfl (by kernel_rfl) (by kernel_rfl) (by kernel_rfl) (fun _ _ _ h => h) (Or.inl ⟨by rfl, fun w' hS => by go_simp⟩) hHeld ?_
      simp only [Act.put, List.getElem_toArray, List.getElem_cons_zero, List.getElem_cons_succ, List.setIfInBounds_toArray, List.set_cons_zero, List.set_cons_succ]
      refine wpAnyH_take (i := 19) (v := .int .i64 (win : Int)) rfl (by kernel_rfl) (by kernel_rfl) (by kernel_rfl) (fun _ _ _ h => h) (Or.inl ⟨by rfl, fun w' hS => by (obtain ⟨s0, s1⟩ := hS; go_simp)⟩) hHeld ?_
      simp only [Act.put, List.getElem_toArray, List.getElem_cons_zero, List.getElem_cons_succ, List.setIfInBounds_toArray, List.set_cons_zero, List.set_cons_succ]
      have hbD : Below wr.heap.size wr wr.drew := drew_bel _
      have p1 := below_at hbD cm
      have p2 := below_at hbD cw
      generalize wr.drew = D0 at *
      refine wpAnyH_ready (rs := [8]) (by kernel_rfl) (by simp) ?_
      refine AllReadyH.cons rfl (fun K hK => ?_) AllReadyH.nil
      go_simp
      refine (pid_any j1 j2).mono ?_
      rintro e w2 ⟨rfl, rfl⟩
      refine hK.out _ _ ⟨p1, p2⟩ (fun hHeld => ?_)
      clear hK K
      refine wpAnyH_ready (rs := [9]) (by kernel_rfl) (by simp) ?_
      refine AllReadyH.cons rfl (fun K hK => ?_) AllReadyH.nil
      go_simp
      refine (HWt.out D0 hbD).mono ?_
      rintro e w3 ⟨rfl, hb3⟩
      refine hK.out _ _ ⟨below_at hb3 p1, below_at hb3 p2⟩ (fun hHeld => ?_)
      clear hK K
      refine wpAnyH_take (i := 14) (v := .int .i64 ((wt : Int) + (win : Int))) rfl (by kernel_rfl) (by kernel_rfl) (by kernel_rfl) (fun _ _ _ h => h) (Or.inl ⟨by rfl, fun w' hS => by (go_simp <;> exact wrap_id (by omega) (by omega))⟩) hHeld ?_
      simp only [Act.put, List.getElem_toArray, List.getElem_cons_zero, List.getElem_cons_succ, List.setIfInBounds_toArray, List.set_cons_zero, List.set_cons_succ]
      refine wpAnyH_take (i := 15) (v := .int .i64 (q : Int)) rfl (by kernel_rfl) (by kernel_rfl) (by kernel_rfl) (fun _ _ _ h => h) (Or.inl ⟨by rfl, fun w' hS => by (go_simp <;> (rw [wrap_id (by omega) (by omega)]; omega))⟩) hHeld ?_
      simp only [Act.put, List.getElem_toArray, List.getElem_cons_zero, List.getElem_cons_succ, List.setIfInBounds_toArray, List.set_cons_zero, List.set_cons_succ]
      refine wpAnyH_take (i := 20) (v := .int .i64 (nq : Int)) rfl (by kernel_rfl) (by kernel_rfl) (by kernel_rfl) (fun _ _ _ h => h) (Or.inl ⟨by rfl, fun w' hS => by (go_simp; rw [HQ.out, wrap_id (by omega) (by omega)])⟩) hHeld ?_
      simp only [Act.put, List.getElem_toArray, List.getElem_cons_zero, List.getElem_cons_succ, List.setIfInBounds_toArray, List.set_cons_zero, List.set_cons_succ]
      refine wpAnyH_take (i := 21) (v := .int .i64 (nq : Int)) rfl (by kernel_rfl) (by kernel_rfl) (by kernel_rfl) (fun _ _ _ h => h) (Or.inl ⟨by rfl, fun w' hS => by go_simp⟩) hHeld ?_
      simp only [Act.put, List.getElem_toArray, List.getElem_cons_zero, List.getElem_cons_succ, List.setIfInBounds_toArray, List.set_cons_zero, List.set_cons_succ]
      refine wpAnyH_done (by kernel_rfl) ?_ _
      clear hHeld
      have HF : Hid (∃ X, TlS W0 w3 b0 P X) := (show ∃ X, TlS _ _ _ _ X from ⟨X, (HX.out.step (Xstep.below HX.out.ok hbD) HX.out.pu).step (Xstep.below (HX.out.ok.still hbD) hb3) HX.out.pu⟩)
      clear hbD hb3 p1 p2 cm cw HWt HX HQ
      go_wp2
      refine ⟨⟨s + 1, by omega, by go_num, ?_, HF⟩, by simp [intOf]; omega⟩
      rw [HNx.out]
      congr 1
      split <;> omega
    · have hse : s = 2 := by omega
      obtain ⟨N, hNs⟩ : ∃ k, nt P s = k := ⟨_, rfl⟩
      have hN17 : N ≤ 17 := by rw [← hNs, hse]; have a := HN.out 0 (by omega); have b := HN.out 1 (by omega); show max (wq P 0) (wq P 1) ≤ 17; omega
      have HNk : Hid (nt P 2 = N) := (show _ = _ from by rw [← hNs, hse])
      rw [hNs]
      have HL0 : Hid (∃ X, TlS W0 wr b0 (turnsP P 0) X) := (show ∃ X, TlS _ _ _ _ X from ⟨X, hX⟩)
      have n2 : ¬ (s : Int) < 2 := by omega
      clear hX hse hs hs2 hNs
      go_wp2
      go_loopw [7] (fun v7 wr => ∃ i : Nat, i ≤ N ∧ v7 = .int .i64 (i : Int) ∧ Hid (∃ X, TlS W0 wr b0 (turnsP P i) X)) (fun v7 _ => N - (intOf v7).toNat)
      case atStart => exact ⟨0, by omega, rfl, HL0⟩
      case round =>
        clear HL0
        obtain ⟨i, hi1, rfl, hst⟩ := hrel
        obtain ⟨X, hX⟩ := hst.out
        clear hst
        have HTn : Hid (∀ k wr X, k ≤ 20 → TlS W0 wr b0 (turnsP P k) X → Calls Try.prog 21 #[.pointer (some ⟨b0, 0, none⟩)] wr fun e w' => XO wr w' X W0.heap.size (turnsP P (k + 1)) e) := fun k wr X hk hX => (show Calls _ _ _ _ _ from by
          have := turn_any hX.ok (by rw [hX.pu]; exact turns_inv HI.out k) (T := 400 + 2 * k) (by rw [hX.pu]; exact turns_sz HT.out (by omega) (by rw [HPw.out.1]; exact hw1.2.1) k) (by omega) (by omega) hX.bel.size
          rw [hX.b, hX.pu] at this
          exact this)
        by_cases hlt : i < N
        · have i3 : (i : Int) < (N : Int) := by omega
          have H1 : Hid (Calls Try.prog 21 #[.pointer (some ⟨b0, 0, none⟩)] wr fun e w' => XO wr w' X W0.heap.size (turnsP P (i + 1)) e) := HTn.out i wr X (by omega) hX
          have HX : Hid (TlS W0 wr b0 (turnsP P i) X) := hX
          clear hX HTn
          go_wp2_with (first | (go_at_call 21; refine H1.out.mono ?_) | fail)
          rintro e w4 hx
          obtain ⟨he, X4, hxs, hpu⟩ := hx
          subst he
          have HF : Hid (∃ X, TlS W0 w4 b0 (turnsP P (i + 1)) X) := (show ∃ X, TlS _ _ _ _ X from ⟨X4, HX.out.step hxs hpu⟩)
          clear hxs hpu HX H1
          go_wp2
          exact ⟨⟨i + 1, by omega, by go_num, HF⟩, by simp [intOf]; omega⟩
        · have i3 : ¬ (i : Int) < (N : Int) := by omega
          have hin : i = N := by omega
          rw [hin] at hX
          have HL0 : Hid (∃ X, TlS W0 wr b0 (turnsP P N) X) := (show ∃ X, TlS _ _ _ _ X from ⟨X, hX⟩)
          clear hX hin hlt
          go_wp2
          go_loopw [8] (fun v8 wr => ∃ s : Nat, s ≤ 2 ∧ v8 = .int .i64 (s : Int) ∧ Hid (∃ X, TlS W0 wr b0 (turnsP P N) X)) (fun v8 _ => 2 - (intOf v8).toNat)
          case atStart => exact ⟨0, by omega, rfl, HL0⟩
          case round =>
            clear HL0
            obtain ⟨s, hs2, rfl, hst⟩ := hrel
            obtain ⟨X, hX⟩ := hst.out
            clear hst
            by_cases hs : s < 2
            · have i1 : (0 : Int) ≤ (s : Int) := Int.natCast_nonneg _
              have i2 : (s : Int) < 2 := by omega
              have j1 : (0 : Int) ≤ 1 - (s : Int) := by omega
              have j2 : 1 - (s : Int) ≤ 1 := by omega
              obtain ⟨u, hu⟩ : ∃ u, 1 - s = u := ⟨_, rfl⟩
              have Hts : Hid ((1 : Int) - (s : Int) = (u : Int)) := (show _ = _ from by omega)
              have i5 : (0 : Int) ≤ (u : Int) := Int.natCast_nonneg _
              have i6 : (u : Int) < 2 := by omega
              have hd := turns_done HI.out (by rw [HPw.out.1]; exact hw1.1) hs (k := N) (by rw [← HNk.out]; exact nt_ok P hs (by rw [HPw.out.1]; exact hw1.1))
              rw [hu, ← hX.pu] at hd
              obtain ⟨oa, oc, pa, pc, ol, hov, hpv, hsl⟩ := same_of hX.ok (by omega) hs hd.1 ((show Px.Sz X.pu _ from by rw [hX.pu]; exact turns_sz HT.out (by omega) (by rw [HPw.out.1]; exact hw1.2.1) N).mono (by omega))
              obtain ⟨pm, hpm⟩ : ∃ p, (X.m s).b = p := ⟨_, rfl⟩
              have hxs : X.space = space := (show X.pu.space = space from by rw [hX.pu, (turns_same P N).2.2]; exact HPw.out.2)
              have d0 : wr.cell? ⟨b0, 6 + u, none⟩ = some (.slice oa ol oc) := by have := hX.ok.cr (i := 6 + u) (by omega) (by omega); rw [hX.b, hov] at this; exact this
              have d1 : wr.cell? ⟨b0, 4 + s, none⟩ = some (.slice pa ol pc) := by have := hX.ok.cr (i := 4 + s) (by omega) (by omega); rw [hX.b, hpv] at this; exact this
              have d2 : wr.cell? ⟨b0, s, none⟩ = some (.pointer (some ⟨pm, 0, none⟩)) := by have := hX.ok.cm hs; rw [hX.b, hpm] at this; exact this
              have d3 : wr.cell? ⟨b0, 3, none⟩ = some (.int .i64 (space : Int)) := by have : wr.cell? ⟨X.b, 3, none⟩ = some (.int .i64 (X.space : Int)) := hX.ok.c 3 rfl; rw [hX.b, hxs] at this; exact this
              have HSl : Hid (∀ D, Below wr.heap.size wr D → Calls Try.prog 18 #[.slice oa ol oc, .slice pa ol pc] D fun e w' => e = .returned (.bool true) ∧ Below D.heap.size D w') := hsl
              have HRm : Hid (∀ D, Below wr.heap.size wr D → Calls Try.prog 19 #[.pointer (some ⟨pm, 0, none⟩), .int .i64 (2 + 3 * (1 - (s : Int)))] D fun e w' => e = .returned (.int .i64 (space : Int)) ∧ Below D.heap.size D w') := fun D hb => (show Calls _ _ _ _ _ from by
                have := room_yes ((hX.ok.still hb).mo s hs) (qat (hX.ok.still hb) hs)
                have e1 : (X.e s).sent = (X.e s).o.p := hd.2
                rw [hpm, (hX.ok.mt s hs).2.2, hxs, e1, show (space : Int) - (((X.e s).o.p : Int) - ((X.e s).o.p : Int)) = (space : Int) from by omega] at this
                exact this)
              have HX : Hid (TlS W0 wr b0 (turnsP P N) X) := hX
              clear hX hd hov hpv hsl hpm hxs hu HTn
              go_wp2
              refine wp_region_held_drew (S := (fun w' => w'.cell? ⟨b0, 6 + u, none⟩ = some (.slice oa ol oc) ∧ w'.cell? ⟨b0, 4 + s, none⟩ = some (.slice pa ol pc) ∧ w'.cell? ⟨b0, s, none⟩ = some (.pointer (some ⟨pm, 0, none⟩)) ∧ w'.cell? ⟨b0, 3, none⟩ = some (.int .i64 (space : Int)))) (by kernel_rfl) ⟨below_at (drew_bel _) d0, below_at (drew_bel _) d1, below_at (drew_bel _) d2, below_at (drew_bel _) d3⟩ (fun hHeld => ?_)
              simp only [Act.put, List.size_toArray, List.length_cons, List.length_nil, Nat.zero_add]
              refine wpAnyH_take (i := 0) (v := .pointer (some ⟨b0, 0, none⟩)) rfl (by kernel_rfl) (by kernel_rfl) (by kernel_rfl) (fun _ _ _ h => h) (Or.inl ⟨by rfl, fun w' hS => by go_simp⟩) hHeld ?_
              simp only [Act.put, List.getElem_toArray, List.getElem_cons_zero, List.getElem_cons_succ, List.setIfInBounds_toArray, List.set_cons_zero, List.set_cons_succ]
              refine wpAnyH_take (i := 1) (v := .int .i64 (s : Int)) rfl (by kernel_rfl) (by kernel_rfl) (by kernel_rfl) (fun _ _ _ h => h) (Or.inl ⟨by rfl, fun w' hS => by go_simp⟩) hHeld ?_
              simp only [Act.put, List.getElem_toArray, List.getElem_cons_zero, List.getElem_cons_succ, List.setIfInBounds_toArray, List.set_cons_zero, List.set_cons_succ]
              refine wpAnyH_take (i := 2) (v := .int .i64 (u : Int)) rfl (by kernel_rfl) (by kernel_rfl) (by kernel_rfl) (fun _ _ _ h => h) (Or.inl ⟨by rfl, fun w' hS => by (go_simp <;> (rw [wrap_id (by omega) (by omega)]; exact Hts.out))⟩) hHeld ?_
              simp only [Act.put, List.getElem_toArray, List.getElem_cons_zero, List.getElem_cons_succ, List.setIfInBounds_toArray, List.set_cons_zero, List.set_cons_succ]
              refine wpAnyH_take (i := 3) (v := .pointer (some ⟨b0, 0, none⟩)) rfl (by kernel_rfl) (by kernel_rfl) (by kernel_rfl) (fun _ _ _ h => h) (Or.inl ⟨by rfl, fun w' hS => by go_simp⟩) hHeld ?_
              simp only [Act.put, List.getElem_toArray, List.getElem_cons_zero, List.getElem_cons_succ, List.setIfInBounds_toArray, List.set_cons_zero, List.set_cons_succ]
              refine wpAnyH_take (i := 4) (v := .pointer (some ⟨b0, 6, none⟩)) rfl (by kernel_rfl) (by kernel_rfl) (by kernel_rfl) (fun _ _ _ h => h) (Or.inl ⟨by rfl, fun w' hS => by go_simp⟩) hHeld ?_
              simp only [Act.put, List.getElem_toArray, List.getElem_cons_zero, List.getElem_cons_succ, List.setIfInBounds_toArray, List.set_cons_zero, List.set_cons_succ]
              refine wpAnyH_take (i := 5) (v := .pointer (some ⟨b0, 6 + u, none⟩)) rfl (by kernel_rfl) (by kernel_rfl) (by kernel_rfl) (fun _ _ _ h => h) (Or.inl ⟨by rfl, fun w' hS => by go_simp⟩) hHeld ?_
              simp only [Act.put, List.getElem_toArray, List.getElem_cons_zero, List.getElem_cons_succ, List.setIfInBounds_toArray, List.set_cons_zero, List.set_cons_succ]
              refine wpAnyH_take (i := 6) (v := .slice oa ol oc) rfl (by kernel_rfl) (by kernel_rfl) (by kernel_rfl) (fun _ _ _ h => h) (Or.inl ⟨by rfl, fun w' hS => by (obtain ⟨s0, s1, s2, s3⟩ := hS; go_simp)⟩) hHeld ?_
              simp only [Act.put, List.getElem_toArray, List.getElem_cons_zero, List.getElem_cons_succ, List.setIfInBounds_toArray, List.set_cons_zero, List.set_cons_succ]
              refine wpAnyH_take (i := 7) (v := .pointer (some ⟨b0, 0, none⟩)) rfl (by kernel_rfl) (by kernel_rfl) (by kernel_rfl) (fun _ _ _ h => h) (Or.inl ⟨by rfl, fun w' hS => by go_simp⟩) hHeld ?_
              simp only [Act.put, List.getElem_toArray, List.getElem_cons_zero, List.getElem_cons_succ, List.setIfInBounds_toArray, List.set_cons_zero, List.set_cons_succ]
              refine wpAnyH_take (i := 8) (v := .int .i64 (s : Int)) rfl (by kernel_rfl) (by kernel_rfl) (by kernel_rfl) (fun _ _ _ h => h) (Or.inl ⟨by rfl, fun w' hS => by go_simp⟩) hHeld ?_
              simp only [Act.put, List.getElem_toArray, List.getElem_cons_zero, List.getElem_cons_succ, List.setIfInBounds_toArray, List.set_cons_zero, List.set_cons_succ]
              refine wpAnyH_take (i := 9) (v := .pointer (some ⟨b0, 0, none⟩)) rfl (by kernel_rfl) (by kernel_rfl) (by kernel_rfl) (fun _ _ _ h => h) (Or.inl ⟨by rfl, fun w' hS => by go_simp⟩) hHeld ?_
              simp only [Act.put, List.getElem_toArray, List.getElem_cons_zero, List.getElem_cons_succ, List.setIfInBounds_toArray, List.set_cons_zero, List.set_cons_succ]
              refine wpAnyH_take (i := 10) (v := .pointer (some ⟨b0, 4, none⟩)) rfl (by kernel_rfl) (by kernel_rfl) (by kernel_rfl) (fun _ _ _ h => h) (Or.inl ⟨by rfl, fun w' hS => by go_simp⟩) hHeld ?_
              simp only [Act.put, List.getElem_toArray, List.getElem_cons_zero, List.getElem_cons_succ, List.setIfInBounds_toArray, List.set_cons_zero, List.set_cons_succ]
              refine wpAnyH_take (i := 11) (v := .pointer (some ⟨b0, 4 + s, none⟩)) rfl (by kernel_rfl) (by kernel_rfl) (by kernel_rfl) (fun _ _ _ h => h) (Or.inl ⟨by rfl, fun w' hS => by go_simp⟩) hHeld ?_
              simp only [Act.put, List.getElem_toArray, List.getElem_cons_zero, List.getElem_cons_succ, List.setIfInBounds_toArray, List.set_cons_zero, List.set_cons_succ]
              refine wpAnyH_take (i := 12) (v := .slice pa ol pc) rfl (by kernel_rfl) (by kernel_rfl) (by kernel_rfl) (fun _ _ _ h => h) (Or.inl ⟨by rfl, fun w' hS => by (obtain ⟨s0, s1, s2, s3⟩ := hS; go_simp)⟩) hHeld ?_
              simp only [Act.put, List.getElem_toArray, List.getElem_cons_zero, List.getElem_cons_succ, List.setIfInBounds_toArray, List.set_cons_zero, List.set_cons_succ]
              have hbD : Below wr.heap.size wr wr.drew := drew_bel _
              have p0 := below_at hbD d0
              have p1 := below_at hbD d1
              have p2 := below_at hbD d2
              have p3 := below_at hbD d3
              generalize wr.drew = D0 at *
              refine wpAnyH_ready (rs := [13]) (by kernel_rfl) (by simp) ?_
              refine AllReadyH.cons rfl (fun K hK => ?_) AllReadyH.nil
              go_simp
              refine (HSl.out D0 hbD).mono ?_
              rintro e w2 ⟨rfl, hb2⟩
              refine hK.out _ _ ⟨below_at hb2 p0, below_at hb2 p1, below_at hb2 p2, below_at hb2 p3⟩ (fun hHeld => ?_)
              clear hK K
              refine wpAnyH_take (i := 14) (v := .bool false) rfl (by kernel_rfl) (by kernel_rfl) (by kernel_rfl) (fun _ _ _ h => h) (Or.inl ⟨by rfl, fun w' hS => by go_simp⟩) hHeld ?_
              simp only [Act.put, List.getElem_toArray, List.getElem_cons_zero, List.getElem_cons_succ, List.setIfInBounds_toArray, List.set_cons_zero, List.set_cons_succ]
              refine wpAnyH_take (i := 15) (v := .bool false) rfl (by kernel_rfl) (by kernel_rfl) (by kernel_rfl) (fun _ _ _ h => h) (Or.inl ⟨by rfl, fun w' hS => by go_simp⟩) hHeld ?_
              simp only [Act.put, List.getElem_toArray, List.getElem_cons_zero, List.getElem_cons_succ, List.setIfInBounds_toArray, List.set_cons_zero, List.set_cons_succ]
              refine wpAnyH_take (i := 16) (v := .pointer (some ⟨b0, 0, none⟩)) rfl (by kernel_rfl) (by kernel_rfl) (by kernel_rfl) (fun _ _ _ h => h) (Or.inl ⟨by rfl, fun w' hS => by go_simp⟩) hHeld ?_
              simp only [Act.put, List.getElem_toArray, List.getElem_cons_zero, List.getElem_cons_succ, List.setIfInBounds_toArray, List.set_cons_zero, List.set_cons_succ]
              refine wpAnyH_take (i := 17) (v := .int .i64 (s : Int)) rfl (by kernel_rfl) (by kernel_rfl) (by kernel_rfl) (fun _ _ _ h => h) (Or.inl ⟨by rfl, fun w' hS => by go_simp⟩) hHeld ?_
              simp only [Act.put, List.getElem_toArray, List.getElem_cons_zero, List.getElem_cons_succ, List.setIfInBounds_toArray, List.set_cons_zero, List.set_cons_succ]
              refine wpAnyH_take (i := 18) (v := .pointer (some ⟨b0, 0, none⟩)) rfl (by kernel_rfl) (by kernel_rfl) (by kernel_rfl) (fun _ _ _ h => h) (Or.inl ⟨by rfl, fun w' hS => by go_simp⟩) hHeld ?_
              simp only [Act.put, List.getElem_toArray, List.getElem_cons_zero, List.getElem_cons_succ, List.setIfInBounds_toArray, List.set_cons_zero, List.set_cons_succ]
              refine wpAnyH_take (i := 19) (v := .pointer (some ⟨b0, 0, none⟩)) rfl (by kernel_rfl) (by kernel_rfl) (by kernel_rfl) (fun _ _ _ h => h) (Or.inl ⟨by rfl, fun w' hS => by go_simp⟩) hHeld ?_
              simp only [Act.put, List.getElem_toArray, List.getElem_cons_zero, List.getElem_cons_succ, List.setIfInBounds_toArray, List.set_cons_zero, List.set_cons_succ]
              refine wpAnyH_take (i := 20) (v := .pointer (some ⟨b0, s, none⟩)) rfl (by kernel_rfl) (by kernel_rfl) (by kernel_rfl) (fun _ _ _ h => h) (Or.inl ⟨by rfl, fun w' hS => by go_simp⟩) hHeld ?_
              simp only [Act.put, List.getElem_toArray, List.getElem_cons_zero, List.getElem_cons_succ, List.setIfInBounds_toArray, List.set_cons_zero, List.set_cons_succ]
              refine wpAnyH_take (i := 21) (v := .pointer (some ⟨pm, 0, none⟩)) rfl (by kernel_rfl) (by kernel_rfl) (by kernel_rfl) (fun _ _ _ h => h) (Or.inl ⟨by rfl, fun w' hS => by (obtain ⟨s0, s1, s2, s3⟩ := hS; go_simp)⟩) hHeld ?_
              simp only [Act.put, List.getElem_toArray, List.getElem_cons_zero, List.getElem_cons_succ, List.setIfInBounds_toArray, List.set_cons_zero, List.set_cons_succ]
              refine wpAnyH_take (i := 22) (v := .int .i64 (s : Int)) rfl (by kernel_rfl) (by kernel_rfl) (by kernel_rfl) (fun _ _ _ h => h) (Or.inl ⟨by rfl, fun w' hS => by go_simp⟩) hHeld ?_
              simp only [Act.put, List.getElem_toArray, List.getElem_cons_zero, List.getElem_cons_succ, List.setIfInBounds_toArray, List.set_cons_zero, List.set_cons_succ]
              refine wpAnyH_take (i := 23) (v := .int .i64 (1 - (s : Int))) rfl (by kernel_rfl) (by kernel_rfl) (by kernel_rfl) (fun _ _ _ h => h) (Or.inl ⟨by rfl, fun w' hS => by (go_simp <;> exact wrap_id (by omega) (by omega))⟩) hHeld ?_
              simp only [Act.put, List.getElem_toArray, List.getElem_cons_zero, List.getElem_cons_succ, List.setIfInBounds_toArray, List.set_cons_zero, List.set_cons_succ]
              refine wpAnyH_take (i := 26) (v := .pointer (some ⟨b0, 0, none⟩)) rfl (by kernel_rfl) (by kernel_rfl) (by kernel_rfl) (fun _ _ _ h => h) (Or.inl ⟨by rfl, fun w' hS => by go_simp⟩) hHeld ?_
              simp only [Act.put, List.getElem_toArray, List.getElem_cons_zero, List.getElem_cons_succ, List.setIfInBounds_toArray, List.set_cons_zero, List.set_cons_succ]
              refine wpAnyH_take (i := 27) (v := .pointer (some ⟨b0, 0, none⟩)) rfl (by kernel_rfl) (by kernel_rfl) (by kernel_rfl) (fun _ _ _ h => h) (Or.inl ⟨by rfl, fun w' hS => by go_simp⟩) hHeld ?_
              simp only [Act.put, List.getElem_toArray, List.getElem_cons_zero, List.getElem_cons_succ, List.setIfInBounds_toArray, List.set_cons_zero, List.set_cons_succ]
              refine wpAnyH_take (i := 28) (v := .pointer (some ⟨b0, 3, none⟩)) rfl (by kernel_rfl) (by kernel_rfl) (by kernel_rfl) (fun _ _ _ h => h) (Or.inl ⟨by rfl, fun w' hS => by go_simp⟩) hHeld ?_
              simp only [Act.put, List.getElem_toArray, List.getElem_cons_zero, List.getElem_cons_succ, List.setIfInBounds_toArray, List.set_cons_zero, List.set_cons_succ]
              refine wpAnyH_take (i := 29) (v := .int .i64 (space : Int)) rfl (by kernel_rfl) (by kernel_rfl) (by kernel_rfl) (fun _ _ _ h => h) (Or.inl ⟨by rfl, fun w' hS => by (obtain ⟨s0, s1, s2, s3⟩ := hS; go_simp)⟩) hHeld ?_
              simp only [Act.put, List.getElem_toArray, List.getElem_cons_zero, List.getElem_cons_succ, List.setIfInBounds_toArray, List.set_cons_zero, List.set_cons_succ]
              refine wpAnyH_ready (rs := [24]) (by kernel_rfl) (by simp) ?_
              refine AllReadyH.cons rfl (fun K hK => ?_) AllReadyH.nil
              go_simp
              refine (pid_any j1 j2).mono ?_
              rintro e w3 ⟨rfl, rfl⟩
              refine hK.out _ _ ⟨below_at hb2 p0, below_at hb2 p1, below_at hb2 p2, below_at hb2 p3⟩ (fun hHeld => ?_)
              clear hK K
              refine wpAnyH_ready (rs := [25]) (by kernel_rfl) (by simp) ?_
              refine AllReadyH.cons rfl (fun K hK => ?_) AllReadyH.nil
              go_simp
              refine (HRm.out w2 (bstep hbD hb2)).mono ?_
              rintro e w4 ⟨rfl, hb4⟩
              refine hK.out _ _ ⟨below_at hb4 (below_at hb2 p0), below_at hb4 (below_at hb2 p1), below_at hb4 (below_at hb2 p2), below_at hb4 (below_at hb2 p3)⟩ (fun hHeld => ?_)
              clear hK K
              refine wpAnyH_take (i := 30) (v := .bool false) rfl (by kernel_rfl) (by kernel_rfl) (by kernel_rfl) (fun _ _ _ h => h) (Or.inl ⟨by rfl, fun w' hS => by go_simp⟩) hHeld ?_
              simp only [Act.put, List.getElem_toArray, List.getElem_cons_zero, List.getElem_cons_succ, List.setIfInBounds_toArray, List.set_cons_zero, List.set_cons_succ]
              refine wpAnyH_take (i := 31) (v := .bool false) rfl (by kernel_rfl) (by kernel_rfl) (by kernel_rfl) (fun _ _ _ h => h) (Or.inl ⟨by rfl, fun w' hS => by go_simp⟩) hHeld ?_
              simp only [Act.put, List.getElem_toArray, List.getElem_cons_zero, List.getElem_cons_succ, List.setIfInBounds_toArray, List.set_cons_zero, List.set_cons_succ]
              refine wpAnyH_done (by kernel_rfl) ?_ _
              clear hHeld
              have HF : Hid (∃ X, TlS W0 w4 b0 (turnsP P N) X) := (show ∃ X, TlS _ _ _ _ X from ⟨X, ((HX.out.step (Xstep.below HX.out.ok hbD) HX.out.pu).step (Xstep.below (HX.out.ok.still hbD) hb2) HX.out.pu).step (Xstep.below ((HX.out.ok.still hbD).still hb2) hb4) HX.out.pu⟩)
              clear hbD hb2 hb4 p0 p1 p2 p3 d0 d1 d2 d3 HSl HRm HX
              go_wp2
              exact ⟨⟨s + 1, by omega, by go_num, HF⟩, by simp [intOf]; omega⟩
            · have n3 : ¬ (s : Int) < 2 := by omega
              have H1 : Hid (Calls Try.prog 21 #[.pointer (some ⟨b0, 0, none⟩)] wr fun e w' => XO wr w' X W0.heap.size (turnsP P (N + 1)) e) := HTn.out N wr X (by omega) hX
              have HX : Hid (TlS W0 wr b0 (turnsP P N) X) := hX
              clear hX HTn hs hs2
              go_wp2_with (first | (go_at_call 21; refine H1.out.mono ?_) | fail)
              rintro e w5 hx
              obtain ⟨he, X5, hxs, hpu⟩ := hx
              subst he
              have hS5 : TlS W0 w5 b0 (turnsP P (N + 1)) X5 := HX.out.step hxs hpu
              have HPu : Hid (∀ D, Below w5.heap.size w5 D → Calls Try.prog 8 #[.pointer (some ⟨b0, 0, none⟩), .int .i64 0, .slice (some ⟨D.heap.size, 0, none⟩) 1 1] (D.alloc (.cells #[.int .u8 1] 5)) fun e w' => CaP W0 w' b0 e) := fun D hb => (show Calls _ _ _ _ _ from by
                have hwp : (turnsP P (N + 1)).win = win ∧ (turnsP P (N + 1)).space = space := ⟨(turns_same P _).2.1.trans HPw.out.1, (turns_same P _).2.2.trans HPw.out.2⟩
                have hSD := hS5.step (Xstep.below hS5.ok hb) hS5.pu
                have hA : Below D.heap.size D (D.alloc (.cells #[.int .u8 1] 5)) := balloc (Below.refl _ _)
                have hSA := hSD.step (Xstep.below hSD.ok hA) hSD.pu
                have hI1 := turns_inv HI.out (N + 1)
                have hT1 := turns_sz HT.out (by omega) (by rw [HPw.out.1]; exact hw1.2.1) (N + 1)
                have hd := turns_done HI.out (by rw [HPw.out.1]; exact hw1.1) (s := 0) (by omega) (k := N + 1) (by
                  refine Nat.le_trans (nt_ok P (s := 0) (by omega) (by rw [HPw.out.1]; exact hw1.1)) ?_
                  rw [HNk.out]
                  exact Nat.mul_le_mul_right _ (by omega))
                generalize hQ : turnsP P (N + 1) = Q at *
                have hrd : Rd (D.alloc (.cells #[.int .u8 1] 5)) (some ⟨D.heap.size, 0, none⟩) 1 1 [1] := ⟨rfl, Nat.le_refl _, fun e => (by cases e), .inr ⟨D.heap.size, 0, rfl, fun i hi => by
                  obtain rfl : i = 0 := by omega
                  exact blk_cell (heap_alloc_new _ _) 0⟩, by1⟩
                have hp := wpush_any hSA.ok (by rw [hSA.pu]; exact hI1) (T := 400 + 2 * (N + 1)) (by rw [hSA.pu]; exact hT1) (by omega) (s := 0) (by omega) hrd (fun _ b off e ho => by cases e; have := hSD.ok.lt ho; omega) hSA.bel.size
                rw [hSA.b, hSA.pu] at hp
                refine hp.mono fun e w6 hx6 => ?_
                obtain ⟨he6, X6, hx6s, hx6p⟩ := hx6
                have hS6 : TlS W0 w6 b0 (Q.act a5) X6 := hSA.step hx6s (by rw [hx6p, act5])
                have hI2 : (Q.act a5).Inv := hI1.act a5 by1
                have hT2 : (Q.act a5).Sz (400 + 2 * (N + 1) + 1) := hT1.act a5 (by rw [hwp.1]; exact hw1.2.1)
                have hw2 : (Q.act a5).win = win := (act_win Q a5).1.trans hwp.1
                refine ⟨he6, ?_⟩
                have htn := turn_any hS6.ok (by rw [hS6.pu]; exact hI2) (T := 400 + 2 * (N + 1) + 1) (by rw [hS6.pu]; exact hT2) (by omega) (by omega) hS6.bel.size
                rw [hS6.b, hS6.pu] at htn
                refine htn.mono fun e w7 hx7 => ?_
                obtain ⟨he7, X7, hx7s, hx7p⟩ := hx7
                have hS7 : TlS W0 w7 b0 (Q.act a5).turn X7 := hS6.step hx7s hx7p
                have hI3 : (Q.act a5).turn.Inv := hI2.turn
                have hT3 := turn_sz hT2 (by omega) (by rw [hw2]; exact hw1.2.1)
                have hto := turn_op hI2 (by rw [hw2]; exact hw1.1) (s := 0) (by omega)
                have hsn : ((Q.act a5).E 0).sent = (Q.E 0).sent + 1 ∧ ((Q.act a5).E 0).op = (Q.E 0).op := by
                  rw [act5]
                  unfold Px.push
                  rw [if_pos (by rw [hd.2, hwp.2]; omega)]
                  simp only [upd_same]
                  exact ⟨rfl, rfl⟩
                have hds := done_same hI3 (s := 0) (by omega) (by rw [hto.2, hsn.1]; have := hto.1; rw [hsn.1, hsn.2, hw2] at this; have := hd.2; omega)
                rw [← hS7.pu] at hds
                obtain ⟨oa, oc, pa, pc, ol, hov, hpv, hsl⟩ := same_of hS7.ok (u := 1) (s := 0) (by omega) (by omega) hds.1 ((show Px.Sz X7.pu _ from by rw [hS7.pu]; exact hT3).mono (by omega))
                exact ⟨he7, oa, oc, pa, pc, ol, by have := hS7.ok.cr (i := 7) (by omega) (by omega); rw [hS7.b, hov] at this; exact this, by have := hS7.ok.cr (i := 4) (by omega) (by omega); rw [hS7.b, hpv] at this; exact this, hsl w7 (Below.refl _ _), hS7.bel⟩)
              clear hS5 hxs hpu HX H1
              go_wp2
              refine wp_region_held_drew (S := (fun w' => True)) (by kernel_rfl) trivial (fun hHeld => ?_)
              simp only [Act.put, List.size_toArray, List.length_cons, List.length_nil, Nat.zero_add]
              refine wpAnyH_take (i := 0) (v := .bool true) rfl (by kernel_rfl) (by kernel_rfl) (by kernel_rfl) (fun _ _ _ h => h) (Or.inl ⟨by rfl, fun w' hS => by go_simp⟩) hHeld ?_
              simp only [Act.put, List.getElem_toArray, List.getElem_cons_zero, List.getElem_cons_succ, List.setIfInBounds_toArray, List.set_cons_zero, List.set_cons_succ]
              refine wpAnyH_take (i := 1) (v := .bool true) rfl (by kernel_rfl) (by kernel_rfl) (by kernel_rfl) (fun _ _ _ h => h) (Or.inl ⟨by rfl, fun w' hS => by go_simp⟩) hHeld ?_
              simp only [Act.put, List.getElem_toArray, List.getElem_cons_zero, List.getElem_cons_succ, List.setIfInBounds_toArray, List.set_cons_zero, List.set_cons_succ]
              refine wpAnyH_take (i := 2) (v := .pointer (some ⟨b0, 0, none⟩)) rfl (by kernel_rfl) (by kernel_rfl) (by kernel_rfl) (fun _ _ _ h => h) (Or.inl ⟨by rfl, fun w' hS => by go_simp⟩) hHeld ?_
              simp only [Act.put, List.getElem_toArray, List.getElem_cons_zero, List.getElem_cons_succ, List.setIfInBounds_toArray, List.set_cons_zero, List.set_cons_succ]
              have hbD : Below w5.heap.size w5 w5.drew := drew_bel _
              generalize w5.drew = D5 at *
              refine wpAnyH_ready (rs := [3]) (by kernel_rfl) (by simp) ?_
              refine AllReadyH.cons rfl (fun K hK => ?_) AllReadyH.nil
              go_simp
              refine hK.out _ _ trivial (fun hHeld => ?_)
              clear hK K
              refine wpAnyH_ready (rs := [4]) (by kernel_rfl) (by simp) ?_
              refine AllReadyH.cons rfl (fun K hK => ?_) AllReadyH.nil
              go_simp
              refine (HPu.out D5 hbD).mono ?_
              rintro e w6 hx6
              obtain ⟨he6, H6⟩ := hx6
              subst he6
              refine hK.out _ _ trivial (fun hHeld => ?_)
              clear hK K
              refine wpAnyH_take (i := 5) (v := .bool true) rfl (by kernel_rfl) (by kernel_rfl) (by kernel_rfl) (fun _ _ _ h => h) (Or.inl ⟨by rfl, fun w' hS => by go_simp⟩) hHeld ?_
              simp only [Act.put, List.getElem_toArray, List.getElem_cons_zero, List.getElem_cons_succ, List.setIfInBounds_toArray, List.set_cons_zero, List.set_cons_succ]
              refine wpAnyH_take (i := 6) (v := .bool true) rfl (by kernel_rfl) (by kernel_rfl) (by kernel_rfl) (fun _ _ _ h => h) (Or.inl ⟨by rfl, fun w' hS => by go_simp⟩) hHeld ?_
              simp only [Act.put, List.getElem_toArray, List.getElem_cons_zero, List.getElem_cons_succ, List.setIfInBounds_toArray, List.set_cons_zero, List.set_cons_succ]
              refine wpAnyH_take (i := 7) (v := .pointer (some ⟨b0, 0, none⟩)) rfl (by kernel_rfl) (by kernel_rfl) (by kernel_rfl) (fun _ _ _ h => h) (Or.inl ⟨by rfl, fun w' hS => by go_simp⟩) hHeld ?_
              simp only [Act.put, List.getElem_toArray, List.getElem_cons_zero, List.getElem_cons_succ, List.setIfInBounds_toArray, List.set_cons_zero, List.set_cons_succ]
              refine wpAnyH_ready (rs := [8]) (by kernel_rfl) (by simp) ?_
              refine AllReadyH.cons rfl (fun K hK => ?_) AllReadyH.nil
              go_simp
              refine (H6).mono ?_
              rintro e w7 hx7
              obtain ⟨he7, oa, oc, pa, pc, ol, k7, k4, HSl, hb7⟩ := hx7.out
              subst he7
              refine hK.out _ _ trivial (fun hHeld => ?_)
              clear hK K
              refine wpAnyH_take (i := 9) (v := .bool true) rfl (by kernel_rfl) (by kernel_rfl) (by kernel_rfl) (fun _ _ _ h => h) (Or.inl ⟨by rfl, fun w' hS => by go_simp⟩) hHeld ?_
              simp only [Act.put, List.getElem_toArray, List.getElem_cons_zero, List.getElem_cons_succ, List.setIfInBounds_toArray, List.set_cons_zero, List.set_cons_succ]
              refine wpAnyH_take (i := 10) (v := .bool true) rfl (by kernel_rfl) (by kernel_rfl) (by kernel_rfl) (fun _ _ _ h => h) (Or.inl ⟨by rfl, fun w' hS => by go_simp⟩) hHeld ?_
              simp only [Act.put, List.getElem_toArray, List.getElem_cons_zero, List.getElem_cons_succ, List.setIfInBounds_toArray, List.set_cons_zero, List.set_cons_succ]
              refine wpAnyH_take (i := 11) (v := .pointer (some ⟨b0, 0, none⟩)) rfl (by kernel_rfl) (by kernel_rfl) (by kernel_rfl) (fun _ _ _ h => h) (Or.inl ⟨by rfl, fun w' hS => by go_simp⟩) hHeld ?_
              simp only [Act.put, List.getElem_toArray, List.getElem_cons_zero, List.getElem_cons_succ, List.setIfInBounds_toArray, List.set_cons_zero, List.set_cons_succ]
              refine wpAnyH_take (i := 12) (v := .pointer (some ⟨b0, 0, none⟩)) rfl (by kernel_rfl) (by kernel_rfl) (by kernel_rfl) (fun _ _ _ h => h) (Or.inl ⟨by rfl, fun w' hS => by go_simp⟩) hHeld ?_
              simp only [Act.put, List.getElem_toArray, List.getElem_cons_zero, List.getElem_cons_succ, List.setIfInBounds_toArray, List.set_cons_zero, List.set_cons_succ]
              refine wpAnyH_take (i := 13) (v := .pointer (some ⟨b0, 6, none⟩)) rfl (by kernel_rfl) (by kernel_rfl) (by kernel_rfl) (fun _ _ _ h => h) (Or.inl ⟨by rfl, fun w' hS => by go_simp⟩) hHeld ?_
              simp only [Act.put, List.getElem_toArray, List.getElem_cons_zero, List.getElem_cons_succ, List.setIfInBounds_toArray, List.set_cons_zero, List.set_cons_succ]
              refine wpAnyH_take (i := 14) (v := .pointer (some ⟨b0, 7, none⟩)) rfl (by kernel_rfl) (by kernel_rfl) (by kernel_rfl) (fun _ _ _ h => h) (Or.inl ⟨by rfl, fun w' hS => by go_simp⟩) hHeld ?_
              simp only [Act.put, List.getElem_toArray, List.getElem_cons_zero, List.getElem_cons_succ, List.setIfInBounds_toArray, List.set_cons_zero, List.set_cons_succ]
              refine wpAnyH_take (i := 16) (v := .pointer (some ⟨b0, 0, none⟩)) rfl (by kernel_rfl) (by kernel_rfl) (by kernel_rfl) (fun _ _ _ h => h) (Or.inl ⟨by rfl, fun w' hS => by go_simp⟩) hHeld ?_
              simp only [Act.put, List.getElem_toArray, List.getElem_cons_zero, List.getElem_cons_succ, List.setIfInBounds_toArray, List.set_cons_zero, List.set_cons_succ]
              refine wpAnyH_take (i := 17) (v := .pointer (some ⟨b0, 0, none⟩)) rfl (by kernel_rfl) (by kernel_rfl) (by kernel_rfl) (fun _ _ _ h => h) (Or.inl ⟨by rfl, fun w' hS => by go_simp⟩) hHeld ?_
              simp only [Act.put, List.getElem_toArray, List.getElem_cons_zero, List.getElem_cons_succ, List.setIfInBounds_toArray, List.set_cons_zero, List.set_cons_succ]
              refine wpAnyH_take (i := 18) (v := .pointer (some ⟨b0, 4, none⟩)) rfl (by kernel_rfl) (by kernel_rfl) (by kernel_rfl) (fun _ _ _ h => h) (Or.inl ⟨by rfl, fun w' hS => by go_simp⟩) hHeld ?_
              simp only [Act.put, List.getElem_toArray, List.getElem_cons_zero, List.getElem_cons_succ, List.setIfInBounds_toArray, List.set_cons_zero, List.set_cons_succ]
              refine wpAnyH_take (i := 19) (v := .pointer (some ⟨b0, 4, none⟩)) rfl (by kernel_rfl) (by kernel_rfl) (by kernel_rfl) (fun _ _ _ h => h) (Or.inl ⟨by rfl, fun w' hS => by go_simp⟩) hHeld ?_
              simp only [Act.put, List.getElem_toArray, List.getElem_cons_zero, List.getElem_cons_succ, List.setIfInBounds_toArray, List.set_cons_zero, List.set_cons_succ]
              refine wpAnyH_ready (rs := [15, 20]) (by kernel_rfl) (by simp) ?_
              refine AllReadyH.cons rfl (fun K hK => ?_) (AllReadyH.cons rfl (fun K hK => ?_) AllReadyH.nil)
              · go_simp
                refine hK.out _ _ trivial (fun hHeld => ?_)
                clear hK K
                refine wpAnyH_ready (rs := [20]) (by kernel_rfl) (by simp) ?_
                refine AllReadyH.cons rfl (fun K hK => ?_) AllReadyH.nil
                go_simp
                refine hK.out _ _ trivial (fun hHeld => ?_)
                clear hK K
                refine wpAnyH_ready (rs := [21]) (by kernel_rfl) (by simp) ?_
                refine AllReadyH.cons rfl (fun K hK => ?_) AllReadyH.nil
                go_simp
                refine (HSl.out).mono ?_
                rintro e w8 ⟨rfl, hb8⟩
                refine hK.out _ _ trivial (fun hHeld => ?_)
                clear hK K
                refine wpAnyH_take (i := 22) (v := .bool true) rfl (by kernel_rfl) (by kernel_rfl) (by kernel_rfl) (fun _ _ _ h => h) (Or.inl ⟨by rfl, fun w' hS => by go_simp⟩) hHeld ?_
                simp only [Act.put, List.getElem_toArray, List.getElem_cons_zero, List.getElem_cons_succ, List.setIfInBounds_toArray, List.set_cons_zero, List.set_cons_succ]
                refine wpAnyH_take (i := 23) (v := .bool true) rfl (by kernel_rfl) (by kernel_rfl) (by kernel_rfl) (fun _ _ _ h => h) (Or.inl ⟨by rfl, fun w' hS => by go_simp⟩) hHeld ?_
                simp only [Act.put, List.getElem_toArray, List.getElem_cons_zero, List.getElem_cons_succ, List.setIfInBounds_toArray, List.set_cons_zero, List.set_cons_succ]
                refine wpAnyH_done (by kernel_rfl) ?_ _
                clear hHeld
                have HZ : Hid (Below w.heap.size w w8) := (show Below _ _ _ from bstep (bstep HbW.out hb7) hb8)
                clear hb8 hb7 k7 k4 HSl
                go_wp2
                go_ret
                exact ⟨rfl, HZ.out⟩
              · go_simp
                refine hK.out _ _ trivial (fun hHeld => ?_)
                clear hK K
                refine wpAnyH_ready (rs := [15]) (by kernel_rfl) (by simp) ?_
                refine AllReadyH.cons rfl (fun K hK => ?_) AllReadyH.nil
                go_simp
                refine hK.out _ _ trivial (fun hHeld => ?_)
                clear hK K
                refine wpAnyH_ready (rs := [21]) (by kernel_rfl) (by simp) ?_
                refine AllReadyH.cons rfl (fun K hK => ?_) AllReadyH.nil
                go_simp
                refine (HSl.out).mono ?_
                rintro e w8 ⟨rfl, hb8⟩
                refine hK.out _ _ trivial (fun hHeld => ?_)
                clear hK K
                refine wpAnyH_take (i := 22) (v := .bool true) rfl (by kernel_rfl) (by kernel_rfl) (by kernel_rfl) (fun _ _ _ h => h) (Or.inl ⟨by rfl, fun w' hS => by go_simp⟩) hHeld ?_
                simp only [Act.put, List.getElem_toArray, List.getElem_cons_zero, List.getElem_cons_succ, List.setIfInBounds_toArray, List.set_cons_zero, List.set_cons_succ]
                refine wpAnyH_take (i := 23) (v := .bool true) rfl (by kernel_rfl) (by kernel_rfl) (by kernel_rfl) (fun _ _ _ h => h) (Or.inl ⟨by rfl, fun w' hS => by go_simp⟩) hHeld ?_
                simp only [Act.put, List.getElem_toArray, List.getElem_cons_zero, List.getElem_cons_succ, List.setIfInBounds_toArray, List.set_cons_zero, List.set_cons_succ]
                refine wpAnyH_done (by kernel_rfl) ?_ _
                clear hHeld
                have HZ : Hid (Below w.heap.size w w8) := (show Below _ _ _ from bstep (bstep HbW.out hb7) hb8)
                clear hb8 hb7 k7 k4 HSl
                go_wp2
                go_ret
                exact ⟨rfl, HZ.out⟩

end
end Go.Proofs.Ytgpehjkogfbnkaa.Ln
