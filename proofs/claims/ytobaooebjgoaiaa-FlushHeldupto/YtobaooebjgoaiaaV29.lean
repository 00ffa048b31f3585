import Derived.Test.YtobaooebjgoaiaaV15
import Derived.Laws.ResultCell
import Derived.Test.YtobaooebjgoaiaaV18
import Derived.Test.YtobaooebjgoaiaaV28
namespace Go.Proofs.Ytobaooebjgoaiaa.Fm
open Go.RowKit Go.Maps Mb
set_option linter.unusedVariables false
set_option maxRecDepth 100000
set_option linter.unusedSimpArgs false
section
variable {w w' W : World} {B : Nat}
structure Dx where
 s : Int × Int
 st : Int
 ba : Option Addr
 bc : Nat
 bs : List Int
def dx0 : Dx := ⟨z2, 0, none, 0, []⟩
def Dx.cs (d : Dx) : List Value := [.int .i64 d.s.1, .int .i64 d.s.2, .int .i64 d.st, .slice d.ba d.bs.length d.bc]
def RdB (w : World) (ao : Option Addr) (bs : List Int) : Prop := Row w ao bs.length 1 fun i => .int .u8 (bs.getD i 0)
structure Dx.Rd (d : Dx) (w : World) : Prop where
 b : RdB w d.ba d.bs
 r : i64B d.s.1 ∧ i64B d.s.2
def dxC (ds : List Dx) (i : Nat) : Value := ((ds.getD (i / 4) dx0).cs).getD (i % 4) undef
structure RdDs (w : World) (ao : Option Addr) (ds : List Dx) : Prop where
 row : Row w ao ds.length 4 (dxC ds)
 el : ∀ i, i < ds.length → (ds.getD i dx0).Rd w
theorem Dx.Rd.still {d : Dx} (h : d.Rd w) (hb : Below w.heap.size w w') : d.Rd w' := ⟨Row.still h.b hb, h.r⟩
theorem RdDs.still {ao : Option Addr} {ds : List Dx} (h : RdDs w ao ds) (hb : Below w.heap.size w w') : RdDs w' ao ds := ⟨h.row.still hb, fun i hi => (h.el i hi).still hb⟩
theorem Dx.cs_len (d : Dx) : d.cs.length = 4 := rfl
theorem dxcs_one (d : Dx) : ∀ u ∈ d.cs, u.oneCell' = true := by
 intro u hu
 simp [Dx.cs] at hu
 rcases hu with rfl | rfl | rfl | rfl <;> rfl
theorem RdDs.at {ao : Option Addr} {ds : List Dx} (h : RdDs w ao ds) {i : Nat} (hi : i < ds.length) : ∃ b off, ao = some ⟨b, off, none⟩ ∧ w.rangeAt b (off + i * 4) (ds.getD i dx0).cs := by
 rcases h.row with h1 | ⟨b, off, h1, h2⟩
 ·omega
 ·refine ⟨b, off, h1, fun j v hv => ?_⟩
  have hj : j < 4 := by have := (List.getElem?_eq_some_iff.1 hv).1; rwa [Dx.cs_len] at this
  have e := h2 (i * 4 + j) (by omega)
  simp only [dxC, show (i * 4 + j) / 4 = i by omega, show (i * 4 + j) % 4 = j by omega] at e
  rw [← Nat.add_assoc] at e
  rw [e, List.getD, hv]
  rfl
theorem info_data : (Try.prog.info? 95).map (·.size) = some 4 := by kernel_rfl
def First (ds : List Dx) (s : Int × Int) (i : Nat) : Prop := i < ds.length ∧ (ds.getD i dx0).s = s ∧ ∀ j, j < i → (ds.getD j dx0).s ≠ s
theorem First.eq {ds : List Dx} {s : Int × Int} {i j : Nat} (h : First ds s i) (k : First ds s j) : i = j := by
 by_cases h1 : i < j
 ·exact absurd h.2.1 (k.2.2 i h1)
 ·by_cases h2 : j < i
  ·exact absurd k.2.1 (h.2.2 j h2)
  ·omega
def FindS (ds : List Dx) (s : Int × Int) (r : Int) : Prop := (r = -1 ∧ ∀ i, i < ds.length → (ds.getD i dx0).s ≠ s) ∨ ∃ i : Nat, r = i ∧ First ds s i
set_option maxHeartbeats 4000000 in
theorem qfind_any {ao : Option Addr} {cp : Nat} {ds : List Dx} (hr : RdDs w ao ds) (hn : ds.length ≤ 1000000000000000000) (s : Int × Int) : Calls Try.prog 50 #[.slice ao ds.length cp, .agg (slotV s).toArray] w fun e w' => ∃ r, e = .returned (.int .i64 r) ∧ FindS ds s r ∧ Below w.heap.size w w' := by
 generalize hW1 : w.alloc (.cells (slotV s).toArray 76) = W1
 have b1 : Below w.heap.size w W1 := hW1 ▸ balloc (Below.refl _ _)
 have k1 : W1.heap[w.heap.size]? = some (.cells (slotV s).toArray 76 (0, 0)) := by rw [← hW1]; exact heap_alloc_new w _
 have HR : Hid (RdDs W1 ao ds) := hr.still b1
 have HB : Hid (Below w.heap.size w W1) := b1
 have HBz : Hid (w.heap.size ≤ W1.heap.size) := b1.size
 have HK : Hid (W1.heap[w.heap.size]? = some (.cells (slotV s).toArray 76 (0, 0))) := k1
 have HC : Hid (∀ V : World, Below W1.heap.size W1 V → V.cell? ⟨w.heap.size, 0, none⟩ = some (.int .i64 s.1) ∧ V.cell? ⟨w.heap.size, 1, none⟩ = some (.int .i64 s.2)) := fun V hV => ⟨below_at hV (blk_cell k1 0), below_at hV (blk_cell k1 1)⟩
 have HF : Hid (∀ r, FindS ds s r ↔ ((r = -1 ∧ ∀ i, i < ds.length → (ds.getD i dx0).s ≠ s) ∨ ∃ i : Nat, r = i ∧ First ds s i)) := fun r => Iff.rfl
 have HFi : Hid (∀ i, First ds s i ↔ (i < ds.length ∧ (ds.getD i dx0).s = s ∧ ∀ j, j < i → (ds.getD j dx0).s ≠ s)) := fun r => Iff.rfl
 generalize hL : ds.length = L at *
 have HLe : Hid (ds.length = L) := hL
 clear hr hL b1 k1
 obtain ⟨s1, s2⟩ := s
 simp only at HC
 generalize (slotV (s1, s2)).toArray = pc at *
 go_enter Try.func50, Try.ntmps50
 go_wp2
 clear hW1
 generalize hkb : w.heap.size = kb at *
 have Hkb : Hid (w.heap.size = kb) := hkb
 clear hkb
 go_loopw [5] (fun v wr => ∃ j : Nat, j ≤ L ∧ v = .int .i64 j ∧ (∀ k, k < j → (ds.getD k dx0).s ≠ (s1, s2)) ∧ Below W1.heap.size W1 wr) (fun v _ => L - (intOf v).toNat)
 case atStart => exact ⟨0, Nat.zero_le _, rfl, fun k hk => by omega, Below.refl _ _⟩
 case round =>
  obtain ⟨j, hj, rfl, hno, hb⟩ := hrel
  have HN : Hid (∀ k, k < j → (ds.getD k dx0).s ≠ (s1, s2)) := hno
  have HW : Hid (Below W1.heap.size W1 wr) := hb
  clear hno hb
  by_cases hlt : j < L
  ·obtain ⟨b, off, rfl, hc⟩ := (HR.out.still HW.out).at (i := j) (by rw [HLe.out]; exact hlt)
   have q0 : wr.cell? ⟨b, off + j * 4, none⟩ = some (.int .i64 (ds.getD j dx0).s.1) := hc 0 _ rfl
   have q1 : wr.cell? ⟨b, off + j * 4 + 1, none⟩ = some (.int .i64 (ds.getD j dx0).s.2) := hc 1 _ rfl
   obtain ⟨c0, c1⟩ := HC.out wr HW.out
   have i1 : (0 : Int) ≤ (j : Int) := Int.natCast_nonneg _
   have i2 : (j : Int) < (L : Int) := by omega
   have Hy : Hid ((ds.getD j dx0).s = (s1, s2) → FindS ds (s1, s2) (j : Int)) := fun h => (HF.out _).2 (.inr ⟨j, rfl, (HFi.out j).2 ⟨hlt, h, HN.out⟩⟩)
   have Hn : Hid ((ds.getD j dx0).s ≠ (s1, s2) → ∀ k, k < j + 1 → (ds.getD k dx0).s ≠ (s1, s2)) := fun h k hk => by
    by_cases e : k = j
    ·subst e; exact h
    ·exact HN.out k (by omega)
   clear hc
   generalize (ds.getD j dx0).s = u at *
   obtain ⟨u1, u2⟩ := u
   simp only at q0 q1
   by_cases h1 : u1 = s1
   ·subst h1
    by_cases h2 : u2 = s2
    ·subst h2
     have Hr : Hid (FindS ds (u1, u2) (j : Int)) := Hy.out rfl
     go_wp2_with (fail)
     refine wp_region_held_drew (S := (fun w' => w'.cell? ⟨b, off + j * 4, none⟩ = some (.int .i64 u1) ∧ w'.cell? ⟨b, off + j * 4 + 1, none⟩ = some (.int .i64 u2) ∧ w'.cell? ⟨kb, 0, none⟩ = some (.int .i64 u1) ∧ w'.cell? ⟨kb, 1, none⟩ = some (.int .i64 u2))) (by kernel_rfl) ⟨below_at (Below.refl _ _).drew q0, below_at (Below.refl _ _).drew q1, below_at (Below.refl _ _).drew c0, below_at (Below.refl _ _).drew c1⟩ (fun hHeld => ?_)
     simp only [Act.put, List.size_toArray, List.length_cons, List.length_nil, Nat.zero_add]
     refine wG9 0 (.slice (some ⟨b, off, none⟩) L cp) rfl hHeld ?_
     simp only [Act.put,gA9,gZ9,gC9,sA9,sZ9,sC9]
     refine wG9 1 (.int .i64 (j : Int)) rfl hHeld ?_
     simp only [Act.put,gA9,gZ9,gC9,sA9,sZ9,sC9]
     refine wG9 2 (.pointer (some ⟨b, off + j * 4, none⟩)) rfl hHeld ?_
     simp only [Act.put,gA9,gZ9,gC9,sA9,sZ9,sC9]
     refine wG9 3 (.pointer (some ⟨b, off + j * 4, none⟩)) rfl hHeld ?_
     simp only [Act.put,gA9,gZ9,gC9,sA9,sZ9,sC9]
     refine wX9 4 (.int .i64 u1) rfl (Or.inl ⟨by rfl, fun w' hS => by (obtain ⟨t0, t1, t2, t3⟩ := hS; go_simp)⟩) hHeld ?_
     simp only [Act.put,gA9,gZ9,gC9,sA9,sZ9,sC9]
     refine wG9 5 (.pointer (some ⟨kb, 0, none⟩)) rfl hHeld ?_
     simp only [Act.put,gA9,gZ9,gC9,sA9,sZ9,sC9]
     refine wX9 6 (.int .i64 u1) rfl (Or.inl ⟨by rfl, fun w' hS => by (obtain ⟨t0, t1, t2, t3⟩ := hS; go_simp)⟩) hHeld ?_
     simp only [Act.put,gA9,gZ9,gC9,sA9,sZ9,sC9]
     refine wX9 7 (.bool true) rfl (Or.inl ⟨by rfl, fun w' hS => by first | (go_simp; done) | (go_simp; omega) | (go_simp; simp_all)⟩) hHeld ?_
     simp only [Act.put,gA9,gZ9,gC9,sA9,sZ9,sC9]
     refine wG9 8 (.bool true) rfl hHeld ?_
     simp only [Act.put,gA9,gZ9,gC9,sA9,sZ9,sC9]
     refine wG9 9 (.slice (some ⟨b, off, none⟩) L cp) rfl hHeld ?_
     simp only [Act.put,gA9,gZ9,gC9,sA9,sZ9,sC9]
     refine wG9 10 (.int .i64 (j : Int)) rfl hHeld ?_
     simp only [Act.put,gA9,gZ9,gC9,sA9,sZ9,sC9]
     refine wG9 11 (.pointer (some ⟨b, off + j * 4, none⟩)) rfl hHeld ?_
     simp only [Act.put,gA9,gZ9,gC9,sA9,sZ9,sC9]
     refine wG9 12 (.pointer (some ⟨b, off + j * 4 + 1, none⟩)) rfl hHeld ?_
     simp only [Act.put,gA9,gZ9,gC9,sA9,sZ9,sC9]
     refine wX9 13 (.int .i64 u2) rfl (Or.inl ⟨by rfl, fun w' hS => by (obtain ⟨t0, t1, t2, t3⟩ := hS; go_simp)⟩) hHeld ?_
     simp only [Act.put,gA9,gZ9,gC9,sA9,sZ9,sC9]
     refine wG9 14 (.pointer (some ⟨kb, 1, none⟩)) rfl hHeld ?_
     simp only [Act.put,gA9,gZ9,gC9,sA9,sZ9,sC9]
     refine wX9 15 (.int .i64 u2) rfl (Or.inl ⟨by rfl, fun w' hS => by (obtain ⟨t0, t1, t2, t3⟩ := hS; go_simp)⟩) hHeld ?_
     simp only [Act.put,gA9,gZ9,gC9,sA9,sZ9,sC9]
     refine wX9 16 (.bool true) rfl (Or.inl ⟨by rfl, fun w' hS => by first | (go_simp; done) | (go_simp; omega) | (go_simp; simp_all)⟩) hHeld ?_
     simp only [Act.put,gA9,gZ9,gC9,sA9,sZ9,sC9]
     refine wG9 17 (.bool true) rfl hHeld ?_
     simp only [Act.put,gA9,gZ9,gC9,sA9,sZ9,sC9]
     refine wpAnyH_done (by kernel_rfl) ?_ _
     clear hHeld
     go_wp2
     go_ret
     exact ⟨(j : Int), rfl, Hr.out, by rw [Hkb.out]; exact (HB.out.trans (HW.out.mono HBz.out)).drew⟩
    ·have Hr : Hid (∀ k, k < j + 1 → (ds.getD k dx0).s ≠ (u1, s2)) := Hn.out (fun e => by cases e; exact h2 rfl)
     go_wp2_with (fail)
     refine wp_region_held_drew (S := (fun w' => w'.cell? ⟨b, off + j * 4, none⟩ = some (.int .i64 u1) ∧ w'.cell? ⟨b, off + j * 4 + 1, none⟩ = some (.int .i64 u2) ∧ w'.cell? ⟨kb, 0, none⟩ = some (.int .i64 u1) ∧ w'.cell? ⟨kb, 1, none⟩ = some (.int .i64 s2))) (by kernel_rfl) ⟨below_at (Below.refl _ _).drew q0, below_at (Below.refl _ _).drew q1, below_at (Below.refl _ _).drew c0, below_at (Below.refl _ _).drew c1⟩ (fun hHeld => ?_)
     simp only [Act.put, List.size_toArray, List.length_cons, List.length_nil, Nat.zero_add]
     refine wG9 0 (.slice (some ⟨b, off, none⟩) L cp) rfl hHeld ?_
     simp only [Act.put,gA9,gZ9,gC9,sA9,sZ9,sC9]
     refine wG9 1 (.int .i64 (j : Int)) rfl hHeld ?_
     simp only [Act.put,gA9,gZ9,gC9,sA9,sZ9,sC9]
     refine wG9 2 (.pointer (some ⟨b, off + j * 4, none⟩)) rfl hHeld ?_
     simp only [Act.put,gA9,gZ9,gC9,sA9,sZ9,sC9]
     refine wG9 3 (.pointer (some ⟨b, off + j * 4, none⟩)) rfl hHeld ?_
     simp only [Act.put,gA9,gZ9,gC9,sA9,sZ9,sC9]
     refine wX9 4 (.int .i64 u1) rfl (Or.inl ⟨by rfl, fun w' hS => by (obtain ⟨t0, t1, t2, t3⟩ := hS; go_simp)⟩) hHeld ?_
     simp only [Act.put,gA9,gZ9,gC9,sA9,sZ9,sC9]
     refine wG9 5 (.pointer (some ⟨kb, 0, none⟩)) rfl hHeld ?_
     simp only [Act.put,gA9,gZ9,gC9,sA9,sZ9,sC9]
     refine wX9 6 (.int .i64 u1) rfl (Or.inl ⟨by rfl, fun w' hS => by (obtain ⟨t0, t1, t2, t3⟩ := hS; go_simp)⟩) hHeld ?_
     simp only [Act.put,gA9,gZ9,gC9,sA9,sZ9,sC9]
     refine wX9 7 (.bool true) rfl (Or.inl ⟨by rfl, fun w' hS => by first | (go_simp; done) | (go_simp; omega) | (go_simp; simp_all)⟩) hHeld ?_
     simp only [Act.put,gA9,gZ9,gC9,sA9,sZ9,sC9]
     refine wG9 8 (.bool true) rfl hHeld ?_
     simp only [Act.put,gA9,gZ9,gC9,sA9,sZ9,sC9]
     refine wG9 9 (.slice (some ⟨b, off, none⟩) L cp) rfl hHeld ?_
     simp only [Act.put,gA9,gZ9,gC9,sA9,sZ9,sC9]
     refine wG9 10 (.int .i64 (j : Int)) rfl hHeld ?_
     simp only [Act.put,gA9,gZ9,gC9,sA9,sZ9,sC9]
     refine wG9 11 (.pointer (some ⟨b, off + j * 4, none⟩)) rfl hHeld ?_
     simp only [Act.put,gA9,gZ9,gC9,sA9,sZ9,sC9]
     refine wG9 12 (.pointer (some ⟨b, off + j * 4 + 1, none⟩)) rfl hHeld ?_
     simp only [Act.put,gA9,gZ9,gC9,sA9,sZ9,sC9]
     refine wX9 13 (.int .i64 u2) rfl (Or.inl ⟨by rfl, fun w' hS => by (obtain ⟨t0, t1, t2, t3⟩ := hS; go_simp)⟩) hHeld ?_
     simp only [Act.put,gA9,gZ9,gC9,sA9,sZ9,sC9]
     refine wG9 14 (.pointer (some ⟨kb, 1, none⟩)) rfl hHeld ?_
     simp only [Act.put,gA9,gZ9,gC9,sA9,sZ9,sC9]
     refine wX9 15 (.int .i64 s2) rfl (Or.inl ⟨by rfl, fun w' hS => by (obtain ⟨t0, t1, t2, t3⟩ := hS; go_simp)⟩) hHeld ?_
     simp only [Act.put,gA9,gZ9,gC9,sA9,sZ9,sC9]
     refine wX9 16 (.bool false) rfl (Or.inl ⟨by rfl, fun w' hS => by first | (go_simp; done) | (go_simp; omega) | (go_simp; simp_all)⟩) hHeld ?_
     simp only [Act.put,gA9,gZ9,gC9,sA9,sZ9,sC9]
     refine wG9 17 (.bool false) rfl hHeld ?_
     simp only [Act.put,gA9,gZ9,gC9,sA9,sZ9,sC9]
     refine wpAnyH_done (by kernel_rfl) ?_ _
     clear hHeld
     go_wp2
     exact ⟨⟨j + 1, by omega, by go_num, Hr.out, HW.out.drew⟩, by simp [intOf]; omega⟩
   ·have Hr : Hid (∀ k, k < j + 1 → (ds.getD k dx0).s ≠ (s1, s2)) := Hn.out (fun e => by cases e; exact h1 rfl)
    go_wp2_with (fail)
    refine wp_region_held_drew (S := (fun w' => w'.cell? ⟨b, off + j * 4, none⟩ = some (.int .i64 u1) ∧ w'.cell? ⟨b, off + j * 4 + 1, none⟩ = some (.int .i64 u2) ∧ w'.cell? ⟨kb, 0, none⟩ = some (.int .i64 s1) ∧ w'.cell? ⟨kb, 1, none⟩ = some (.int .i64 s2))) (by kernel_rfl) ⟨below_at (Below.refl _ _).drew q0, below_at (Below.refl _ _).drew q1, below_at (Below.refl _ _).drew c0, below_at (Below.refl _ _).drew c1⟩ (fun hHeld => ?_)
    simp only [Act.put, List.size_toArray, List.length_cons, List.length_nil, Nat.zero_add]
    refine wG9 0 (.slice (some ⟨b, off, none⟩) L cp) rfl hHeld ?_
    simp only [Act.put,gA9,gZ9,gC9,sA9,sZ9,sC9]
    refine wG9 1 (.int .i64 (j : Int)) rfl hHeld ?_
    simp only [Act.put,gA9,gZ9,gC9,sA9,sZ9,sC9]
    refine wG9 2 (.pointer (some ⟨b, off + j * 4, none⟩)) rfl hHeld ?_
    simp only [Act.put,gA9,gZ9,gC9,sA9,sZ9,sC9]
    refine wG9 3 (.pointer (some ⟨b, off + j * 4, none⟩)) rfl hHeld ?_
    simp only [Act.put,gA9,gZ9,gC9,sA9,sZ9,sC9]
    refine wX9 4 (.int .i64 u1) rfl (Or.inl ⟨by rfl, fun w' hS => by (obtain ⟨t0, t1, t2, t3⟩ := hS; go_simp)⟩) hHeld ?_
    simp only [Act.put,gA9,gZ9,gC9,sA9,sZ9,sC9]
    refine wG9 5 (.pointer (some ⟨kb, 0, none⟩)) rfl hHeld ?_
    simp only [Act.put,gA9,gZ9,gC9,sA9,sZ9,sC9]
    refine wX9 6 (.int .i64 s1) rfl (Or.inl ⟨by rfl, fun w' hS => by (obtain ⟨t0, t1, t2, t3⟩ := hS; go_simp)⟩) hHeld ?_
    simp only [Act.put,gA9,gZ9,gC9,sA9,sZ9,sC9]
    refine wX9 7 (.bool false) rfl (Or.inl ⟨by rfl, fun w' hS => by first | (go_simp; done) | (go_simp; omega) | (go_simp; simp_all)⟩) hHeld ?_
    simp only [Act.put,gA9,gZ9,gC9,sA9,sZ9,sC9]
    refine wG9 8 (.bool false) rfl hHeld ?_
    simp only [Act.put,gA9,gZ9,gC9,sA9,sZ9,sC9]
    refine wS9 9 rfl hHeld ?_
    simp only [Act.put,gA9,gZ9,gC9,sA9,sZ9,sC9]
    refine wS9 10 rfl hHeld ?_
    simp only [Act.put,gA9,gZ9,gC9,sA9,sZ9,sC9]
    refine wS9 11 rfl hHeld ?_
    simp only [Act.put,gA9,gZ9,gC9,sA9,sZ9,sC9]
    refine wS9 12 rfl hHeld ?_
    simp only [Act.put,gA9,gZ9,gC9,sA9,sZ9,sC9]
    refine wS9 13 rfl hHeld ?_
    simp only [Act.put,gA9,gZ9,gC9,sA9,sZ9,sC9]
    refine wS9 14 rfl hHeld ?_
    simp only [Act.put,gA9,gZ9,gC9,sA9,sZ9,sC9]
    refine wS9 15 rfl hHeld ?_
    simp only [Act.put,gA9,gZ9,gC9,sA9,sZ9,sC9]
    refine wS9 16 rfl hHeld ?_
    simp only [Act.put,gA9,gZ9,gC9,sA9,sZ9,sC9]
    refine wG9 17 (.bool false) rfl hHeld ?_
    simp only [Act.put,gA9,gZ9,gC9,sA9,sZ9,sC9]
    refine wpAnyH_done (by kernel_rfl) ?_ _
    clear hHeld
    go_wp2
    exact ⟨⟨j + 1, by omega, by go_num, Hr.out, HW.out.drew⟩, by simp [intOf]; omega⟩
  ·obtain rfl : L = j := by omega
   have Hr : Hid (FindS ds (s1, s2) (-1)) := (HF.out _).2 (.inl ⟨rfl, HN.out⟩)
   go_wp2
   go_ret
   exact ⟨-1, rfl, Hr.out, by rw [Hkb.out]; exact HB.out.trans (HW.out.mono HBz.out)⟩
end
end Go.Proofs.Ytobaooebjgoaiaa.Fm
namespace Go.Proofs.Ytobaooebjgoaiaa.Fm
open Go.RowKit Go.Maps Mb
set_option linter.unusedVariables false
set_option maxRecDepth 100000
set_option linter.unusedSimpArgs false
section
variable {w w' W : World} {B : Nat}
theorem res_slot2 {fn : Func} {p : Tmp} (h : fn.results = #[.cell p 76]) (tmps : Array Value) (w : World) (g : Nat) (L : List Value) (hL : L.length = 2)
  (hp : tmps.getD p undef = .pointer (some ⟨g, 0, none⟩)) (hg : w.rangeAt g 0 L) :
  (results fn tmps).run Try.prog w = .ok (.agg L.toArray) w := by
 have e : (results fn tmps).run Try.prog w = ((asAddr (tmps.getD p undef)).run Try.prog w).andThen fun a w₁ => (loadVar 76 a).run Try.prog w₁ := by
  simp only [results, h]
  simp [Sem.run_bind, Result.andThen]
 rw [e, hp]
 simp [asAddr, run_loadVar_mid w g 0 76 L _ hg Try.underlying76 rfl (by rw [hL]; exact info_slot)]
set_option maxHeartbeats 2000000 in
theorem slotOf_any (d : Dx) : Calls Try.prog 66 #[.agg d.cs.toArray] w fun e w' => e = .returned (.agg (slotV d.s).toArray) ∧ Below w.heap.size w w' := by
 generalize hW1 : w.alloc (.cells d.cs.toArray 95) = W1
 generalize hW2 : W1.alloc (.cells #[.int .i64 0, .int .i64 0] 76) = W2
 have b1 : Below w.heap.size w W1 := hW1 ▸ balloc (Below.refl _ _)
 have b2 : Below W1.heap.size W1 W2 := hW2 ▸ balloc (Below.refl _ _)
 have k1 : W1.heap[w.heap.size]? = some (.cells d.cs.toArray 95 (0, 0)) := by rw [← hW1]; exact heap_alloc_new w _
 have k2 : W2.heap[W1.heap.size]? = some (.cells #[.int .i64 0, .int .i64 0] 76 (0, 0)) := by rw [← hW2]; exact heap_alloc_new W1 _
 have HB : Hid (Below w.heap.size w W2) := bstep b1 b2
 have q0 : W2.cell? ⟨w.heap.size, 0, none⟩ = some (.int .i64 d.s.1) := below_at b2 (blk_cell k1 0)
 have q1 : W2.cell? ⟨w.heap.size, 1, none⟩ = some (.int .i64 d.s.2) := below_at b2 (blk_cell k1 1)
 have HK2 : Hid (W2.heap[W1.heap.size]? = some (.cells #[.int .i64 0, .int .i64 0] 76 (0, 0))) := k2
 have Hge : Hid (w.heap.size ≤ W1.heap.size) := b1.size
 clear b1 b2 k1 k2
 obtain ⟨⟨s1, s2⟩, st, ba, bc, bs⟩ := d
 simp only at q0 q1
 generalize (Dx.cs ⟨(s1, s2), st, ba, bc, bs⟩).toArray = pc at *
 go_enter Try.func66, Try.ntmps66
 go_wp2_with (first | (refine wl_st 76 (.tmp 2) (.tmp 7) rfl ?_) | fail)
 refine wl_store 76 (.tmp 2) (.tmp 7) (L := slotV (s1, s2)) (blk_there HK2.out rfl) info_slot (slotV_one _) rfl rfl rfl (by kernel_rfl) ?_
 simp only [Act.put,gA9,gZ9,gC9,sA9,sZ9,sC9]
 refine ⟨?_⟩
 have hs1 : (W2.setCells W1.heap.size 0 (slotV (s1, s2))).heap[W1.heap.size]? = some (.cells (slotV (s1, s2)).toArray 76 (0, 0)) := sets_whole HK2.out rfl
 have hs2 : Below w.heap.size w (W2.setCells W1.heap.size 0 (slotV (s1, s2))) := bsets Hge.out _ _ HB.out
 generalize W2.setCells W1.heap.size 0 (slotV (s1, s2)) = V3 at *
 go_wp2
 (try simp only [Exit.inBlock, Exit.then]); refine bodyPost_ret (res_slot2 rfl _ _ W1.heap.size (slotV (s1, s2)) rfl rfl (blk_range hs1)) rfl ?_
 exact ⟨rfl, hs2⟩
theorem MpS.mono {b m m' : Nat} {f : Int × Int → Option Int} (h : MpS w b m f) (hm : m ≤ m') : MpS w b m' f := by
 obtain ⟨D, h1, h2⟩ := h
 exact ⟨D, h1.mono hm, h2⟩
theorem MpS.put2 {b m : Nat} {f : Int × Int → Option Int} (h : MpS w b m f) (hm : m < 100000000) {s : Int × Int} (h1 : i64B s.1) (h2 : i64B s.2) {x : Int} (hx : i64B x) : ∃ w', (Instr.mapUpdate 89 (.map (some b)) (slV s) (.int .i64 x)).run Try.prog w = .ok () w' ∧ MpS w' b (m + 1) (updO f s x) ∧ Kept w w' (fun k => k = b) := by
 obtain ⟨D, hD, hf⟩ := h
 obtain ⟨w', hrun, hD', hg⟩ := hD.update lawS Try.underlying89 (by unfold maxLen; omega) (key_slot h1 h2) (plainElem_int Try.underlying3 (wf64 hx))
 refine ⟨w', hrun, ⟨_, hD', fun t t1 t2 => ?_⟩, (Kept.ofGrown hg).mono fun k _ hk => by cases hk; rfl⟩
 by_cases e : t = s
 ·subst e
  rw [has_put_same hD.isMap (lawS.key (key_slot t1 t2)), atKey_put_same hD.isMap (lawS.key (key_slot t1 t2))]
  refine ⟨by simp [updO], fun y hy => ?_⟩
  simp [updO] at hy
  rw [hy]
 ·have ne : klS t ≠ klS s := fun e2 => e (klS_inj ⟨t1, t2⟩ ⟨h1, h2⟩ e2)
  rw [has_put_other ne, atKey_put_other ne]
  simp only [updO, if_neg e]
  exact hf t t1 t2
def FpI (ds : List Dx) (j : Nat) (f : Int × Int → Option Int) : Prop := ∀ s, (f s = none → ∀ k, k < j → (ds.getD k dx0).s ≠ s) ∧ ∀ r, f s = some r → ∃ i : Nat, r = i ∧ i < j ∧ (ds.getD i dx0).s = s ∧ ∀ k, k < i → (ds.getD k dx0).s ≠ s
theorem FpI.nil (ds : List Dx) : FpI ds 0 (fun _ => none) := fun s => ⟨fun _ k hk => by omega, fun r h => by cases h⟩
theorem FpI.old {ds : List Dx} {j : Nat} {f : Int × Int → Option Int} (h : FpI ds j f) (hs : (f (ds.getD j dx0).s).isSome = true) : FpI ds (j + 1) f := fun s => ⟨fun hn k hk e => by
 by_cases ek : k = j
 ·subst ek; rw [e, hn] at hs; cases hs
 ·exact (h s).1 hn k (by omega) e, fun r hr => by
 obtain ⟨i, h1, h2, h3⟩ := (h s).2 r hr
 exact ⟨i, h1, by omega, h3⟩⟩
theorem FpI.new {ds : List Dx} {j : Nat} {f : Int × Int → Option Int} (h : FpI ds j f) (hs : f (ds.getD j dx0).s = none) : FpI ds (j + 1) (updO f (ds.getD j dx0).s (j : Int)) := fun s => by
 unfold updO
 by_cases e : s = (ds.getD j dx0).s
 ·rw [if_pos e]
  refine ⟨(fun hn => by cases hn), fun r hr => ?_⟩
  cases hr
  exact ⟨j, rfl, by omega, e.symm, fun k hk => (h s).1 (by rw [e]; exact hs) k hk⟩
 ·rw [if_neg e]
  refine ⟨fun hn k hk e2 => ?_, fun r hr => ?_⟩
  ·by_cases ek : k = j
   ·subst ek; exact e e2.symm
   ·exact (h s).1 hn k (by omega) e2
  ·obtain ⟨i, h1, h2, h3⟩ := (h s).2 r hr
   exact ⟨i, h1, by omega, h3⟩
set_option maxHeartbeats 4000000 in
theorem firstPlaces_any {ao : Option Addr} {cp : Nat} {ds : List Dx} (hr : RdDs w ao ds) (hn : ds.length ≤ 10000000) : Calls Try.prog 39 #[.slice ao ds.length cp] w fun e w' => ∃ b m f, e = .returned (.map (some b)) ∧ MpS w' b m f ∧ FpI ds ds.length f ∧ Below w.heap.size w w' := by
 have HR : Hid (RdDs w ao ds) := hr
 generalize hL : ds.length = L at *
 have HLe : Hid (ds.length = L) := hL
 clear hr hL
 generalize hW0 : w.alloc (.map #[] 0) = W0
 have B0 : Hid (Below w.heap.size w W0) := hW0 ▸ balloc (Below.refl _ _)
 have M0 : Hid (MpS W0 w.heap.size 0 (fun _ => none)) := hW0 ▸ MpS.made w
 have hmk := run_makeMap (P := Try.prog) 89 w
 rw [hW0] at hmk
 go_enter Try.func39, Try.ntmps39
 go_wp2
 clear hW0 hmk
 generalize hmb : w.heap.size = mb at *
 have Hmb : Hid (w.heap.size = mb) := hmb
 clear hmb
 go_loopw [11] (fun i wr => ∃ j : Nat, ∃ f, j ≤ L ∧ i = .int .i64 j ∧ FpI ds j f ∧ MpS wr mb j f ∧ Below mb w wr) (fun i _ => L - (intOf i).toNat)
 case atStart => exact ⟨0, _, Nat.zero_le _, rfl, FpI.nil ds, M0.out, B0.out⟩
 case round =>
  obtain ⟨j, f, hj, rfl, hk, hp, hb⟩ := hrel
  have HK : Hid (FpI ds j f) := hk
  have HP : Hid (MpS wr mb j f) := hp
  have HB : Hid (Below mb w wr) := hb
  have Hlb : Hid (mb < wr.heap.size) := hp.lt
  clear hk hp hb M0 B0
  by_cases hlt : j < L
  ·have hrw := HR.out.still (show Below w.heap.size w wr from by rw [Hmb.out]; exact HB.out)
   obtain ⟨b, off, rfl, hc⟩ := hrw.at (i := j) (by rw [HLe.out]; exact hlt)
   have HC : Hid (wr.rangeAt b (off + j * 4) (ds.getD j dx0).cs) := hc
   have HS : Hid (i64B (ds.getD j dx0).s.1 ∧ i64B (ds.getD j dx0).s.2) := (hrw.el j (by rw [HLe.out]; exact hlt)).r
   have Hold : Hid ((f (ds.getD j dx0).s).isSome = true → FpI ds (j + 1) f) := HK.out.old
   have Hnew : Hid (f (ds.getD j dx0).s = none → FpI ds (j + 1) (updO f (ds.getD j dx0).s (j : Int))) := HK.out.new
   clear hrw hc
   have i1 : (0 : Int) ≤ (j : Int) := Int.natCast_nonneg _
   have i2 : (j : Int) < (L : Int) := by omega
   generalize ds.getD j dx0 = d at *
   have Hd4 : Hid (d.cs.length = 4) := rfl
   have HSl : Hid (∀ W : World, Calls Try.prog 66 #[.agg d.cs.toArray] W fun e w' => e = .returned (.agg (slotV d.s).toArray) ∧ Below W.heap.size W w') := fun W => slotOf_any d
   go_wp2_with (first
    | (refine load_mid 95 (.tmp 14) HC.out _ Try.underlying95 rfl (by rw [Hd4.out]; exact info_data) rfl rfl rfl ?_)
    | (refine wl_st 95 (.tmp 5) (.tmp 15) rfl ?_)
    | fail)
   refine wl_store 95 (.tmp 5) (.tmp 15) (L := d.cs) (new_there _ _ _ rfl) info_data (dxcs_one _) rfl rfl rfl (by kernel_rfl) ?_
   simp only [Act.put,gA9,gZ9,gC9,sA9,sZ9,sC9]
   refine ⟨?_⟩
   obtain ⟨hn1, hn2⟩ := newvar wr 95 #[.int .i64 0, .int .i64 0, .int .i64 0, .slice none 0 0] (d.cs) rfl
   have HBn : Hid (Below mb w ((wr.alloc (.cells #[.int .i64 0, .int .i64 0, .int .i64 0, .slice none 0 0] 95)).setCells wr.heap.size 0 (d.cs))) := HB.out.trans (hn1.mono (Nat.le_of_lt Hlb.out))
   have HPn : Hid (MpS ((wr.alloc (.cells #[.int .i64 0, .int .i64 0, .int .i64 0, .slice none 0 0] 95)).setCells wr.heap.size 0 (d.cs)) mb j f) := HP.out.still hn1
   have Hv5 : Hid (((wr.alloc (.cells #[.int .i64 0, .int .i64 0, .int .i64 0, .slice none 0 0] 95)).setCells wr.heap.size 0 (d.cs)).heap[wr.heap.size]? = some (.cells (d.cs).toArray 95 (0, 0))) := hn2
   have Hn1 : Hid (Below wr.heap.size wr ((wr.alloc (.cells #[.int .i64 0, .int .i64 0, .int .i64 0, .slice none 0 0] 95)).setCells wr.heap.size 0 (d.cs))) := hn1
   clear hn1 hn2 HB HP
   generalize (wr.alloc (.cells #[.int .i64 0, .int .i64 0, .int .i64 0, .slice none 0 0] 95)).setCells wr.heap.size 0 (d.cs) = V at *
   generalize hvb : wr.heap.size = v5 at *
   have Hvbv5 : Hid (wr.heap.size = v5) := hvb
   clear hvb
   have HB := HBn
   clear HBn
   have HP := HPn
   clear HPn
   clear HC Hn1
   go_wp2_with (first | (refine wl_at 18 rfl ?_) | fail)
   refine wl_load 95 (.tmp 5) (blk_range Hv5.out) _ Try.underlying95 rfl (by rw [Hd4.out]; exact info_data) rfl rfl (by kernel_rfl) ?_
   simp only [Act.put,gA9,gZ9,gC9,sA9,sZ9,sC9]
   refine wl_step (by kernel_rfl) fun K hK => ?_
   go_simp
   refine (HSl.out _).mono ?_
   rintro e V2 ⟨rfl, hb2⟩
   refine hK _ _ ?_
   clear hK K
   try (simp only [Act.put,gA9,gZ9,gC9,sA9,sZ9,sC9])
   have HP2 : Hid (MpS V2 mb j f) := HP.out.still hb2
   have HB2 : Hid (Below mb w V2) := HB.out.trans (hb2.mono (Nat.le_of_lt HP.out.lt))
   have Hv52 : Hid (V2.heap[v5]? = some (.cells d.cs.toArray 95 (0, 0))) := (hb2.block _ (lt_heap Hv5.out)).trans Hv5.out
   clear hb2 HP HB Hv5
   have HLk : Hid ((Instr.lookup 89 (.map (some mb)) (.agg (slotV d.s).toArray) true).run Try.prog V2 = .ok (.tuple #[.int .i64 ((f d.s).getD 0), .bool (f d.s).isSome]) V2) := HP2.out.look HS.out.1 HS.out.2
   generalize (f d.s).getD 0 = fv at HLk
   cases hA : (f d.s).isSome with
   | true =>
    have Hnx : Hid (FpI ds (j + 1) f) := Hold.out hA
    rw [hA] at HLk
    clear hA
    refine wl_look 89 (.tmp 17) (.tmp 19) true HLk.out rfl rfl rfl (by kernel_rfl) ?_
    simp only [Act.put,gA9,gZ9,gC9,sA9,sZ9,sC9]
    refine wT9 ?_
    simp only [Act.put,gA9,gZ9,gC9,sA9,sZ9,sC9]
    refine wT9 ?_
    simp only [Act.put,gA9,gZ9,gC9,sA9,sZ9,sC9]
    refine wT9 ?_
    simp only [Act.put,gA9,gZ9,gC9,sA9,sZ9,sC9]
    refine wT9 ?_
    simp only [Act.put,gA9,gZ9,gC9,sA9,sZ9,sC9]
    refine wT9 ?_
    simp only [Act.put,gA9,gZ9,gC9,sA9,sZ9,sC9]
    refine ⟨?_⟩
    go_wp2
    exact ⟨⟨j + 1, f, by omega, by go_num, Hnx.out, HP2.out.mono (by omega), HB2.out⟩, by simp [intOf]; omega⟩
   | false =>
    have hnone : f d.s = none := by
     cases hq : f d.s with
     | none => rfl
     | some y => rw [hq] at hA; cases hA
    have Hnx : Hid (FpI ds (j + 1) (updO f d.s (j : Int))) := Hnew.out hnone
    rw [hA] at HLk
    clear hA hnone
    refine wl_look 89 (.tmp 17) (.tmp 19) true HLk.out rfl rfl rfl (by kernel_rfl) ?_
    simp only [Act.put,gA9,gZ9,gC9,sA9,sZ9,sC9]
    refine wT9 ?_
    simp only [Act.put,gA9,gZ9,gC9,sA9,sZ9,sC9]
    refine wT9 ?_
    simp only [Act.put,gA9,gZ9,gC9,sA9,sZ9,sC9]
    refine wT9 ?_
    simp only [Act.put,gA9,gZ9,gC9,sA9,sZ9,sC9]
    refine wT9 ?_
    simp only [Act.put,gA9,gZ9,gC9,sA9,sZ9,sC9]
    refine wT9 ?_
    simp only [Act.put,gA9,gZ9,gC9,sA9,sZ9,sC9]
    refine ⟨?_⟩
    go_wp2_with (first | (refine wl_at 26 rfl ?_) | fail)
    refine wl_load 95 (.tmp 5) (blk_range Hv52.out) _ Try.underlying95 rfl (by rw [Hd4.out]; exact info_data) rfl rfl (by kernel_rfl) ?_
    simp only [Act.put,gA9,gZ9,gC9,sA9,sZ9,sC9]
    refine wl_step (by kernel_rfl) fun K hK => ?_
    go_simp
    refine (HSl.out _).mono ?_
    rintro e V3 ⟨rfl, hb3⟩
    refine hK _ _ ?_
    clear hK K
    try (simp only [Act.put,gA9,gZ9,gC9,sA9,sZ9,sC9])
    refine wT9 ?_
    simp only [Act.put,gA9,gZ9,gC9,sA9,sZ9,sC9]
    have hP3 := HP2.out.still hb3
    obtain ⟨V4, hput, hP4, hK4⟩ := hP3.put2 (by omega) (s := d.s) HS.out.1 HS.out.2 (x := (j : Int)) (by unfold i64B; omega)
    refine wl_put 89 (.tmp 25) (.tmp 27) (.tmp 28) (kv := slV d.s) hput rfl rfl rfl rfl (by kernel_rfl) ?_
    simp only [Act.put,gA9,gZ9,gC9,sA9,sZ9,sC9]
    refine ⟨?_⟩
    have HP4 : Hid (MpS V4 mb (j + 1) (updO f d.s j)) := hP4
    have HB3 : Below mb w V3 := HB2.out.trans (hb3.mono (Nat.le_of_lt HP2.out.lt))
    have HB4 : Hid (Below mb w V4) := HB3.trans (hK4.below (Nat.le_of_lt hP3.lt) (fun k hk e => by omega))
    clear hput hP4 hK4 hP3 HB3 hb3
    go_wp2
    exact ⟨⟨j + 1, updO f d.s j, by omega, by go_num, Hnx.out, HP4.out, HB4.out⟩, by simp [intOf]; omega⟩
  ·obtain rfl : L = j := by omega
   go_wp2
   go_ret
   exact ⟨mb, _, f, rfl, HP.out, HK.out, by rw [Hmb.out]; exact HB.out⟩
end
end Go.Proofs.Ytobaooebjgoaiaa.Fm
namespace Go.Proofs.Ytobaooebjgoaiaa.Of
open Go.ChangeShapes Go.WideShapes Go.ChangeAt Go.RowKit Mb Fm
set_option linter.unusedVariables false
set_option linter.unusedSimpArgs false
set_option maxRecDepth 100000
section
variable {H : Type} {enc : TypeId × Value → H} {W : World}
theorem open_u {fuel : Nat} {c : Value} {x : DataW H × List MemPlace} (h : DataW.trod enc Try.prog W 0 (fun _ => true) true fuel 5 [c] = some x) : ∃ v : Int, c = .int .u8 v ∧ 0 ≤ v ∧ v ≤ 255 := by
 obtain ⟨v, e, _, hw⟩ := DataW.trod_int Try.underlying5 h
 simp only [List.cons.injEq, and_true] at e
 refine ⟨v, e, ?_⟩
 simpa [Lit.wf, IntKind.min, IntKind.max, IntKind.signed, IntKind.bits] using hw
theorem cU : Try.prog.cellsOf 5 = 1 := by kernel_rfl
theorem cBs : Try.prog.cellsOf 92 = 1 := by kernel_rfl
theorem cD : Try.prog.cellsOf 95 = 4 := by kernel_rfl
theorem cDs : Try.prog.cellsOf 29 = 1 := by kernel_rfl
theorem cCa : Try.prog.cellsOf 31 = 13 := by kernel_rfl
theorem list13 {α : Type} {l : List α} (h : l.length = 13) : ∃ c0 c1 c2 c3 c4 c5 c6 c7 c8 c9 c10 c11 c12, l = [c0, c1, c2, c3, c4, c5, c6, c7, c8, c9, c10, c11, c12] := by
 match l, h with
 | [c0, c1, c2, c3, c4, c5, c6, c7, c8, c9, c10, c11, c12], _ => exact ⟨c0, c1, c2, c3, c4, c5, c6, c7, c8, c9, c10, c11, c12, rfl⟩
theorem open_bytes {fuel : Nat} {v : Value} {x : DataW H × List MemPlace} (h : DataW.trod enc Try.prog W 0 (fun _ => true) true fuel 92 [v] = some x) (hw : Sm x.1) : ∃ a xs c, v = .slice a (xs : List Int).length c ∧ RdB W a xs ∧ xs.length ≤ 1048576 ∧ (a = none → xs.length = 0 ∧ c = 0) ∧ ∀ i, i < xs.length → 0 ≤ xs.getD i 0 ∧ xs.getD i 0 ≤ 255 := by
 rcases slice_parts Try.underlying92 cU (by decide) h hw with rfl | ⟨ad, len, cap, n, D, Pl, rfl, hb, hel⟩
 ·exact ⟨none, [], 0, rfl, .inl rfl, by simp, fun _ => ⟨rfl, rfl⟩, fun i hi => by simp at hi⟩
 ·have each : ∀ i, ∃ y : Int, i < len → W.cell? (ad.add i) = some (.int .u8 y) ∧ 0 ≤ y ∧ y ≤ 255 := fun i => by
   by_cases hi : i < len
   ·obtain ⟨_, cs', hl, hcell, htr⟩ := hel i hi
    obtain ⟨c0, rfl⟩ := list1 hl
    obtain ⟨y, rfl, hy⟩ := open_u htr
    exact ⟨y, fun _ => ⟨by have := hcell 0 (by decide); simpa using this, hy⟩⟩
   ·exact ⟨0, fun h => absurd h hi⟩
  obtain ⟨f, hf⟩ := Classical.axiomOfChoice each
  have hl : ((List.range len).map f).length = len := by simp
  refine ⟨some ad, (List.range len).map f, cap, by rw [hl], ?_, by rw [hl]; exact hb, (fun h => by cases h), fun i hi => ?_⟩
  ·unfold RdB Row
   rw [hl]
   by_cases h0 : len = 0
   ·exact .inl h0
   ·obtain ⟨b, off, rfl⟩ := ad_plain (hf 0 (by omega)).1
    refine .inr ⟨b, off, rfl, fun i hi => ?_⟩
    have := (hf i (by omega)).1
    rw [Addr.add_lit] at this
    rw [this]
    simp [List.getD, show i < len by omega]
  ·rw [hl] at hi
   have := (hf i hi).2
   simpa [List.getD, hi] using this
structure DxIn (d : Dx) (W : World) : Prop where
 rd : d.Rd W
 z : d.ba = none → d.bs.length = 0 ∧ d.bc = 0
 n : d.bs.length ≤ 1048576
 u : ∀ i, i < d.bs.length → 0 ≤ d.bs.getD i 0 ∧ d.bs.getD i 0 ≤ 255
theorem open_data {n : Nat} {c0 c1 c2 c3 : Value} {x : DataW H × List MemPlace} (h : DataW.trod enc Try.prog W 0 (fun _ => true) true n 95 [c0, c1, c2, c3] = some x) (hw : Sm x.1) : ∃ f : Dx, f.cs = [c0, c1, c2, c3] ∧ DxIn f W := by
 obtain ⟨xs, n', hxl, hF, hS⟩ := struct_parts Try.underlying95 h hw
 obtain ⟨y0, y1, y2, y3, rfl⟩ := list4 hxl
 have h0 : DataW.trod enc Try.prog W 0 (fun _ => true) true n' 3 [c0] = some y0 := by simpa [cI, cBs] using hF 0 _ rfl
 have h1 : DataW.trod enc Try.prog W 0 (fun _ => true) true n' 3 [c1] = some y1 := by simpa [cI, cBs] using hF 1 _ rfl
 have h2 : DataW.trod enc Try.prog W 0 (fun _ => true) true n' 3 [c2] = some y2 := by simpa [cI, cBs] using hF 2 _ rfl
 have h3 : DataW.trod enc Try.prog W 0 (fun _ => true) true n' 92 [c3] = some y3 := by simpa [cI, cBs] using hF 3 _ rfl
 obtain ⟨a, rfl, ha⟩ := open_i h0
 obtain ⟨b, rfl, hb⟩ := open_i h1
 obtain ⟨c, rfl, _⟩ := open_i h2
 obtain ⟨ba, bs, bc, rfl, r1, r2, r3, r4⟩ := open_bytes h3 (hS 3 _ rfl)
 exact ⟨⟨(a, b), c, ba, bc, bs⟩, rfl, ⟨r1, ha, hb⟩, r3, r2, r4⟩
theorem open_datas {fuel : Nat} {v : Value} {x : DataW H × List MemPlace} (h : DataW.trod enc Try.prog W 0 (fun _ => true) true fuel 29 [v] = some x) (hw : Sm x.1) : ∃ a ds c, v = .slice a (ds : List Dx).length c ∧ RdDs W a ds ∧ ds.length ≤ 1048576 ∧ ∀ k, k < ds.length → DxIn (ds.getD k dx0) W := by
 rcases slice_parts Try.underlying29 cD (by decide) h hw with rfl | ⟨ad, len, cap, n, D, Pl, rfl, hb, hel⟩
 ·exact ⟨none, [], 0, rfl, ⟨.inl rfl, fun i hi => by simp at hi⟩, by simp, fun k hk => by simp at hk⟩
 ·have each : ∀ i, ∃ f : Dx, i < len → (∀ j, j < 4 → W.cell? (ad.add (i * 4 + j)) = f.cs[j]?) ∧ DxIn f W := fun i => by
   by_cases hi : i < len
   ·obtain ⟨hs, cs', hl, hcell, htr⟩ := hel i hi
    obtain ⟨c0, c1, c2, c3, rfl⟩ := list4 hl
    obtain ⟨f, hf, hin⟩ := open_data htr hs
    exact ⟨f, fun _ => ⟨fun j hj => by rw [hf]; exact hcell j hj, hin⟩⟩
   ·exact ⟨dx0, fun h => absurd h hi⟩
  obtain ⟨f, hf⟩ := Classical.axiomOfChoice each
  have hl : ((List.range len).map f).length = len := by simp
  have hg : ∀ i, i < len → ((List.range len).map f).getD i dx0 = f i := fun i hi => by simp [List.getD, hi]
  refine ⟨some ad, (List.range len).map f, cap, by rw [hl], ⟨?_, fun i hi => ?_⟩, by rw [hl]; exact hb, fun k hk => ?_⟩
  ·unfold Row
   rw [hl]
   by_cases h0 : len = 0
   ·exact .inl h0
   ·obtain ⟨b, off, rfl⟩ := ad_plain (v := .int .i64 (f 0).s.1) (by have := (hf 0 (by omega)).1 0 (by decide); simp only [Nat.zero_mul, Nat.zero_add] at this; exact this)
    refine .inr ⟨b, off, rfl, fun i hi => ?_⟩
    have h3 := (hf (i / 4) (by omega)).1 (i % 4) (by omega)
    rw [show i / 4 * 4 + i % 4 = i by omega, Addr.add_lit] at h3
    unfold dxC
    rw [hg _ (by omega), h3, List.getD]
    rw [List.getElem?_eq_getElem (by rw [Dx.cs_len]; omega)]
    rfl
  ·rw [hl] at hi
   rw [hg i hi]
   exact (hf i hi).2.rd
  ·rw [hl] at hk
   rw [hg k hk]
   exact (hf k hk).2
theorem open_case {base : Nat} {v : Value} {d : DataW H} {p : List MemPlace} (hv : Value.okWide Try.prog W .any base 31 v) (h : DataW.Trod enc Try.prog W 0 (fun _ => true) true 31 v d p) (hw : Sm d) :
  ∃ (k : Ca) (who : List Int) (ds : List Dx), v = .agg k.cs.toArray ∧ RdFs W k.ao k.fs ∧ k.fs.length ≤ 1048576 ∧ (∀ i, i < k.fs.length → (k.fs.getD i fl0).In W) ∧ k.own.In W ∧ RdI W k.wa who ∧ who.length = k.wn ∧ who.length ≤ 1048576 ∧ (k.wa = none → who.length = 0 ∧ k.wc = 0) ∧ RdDs W k.ma ds ∧ ds.length = k.mn ∧ ds.length ≤ 1048576 ∧ (∀ i, i < ds.length → DxIn (ds.getD i dx0) W) := by
 obtain ⟨cs, rfl, hsz⟩ := okWide_struct Try.underlying31 hv
 rw [cCa] at hsz
 obtain ⟨l⟩ := cs
 obtain ⟨c0, c1, c2, c3, c4, c5, c6, c7, c8, c9, c10, c11, c12, rfl⟩ := list13 hsz
 obtain ⟨fuel, hf⟩ := h
 obtain ⟨xs, m, hxl, hF, hS⟩ := struct_parts Try.underlying31 hf hw
 obtain ⟨y0, y1, y2, y3, y4, y5, y6, rfl⟩ := list7 hxl
 have h0 : DataW.trod enc Try.prog W 0 (fun _ => true) true m 22 [c0] = some y0 := by simpa [Value.cells, cFs] using hF 0 _ rfl
 have h1 : DataW.trod enc Try.prog W 0 (fun _ => true) true m 28 [c1, c2, c3, c4, c5, c6, c7] = some y1 := by simpa [Value.cells, cF] using hF 1 _ rfl
 have h2 : DataW.trod enc Try.prog W 0 (fun _ => true) true m 3 [c8] = some y2 := by simpa [Value.cells, cI] using hF 2 _ rfl
 have h3 : DataW.trod enc Try.prog W 0 (fun _ => true) true m 26 [c9] = some y3 := by simpa [Value.cells, cIs] using hF 3 _ rfl
 have h4 : DataW.trod enc Try.prog W 0 (fun _ => true) true m 3 [c10] = some y4 := by simpa [Value.cells, cI] using hF 4 _ rfl
 have h5 : DataW.trod enc Try.prog W 0 (fun _ => true) true m 3 [c11] = some y5 := by simpa [Value.cells, cI] using hF 5 _ rfl
 have h6 : DataW.trod enc Try.prog W 0 (fun _ => true) true m 29 [c12] = some y6 := by simpa [Value.cells, cDs] using hF 6 _ rfl
 obtain ⟨ao, fs, cp, rfl, r1, r2, r3⟩ := open_flushes h0 (hS 0 _ rfl)
 obtain ⟨f, hfc, hin⟩ := open_flush h1 (hS 1 _ rfl)
 obtain ⟨dn, rfl, _⟩ := open_i h2
 obtain ⟨wa, who, wc, rfl, s1, s2, s3⟩ := open_ints h3 (hS 3 _ rfl)
 obtain ⟨se, rfl, _⟩ := open_i h4
 obtain ⟨qq, rfl, _⟩ := open_i h5
 obtain ⟨ma, ds, mc, rfl, t1, t2, t3⟩ := open_datas h6 (hS 6 _ rfl)
 simp only [Fl.cs, List.cons.injEq, and_true] at hfc
 obtain ⟨rfl, rfl, rfl, rfl, rfl, rfl, rfl⟩ := hfc
 exact ⟨⟨ao, cp, fs, f, dn, wa, who.length, wc, se, qq, ma, ds.length, mc⟩, who, ds, rfl, r1, r2, r3, hin, s1, rfl, s2, s3, t1, rfl, t2, t3⟩
end
end Go.Proofs.Ytobaooebjgoaiaa.Of
