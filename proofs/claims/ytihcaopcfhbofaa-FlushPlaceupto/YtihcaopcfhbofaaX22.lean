import Derived.Test.YtihcaopcfhbofaaX13
import Derived.Laws.ResultCell
namespace Go.Proofs.Ytihcaopcfhbofaa.Fm
open Go.RowKit Go.Maps Mb
set_option linter.unusedVariables false
set_option maxRecDepth 100000
set_option linter.unusedSimpArgs false
section
variable {w w' W : World} {B : Nat}
structure Dx where
  s : Int × Int
  st : Int
  ba : Option Addr
  bc : Nat
  bs : List Int
def dx0 : Dx := ⟨z2, 0, none, 0, []⟩
def Dx.cs (d : Dx) : List Value := [.int .i64 d.s.1, .int .i64 d.s.2, .int .i64 d.st, .slice d.ba d.bs.length d.bc]
def RdB (w : World) (ao : Option Addr) (bs : List Int) : Prop := Row w ao bs.length 1 fun i => .int .u8 (bs.getD i 0)
structure Dx.Rd (d : Dx) (w : World) : Prop where
  b : RdB w d.ba d.bs
  r : i64B d.s.1 ∧ i64B d.s.2
def dxC (ds : List Dx) (i : Nat) : Value := ((ds.getD (i / 4) dx0).cs).getD (i % 4) undef
structure RdDs (w : World) (ao : Option Addr) (ds : List Dx) : Prop where
  row : Row w ao ds.length 4 (dxC ds)
  el : ∀ i, i < ds.length → (ds.getD i dx0).Rd w
theorem Dx.Rd.still {d : Dx} (h : d.Rd w) (hb : Below w.heap.size w w') : d.Rd w' := ⟨Row.still h.b hb, h.r⟩
theorem RdDs.still {ao : Option Addr} {ds : List Dx} (h : RdDs w ao ds) (hb : Below w.heap.size w w') : RdDs w' ao ds := ⟨h.row.still hb, fun i hi => (h.el i hi).still hb⟩
theorem Dx.cs_len (d : Dx) : d.cs.length = 4 := rfl
theorem dxcs_one (d : Dx) : ∀ u ∈ d.cs, u.oneCell' = true := by
  intro u hu
  simp [Dx.cs] at hu
  rcases hu with rfl | rfl | rfl | rfl <;> rfl
theorem RdDs.at {ao : Option Addr} {ds : List Dx} (h : RdDs w ao ds) {i : Nat} (hi : i < ds.length) : ∃ b off, ao = some ⟨b, off, none⟩ ∧ w.rangeAt b (off + i * 4) (ds.getD i dx0).cs := by
  rcases h.row with h1 | ⟨b, off, h1, h2⟩
  · omega
  · refine ⟨b, off, h1, fun j v hv => ?_⟩
    have hj : j < 4 := by have := (List.getElem?_eq_some_iff.1 hv).1; rwa [Dx.cs_len] at this
    have e := h2 (i * 4 + j) (by omega)
    simp only [dxC, show (i * 4 + j) / 4 = i by omega, show (i * 4 + j) % 4 = j by omega] at e
    rw [← Nat.add_assoc] at e
    rw [e, List.getD, hv]
    rfl
theorem info_data : (Try.prog.info? 37).map (·.size) = some 4 := by kernel_rfl
def First (ds : List Dx) (s : Int × Int) (i : Nat) : Prop := i < ds.length ∧ (ds.getD i dx0).s = s ∧ ∀ j, j < i → (ds.getD j dx0).s ≠ s
def FindS (ds : List Dx) (s : Int × Int) (r : Int) : Prop := (r = -1 ∧ ∀ i, i < ds.length → (ds.getD i dx0).s ≠ s) ∨ ∃ i : Nat, r = i ∧ First ds s i
set_option maxHeartbeats 4000000 in
theorem qfind_any {ao : Option Addr} {cp : Nat} {ds : List Dx} (hr : RdDs w ao ds) (hn : ds.length ≤ 1000000000000000000) (s : Int × Int) : Calls Try.prog 41 #[.slice ao ds.length cp, .agg (slotV s).toArray] w fun e w' => ∃ r, e = .returned (.int .i64 r) ∧ FindS ds s r ∧ Below w.heap.size w w' := by
  generalize hW1 : w.alloc (.cells (slotV s).toArray 70) = W1
  have b1 : Below w.heap.size w W1 := hW1 ▸ balloc (Below.refl _ _)
  have k1 : W1.heap[w.heap.size]? = some (.cells (slotV s).toArray 70 (0, 0)) := by rw [← hW1]; exact heap_alloc_new w _
  have HR : Hid (RdDs W1 ao ds) := hr.still b1
  have HB : Hid (Below w.heap.size w W1) := b1
  have HBz : Hid (w.heap.size ≤ W1.heap.size) := b1.size
  have HK : Hid (W1.heap[w.heap.size]? = some (.cells (slotV s).toArray 70 (0, 0))) := k1
  have HC : Hid (∀ V : World, Below W1.heap.size W1 V → V.cell? ⟨w.heap.size, 0, none⟩ = some (.int .i64 s.1) ∧ V.cell? ⟨w.heap.size, 1, none⟩ = some (.int .i64 s.2)) := fun V hV => ⟨below_at hV (blk_cell k1 0), below_at hV (blk_cell k1 1)⟩
  have HF : Hid (∀ r, FindS ds s r ↔ ((r = -1 ∧ ∀ i, i < ds.length → (ds.getD i dx0).s ≠ s) ∨ ∃ i : Nat, r = i ∧ First ds s i)) := fun r => Iff.rfl
  have HFi : Hid (∀ i, First ds s i ↔ (i < ds.length ∧ (ds.getD i dx0).s = s ∧ ∀ j, j < i → (ds.getD j dx0).s ≠ s)) := fun r => Iff.rfl
  generalize hL : ds.length = L at *
  have HLe : Hid (ds.length = L) := hL
  clear hr hL b1 k1
  obtain ⟨s1, s2⟩ := s
  simp only at HC
  generalize (slotV (s1, s2)).toArray = pc at *
  go_enter Try.func41, Try.ntmps41
  go_wp2
  clear hW1
  generalize hkb : w.heap.size = kb at *
  have Hkb : Hid (w.heap.size = kb) := hkb
  clear hkb
  go_loopw [5] (fun v wr => ∃ j : Nat, j ≤ L ∧ v = .int .i64 j ∧ (∀ k, k < j → (ds.getD k dx0).s ≠ (s1, s2)) ∧ Below W1.heap.size W1 wr) (fun v _ => L - (intOf v).toNat)
  case atStart => exact ⟨0, Nat.zero_le _, rfl, fun k hk => by omega, Below.refl _ _⟩
  case round =>
    obtain ⟨j, hj, rfl, hno, hb⟩ := hrel
    have HN : Hid (∀ k, k < j → (ds.getD k dx0).s ≠ (s1, s2)) := hno
    have HW : Hid (Below W1.heap.size W1 wr) := hb
    clear hno hb
    by_cases hlt : j < L
    · obtain ⟨b, off, rfl, hc⟩ := (HR.out.still HW.out).at (i := j) (by rw [HLe.out]; exact hlt)
      have q0 : wr.cell? ⟨b, off + j * 4, none⟩ = some (.int .i64 (ds.getD j dx0).s.1) := hc 0 _ rfl
      have q1 : wr.cell? ⟨b, off + j * 4 + 1, none⟩ = some (.int .i64 (ds.getD j dx0).s.2) := hc 1 _ rfl
      obtain ⟨c0, c1⟩ := HC.out wr HW.out
      have i1 : (0 : Int) ≤ (j : Int) := Int.natCast_nonneg _
      have i2 : (j : Int) < (L : Int) := by omega
      have Hy : Hid ((ds.getD j dx0).s = (s1, s2) → FindS ds (s1, s2) (j : Int)) := fun h => (HF.out _).2 (.inr ⟨j, rfl, (HFi.out j).2 ⟨hlt, h, HN.out⟩⟩)
      have Hn : Hid ((ds.getD j dx0).s ≠ (s1, s2) → ∀ k, k < j + 1 → (ds.getD k dx0).s ≠ (s1, s2)) := fun h k hk => by
        by_cases e : k = j
        · subst e; exact h
        · exact HN.out k (by omega)
      clear hc
      generalize (ds.getD j dx0).s = u at *
      obtain ⟨u1, u2⟩ := u
      simp only at q0 q1
      by_cases h1 : u1 = s1
      · subst h1
        by_cases h2 : u2 = s2
        · subst h2
          have Hr : Hid (FindS ds (u1, u2) (j : Int)) := Hy.out rfl
          go_wp2_with (fail)
          refine wp_region_held_drew (S := (fun w' => w'.cell? ⟨b, off + j * 4, none⟩ = some (.int .i64 u1) ∧ w'.cell? ⟨b, off + j * 4 + 1, none⟩ = some (.int .i64 u2) ∧ w'.cell? ⟨kb, 0, none⟩ = some (.int .i64 u1) ∧ w'.cell? ⟨kb, 1, none⟩ = some (.int .i64 u2))) (by kernel_rfl) ⟨below_at (Below.refl _ _).drew q0, below_at (Below.refl _ _).drew q1, below_at (Below.refl _ _).drew c0, below_at (Below.refl _ _).drew c1⟩ (fun hHeld => ?_)
          simp only [Act.put, List.size_toArray, List.length_cons, List.length_nil, Nat.zero_add]
          refine wpAnyH_take (i := 0) (v := .slice (some ⟨b, off, none⟩) L cp) rfl (by kernel_rfl) (by kernel_rfl) (by kernel_rfl) (fun _ _ _ h => h) (Or.inl ⟨by rfl, fun w' hS => by go_simp⟩) hHeld ?_
          simp only [Act.put, gA9, gZ9, gC9, sA9, sZ9, sC9]
          refine wpAnyH_take (i := 1) (v := .int .i64 (j : Int)) rfl (by kernel_rfl) (by kernel_rfl) (by kernel_rfl) (fun _ _ _ h => h) (Or.inl ⟨by rfl, fun w' hS => by go_simp⟩) hHeld ?_
          simp only [Act.put, gA9, gZ9, gC9, sA9, sZ9, sC9]
          refine wpAnyH_take (i := 2) (v := .pointer (some ⟨b, off + j * 4, none⟩)) rfl (by kernel_rfl) (by kernel_rfl) (by kernel_rfl) (fun _ _ _ h => h) (Or.inl ⟨by rfl, fun w' hS => by go_simp⟩) hHeld ?_
          simp only [Act.put, gA9, gZ9, gC9, sA9, sZ9, sC9]
          refine wpAnyH_take (i := 3) (v := .pointer (some ⟨b, off + j * 4, none⟩)) rfl (by kernel_rfl) (by kernel_rfl) (by kernel_rfl) (fun _ _ _ h => h) (Or.inl ⟨by rfl, fun w' hS => by go_simp⟩) hHeld ?_
          simp only [Act.put, gA9, gZ9, gC9, sA9, sZ9, sC9]
          refine wpAnyH_take (i := 4) (v := .int .i64 u1) rfl (by kernel_rfl) (by kernel_rfl) (by kernel_rfl) (fun _ _ _ h => h) (Or.inl ⟨by rfl, fun w' hS => by (obtain ⟨t0, t1, t2, t3⟩ := hS; go_simp)⟩) hHeld ?_
          simp only [Act.put, gA9, gZ9, gC9, sA9, sZ9, sC9]
          refine wpAnyH_take (i := 5) (v := .pointer (some ⟨kb, 0, none⟩)) rfl (by kernel_rfl) (by kernel_rfl) (by kernel_rfl) (fun _ _ _ h => h) (Or.inl ⟨by rfl, fun w' hS => by go_simp⟩) hHeld ?_
          simp only [Act.put, gA9, gZ9, gC9, sA9, sZ9, sC9]
          refine wpAnyH_take (i := 6) (v := .int .i64 u1) rfl (by kernel_rfl) (by kernel_rfl) (by kernel_rfl) (fun _ _ _ h => h) (Or.inl ⟨by rfl, fun w' hS => by (obtain ⟨t0, t1, t2, t3⟩ := hS; go_simp)⟩) hHeld ?_
          simp only [Act.put, gA9, gZ9, gC9, sA9, sZ9, sC9]
          refine wpAnyH_take (i := 7) (v := .bool true) rfl (by kernel_rfl) (by kernel_rfl) (by kernel_rfl) (fun _ _ _ h => h) (Or.inl ⟨by rfl, fun w' hS => by first | (go_simp; done) | (go_simp; omega) | (go_simp; simp_all)⟩) hHeld ?_
          simp only [Act.put, gA9, gZ9, gC9, sA9, sZ9, sC9]
          refine wpAnyH_take (i := 8) (v := .bool true) rfl (by kernel_rfl) (by kernel_rfl) (by kernel_rfl) (fun _ _ _ h => h) (Or.inl ⟨by rfl, fun w' hS => by go_simp⟩) hHeld ?_
          simp only [Act.put, gA9, gZ9, gC9, sA9, sZ9, sC9]
          refine wpAnyH_take (i := 9) (v := .slice (some ⟨b, off, none⟩) L cp) rfl (by kernel_rfl) (by kernel_rfl) (by kernel_rfl) (fun _ _ _ h => h) (Or.inl ⟨by rfl, fun w' hS => by go_simp⟩) hHeld ?_
          simp only [Act.put, gA9, gZ9, gC9, sA9, sZ9, sC9]
          refine wpAnyH_take (i := 10) (v := .int .i64 (j : Int)) rfl (by kernel_rfl) (by kernel_rfl) (by kernel_rfl) (fun _ _ _ h => h) (Or.inl ⟨by rfl, fun w' hS => by go_simp⟩) hHeld ?_
          simp only [Act.put, gA9, gZ9, gC9, sA9, sZ9, sC9]
          refine wpAnyH_take (i := 11) (v := .pointer (some ⟨b, off + j * 4, none⟩)) rfl (by kernel_rfl) (by kernel_rfl) (by kernel_rfl) (fun _ _ _ h => h) (Or.inl ⟨by rfl, fun w' hS => by go_simp⟩) hHeld ?_
          simp only [Act.put, gA9, gZ9, gC9, sA9, sZ9, sC9]
          refine wpAnyH_take (i := 12) (v := .pointer (some ⟨b, off + j * 4 + 1, none⟩)) rfl (by kernel_rfl) (by kernel_rfl) (by kernel_rfl) (fun _ _ _ h => h) (Or.inl ⟨by rfl, fun w' hS => by go_simp⟩) hHeld ?_
          simp only [Act.put, gA9, gZ9, gC9, sA9, sZ9, sC9]
          refine wpAnyH_take (i := 13) (v := .int .i64 u2) rfl (by kernel_rfl) (by kernel_rfl) (by kernel_rfl) (fun _ _ _ h => h) (Or.inl ⟨by rfl, fun w' hS => by (obtain ⟨t0, t1, t2, t3⟩ := hS; go_simp)⟩) hHeld ?_
          simp only [Act.put, gA9, gZ9, gC9, sA9, sZ9, sC9]
          refine wpAnyH_take (i := 14) (v := .pointer (some ⟨kb, 1, none⟩)) rfl (by kernel_rfl) (by kernel_rfl) (by kernel_rfl) (fun _ _ _ h => h) (Or.inl ⟨by rfl, fun w' hS => by go_simp⟩) hHeld ?_
          simp only [Act.put, gA9, gZ9, gC9, sA9, sZ9, sC9]
          refine wpAnyH_take (i := 15) (v := .int .i64 u2) rfl (by kernel_rfl) (by kernel_rfl) (by kernel_rfl) (fun _ _ _ h => h) (Or.inl ⟨by rfl, fun w' hS => by (obtain ⟨t0, t1, t2, t3⟩ := hS; go_simp)⟩) hHeld ?_
          simp only [Act.put, gA9, gZ9, gC9, sA9, sZ9, sC9]
          refine wpAnyH_take (i := 16) (v := .bool true) rfl (by kernel_rfl) (by kernel_rfl) (by kernel_rfl) (fun _ _ _ h => h) (Or.inl ⟨by rfl, fun w' hS => by first | (go_simp; done) | (go_simp; omega) | (go_simp; simp_all)⟩) hHeld ?_
          simp only [Act.put, gA9, gZ9, gC9, sA9, sZ9, sC9]
          refine wpAnyH_take (i := 17) (v := .bool true) rfl (by kernel_rfl) (by kernel_rfl) (by kernel_rfl) (fun _ _ _ h => h) (Or.inl ⟨by rfl, fun w' hS => by go_simp⟩) hHeld ?_
          simp only [Act.put, gA9, gZ9, gC9, sA9, sZ9, sC9]
          refine wpAnyH_done (by kernel_rfl) ?_ _
          clear hHeld
          go_wp2
          go_ret
          exact ⟨(j : Int), rfl, Hr.out, by rw [Hkb.out]; exact (HB.out.trans (HW.out.mono HBz.out)).drew⟩
        · have Hr : Hid (∀ k, k < j + 1 → (ds.getD k dx0).s ≠ (u1, s2)) := Hn.out (fun e => by cases e; exact h2 rfl)
          go_wp2_with (fail)
          refine wp_region_held_drew (S := (fun w' => w'.cell? ⟨b, off + j * 4, none⟩ = some (.int .i64 u1) ∧ w'.cell? ⟨b, off + j * 4 + 1, none⟩ = some (.int .i64 u2) ∧ w'.cell? ⟨kb, 0, none⟩ = some (.int .i64 u1) ∧ w'.cell? ⟨kb, 1, none⟩ = some (.int .i64 s2))) (by kernel_rfl) ⟨below_at (Below.refl _ _).drew q0, below_at (Below.refl _ _).drew q1, below_at (Below.refl _ _).drew c0, below_at (Below.refl _ _).drew c1⟩ (fun hHeld => ?_)
          simp only [Act.put, List.size_toArray, List.length_cons, List.length_nil, Nat.zero_add]
          refine wpAnyH_take (i := 0) (v := .slice (some ⟨b, off, none⟩) L cp) rfl (by kernel_rfl) (by kernel_rfl) (by kernel_rfl) (fun _ _ _ h => h) (Or.inl ⟨by rfl, fun w' hS => by go_simp⟩) hHeld ?_
          simp only [Act.put, gA9, gZ9, gC9, sA9, sZ9, sC9]
          refine wpAnyH_take (i := 1) (v := .int .i64 (j : Int)) rfl (by kernel_rfl) (by kernel_rfl) (by kernel_rfl) (fun _ _ _ h => h) (Or.inl ⟨by rfl, fun w' hS => by go_simp⟩) hHeld ?_
          simp only [Act.put, gA9, gZ9, gC9, sA9, sZ9, sC9]
          refine wpAnyH_take (i := 2) (v := .pointer (some ⟨b, off + j * 4, none⟩)) rfl (by kernel_rfl) (by kernel_rfl) (by kernel_rfl) (fun _ _ _ h => h) (Or.inl ⟨by rfl, fun w' hS => by go_simp⟩) hHeld ?_
          simp only [Act.put, gA9, gZ9, gC9, sA9, sZ9, sC9]
          refine wpAnyH_take (i := 3) (v := .pointer (some ⟨b, off + j * 4, none⟩)) rfl (by kernel_rfl) (by kernel_rfl) (by kernel_rfl) (fun _ _ _ h => h) (Or.inl ⟨by rfl, fun w' hS => by go_simp⟩) hHeld ?_
          simp only [Act.put, gA9, gZ9, gC9, sA9, sZ9, sC9]
          refine wpAnyH_take (i := 4) (v := .int .i64 u1) rfl (by kernel_rfl) (by kernel_rfl) (by kernel_rfl) (fun _ _ _ h => h) (Or.inl ⟨by rfl, fun w' hS => by (obtain ⟨t0, t1, t2, t3⟩ := hS; go_simp)⟩) hHeld ?_
          simp only [Act.put, gA9, gZ9, gC9, sA9, sZ9, sC9]
          refine wpAnyH_take (i := 5) (v := .pointer (some ⟨kb, 0, none⟩)) rfl (by kernel_rfl) (by kernel_rfl) (by kernel_rfl) (fun _ _ _ h => h) (Or.inl ⟨by rfl, fun w' hS => by go_simp⟩) hHeld ?_
          simp only [Act.put, gA9, gZ9, gC9, sA9, sZ9, sC9]
          refine wpAnyH_take (i := 6) (v := .int .i64 u1) rfl (by kernel_rfl) (by kernel_rfl) (by kernel_rfl) (fun _ _ _ h => h) (Or.inl ⟨by rfl, fun w' hS => by (obtain ⟨t0, t1, t2, t3⟩ := hS; go_simp)⟩) hHeld ?_
          simp only [Act.put, gA9, gZ9, gC9, sA9, sZ9, sC9]
          refine wpAnyH_take (i := 7) (v := .bool true) rfl (by kernel_rfl) (by kernel_rfl) (by kernel_rfl) (fun _ _ _ h => h) (Or.inl ⟨by rfl, fun w' hS => by first | (go_simp; done) | (go_simp; omega) | (go_simp; simp_all)⟩) hHeld ?_
          simp only [Act.put, gA9, gZ9, gC9, sA9, sZ9, sC9]
          refine wpAnyH_take (i := 8) (v := .bool true) rfl (by kernel_rfl) (by kernel_rfl) (by kernel_rfl) (fun _ _ _ h => h) (Or.inl ⟨by rfl, fun w' hS => by go_simp⟩) hHeld ?_
          simp only [Act.put, gA9, gZ9, gC9, sA9, sZ9, sC9]
          refine wpAnyH_take (i := 9) (v := .slice (some ⟨b, off, none⟩) L cp) rfl (by kernel_rfl) (by kernel_rfl) (by kernel_rfl) (fun _ _ _ h => h) (Or.inl ⟨by rfl, fun w' hS => by go_simp⟩) hHeld ?_
          simp only [Act.put, gA9, gZ9, gC9, sA9, sZ9, sC9]
          refine wpAnyH_take (i := 10) (v := .int .i64 (j : Int)) rfl (by kernel_rfl) (by kernel_rfl) (by kernel_rfl) (fun _ _ _ h => h) (Or.inl ⟨by rfl, fun w' hS => by go_simp⟩) hHeld ?_
          simp only [Act.put, gA9, gZ9, gC9, sA9, sZ9, sC9]
          refine wpAnyH_take (i := 11) (v := .pointer (some ⟨b, off + j * 4, none⟩)) rfl (by kernel_rfl) (by kernel_rfl) (by kernel_rfl) (fun _ _ _ h => h) (Or.inl ⟨by rfl, fun w' hS => by go_simp⟩) hHeld ?_
          simp only [Act.put, gA9, gZ9, gC9, sA9, sZ9, sC9]
          refine wpAnyH_take (i := 12) (v := .pointer (some ⟨b, off + j * 4 + 1, none⟩)) rfl (by kernel_rfl) (by kernel_rfl) (by kernel_rfl) (fun _ _ _ h => h) (Or.inl ⟨by rfl, fun w' hS => by go_simp⟩) hHeld ?_
          simp only [Act.put, gA9, gZ9, gC9, sA9, sZ9, sC9]
          refine wpAnyH_take (i := 13) (v := .int .i64 u2) rfl (by kernel_rfl) (by kernel_rfl) (by kernel_rfl) (fun _ _ _ h => h) (Or.inl ⟨by rfl, fun w' hS => by (obtain ⟨t0, t1, t2, t3⟩ := hS; go_simp)⟩) hHeld ?_
          simp only [Act.put, gA9, gZ9, gC9, sA9, sZ9, sC9]
          refine wpAnyH_take (i := 14) (v := .pointer (some ⟨kb, 1, none⟩)) rfl (by kernel_rfl) (by kernel_rfl) (by kernel_rfl) (fun _ _ _ h => h) (Or.inl ⟨by rfl, fun w' hS => by go_simp⟩) hHeld ?_
          simp only [Act.put, gA9, gZ9, gC9, sA9, sZ9, sC9]
          refine wpAnyH_take (i := 15) (v := .int .i64 s2) rfl (by kernel_rfl) (by kernel_rfl) (by kernel_rfl) (fun _ _ _ h => h) (Or.inl ⟨by rfl, fun w' hS => by (obtain ⟨t0, t1, t2, t3⟩ := hS; go_simp)⟩) hHeld ?_
          simp only [Act.put, gA9, gZ9, gC9, sA9, sZ9, sC9]
          refine wpAnyH_take (i := 16) (v := .bool false) rfl (by kernel_rfl) (by kernel_rfl) (by kernel_rfl) (fun _ _ _ h => h) (Or.inl ⟨by rfl, fun w' hS => by first | (go_simp; done) | (go_simp; omega) | (go_simp; simp_all)⟩) hHeld ?_
          simp only [Act.put, gA9, gZ9, gC9, sA9, sZ9, sC9]
          refine wpAnyH_take (i := 17) (v := .bool false) rfl (by kernel_rfl) (by kernel_rfl) (by kernel_rfl) (fun _ _ _ h => h) (Or.inl ⟨by rfl, fun w' hS => by go_simp⟩) hHeld ?_
          simp only [Act.put, gA9, gZ9, gC9, sA9, sZ9, sC9]
          refine wpAnyH_done (by kernel_rfl) ?_ _
          clear hHeld
          go_wp2
          exact ⟨⟨j + 1, by omega, by go_num, Hr.out, HW.out.drew⟩, by simp [intOf]; omega⟩
      · have Hr : Hid (∀ k, k < j + 1 → (ds.getD k dx0).s ≠ (s1, s2)) := Hn.out (fun e => by cases e; exact h1 rfl)
        go_wp2_with (fail)
        refine wp_region_held_drew (S := (fun w' => w'.cell? ⟨b, off + j * 4, none⟩ = some (.int .i64 u1) ∧ w'.cell? ⟨b, off + j * 4 + 1, none⟩ = some (.int .i64 u2) ∧ w'.cell? ⟨kb, 0, none⟩ = some (.int .i64 s1) ∧ w'.cell? ⟨kb, 1, none⟩ = some (.int .i64 s2))) (by kernel_rfl) ⟨below_at (Below.refl _ _).drew q0, below_at (Below.refl _ _).drew q1, below_at (Below.refl _ _).drew c0, below_at (Below.refl _ _).drew c1⟩ (fun hHeld => ?_)
        simp only [Act.put, List.size_toArray, List.length_cons, List.length_nil, Nat.zero_add]
        refine wpAnyH_take (i := 0) (v := .slice (some ⟨b, off, none⟩) L cp) rfl (by kernel_rfl) (by kernel_rfl) (by kernel_rfl) (fun _ _ _ h => h) (Or.inl ⟨by rfl, fun w' hS => by go_simp⟩) hHeld ?_
        simp only [Act.put, gA9, gZ9, gC9, sA9, sZ9, sC9]
        refine wpAnyH_take (i := 1) (v := .int .i64 (j : Int)) rfl (by kernel_rfl) (by kernel_rfl) (by kernel_rfl) (fun _ _ _ h => h) (Or.inl ⟨by rfl, fun w' hS => by go_simp⟩) hHeld ?_
        simp only [Act.put, gA9, gZ9, gC9, sA9, sZ9, sC9]
        refine wpAnyH_take (i := 2) (v := .pointer (some ⟨b, off + j * 4, none⟩)) rfl (by kernel_rfl) (by kernel_rfl) (by kernel_rfl) (fun _ _ _ h => h) (Or.inl ⟨by rfl, fun w' hS => by go_simp⟩) hHeld ?_
        simp only [Act.put, gA9, gZ9, gC9, sA9, sZ9, sC9]
        refine wpAnyH_take (i := 3) (v := .pointer (some ⟨b, off + j * 4, none⟩)) rfl (by kernel_rfl) (by kernel_rfl) (by kernel_rfl) (fun _ _ _ h => h) (Or.inl ⟨by rfl, fun w' hS => by go_simp⟩) hHeld ?_
        simp only [Act.put, gA9, gZ9, gC9, sA9, sZ9, sC9]
        refine wpAnyH_take (i := 4) (v := .int .i64 u1) rfl (by kernel_rfl) (by kernel_rfl) (by kernel_rfl) (fun _ _ _ h => h) (Or.inl ⟨by rfl, fun w' hS => by (obtain ⟨t0, t1, t2, t3⟩ := hS; go_simp)⟩) hHeld ?_
        simp only [Act.put, gA9, gZ9, gC9, sA9, sZ9, sC9]
        refine wpAnyH_take (i := 5) (v := .pointer (some ⟨kb, 0, none⟩)) rfl (by kernel_rfl) (by kernel_rfl) (by kernel_rfl) (fun _ _ _ h => h) (Or.inl ⟨by rfl, fun w' hS => by go_simp⟩) hHeld ?_
        simp only [Act.put, gA9, gZ9, gC9, sA9, sZ9, sC9]
        refine wpAnyH_take (i := 6) (v := .int .i64 s1) rfl (by kernel_rfl) (by kernel_rfl) (by kernel_rfl) (fun _ _ _ h => h) (Or.inl ⟨by rfl, fun w' hS => by (obtain ⟨t0, t1, t2, t3⟩ := hS; go_simp)⟩) hHeld ?_
        simp only [Act.put, gA9, gZ9, gC9, sA9, sZ9, sC9]
        refine wpAnyH_take (i := 7) (v := .bool false) rfl (by kernel_rfl) (by kernel_rfl) (by kernel_rfl) (fun _ _ _ h => h) (Or.inl ⟨by rfl, fun w' hS => by first | (go_simp; done) | (go_simp; omega) | (go_simp; simp_all)⟩) hHeld ?_
        simp only [Act.put, gA9, gZ9, gC9, sA9, sZ9, sC9]
        refine wpAnyH_take (i := 8) (v := .bool false) rfl (by kernel_rfl) (by kernel_rfl) (by kernel_rfl) (fun _ _ _ h => h) (Or.inl ⟨by rfl, fun w' hS => by go_simp⟩) hHeld ?_
        simp only [Act.put, gA9, gZ9, gC9, sA9, sZ9, sC9]
        refine wpAnyH_take (i := 9) (v := undef) rfl (by kernel_rfl) (by kernel_rfl) (by kernel_rfl) (fun _ _ _ h => h) (Or.inr ⟨by rfl, rfl⟩) hHeld ?_
        simp only [Act.put, gA9, gZ9, gC9, sA9, sZ9, sC9]
        refine wpAnyH_take (i := 10) (v := undef) rfl (by kernel_rfl) (by kernel_rfl) (by kernel_rfl) (fun _ _ _ h => h) (Or.inr ⟨by rfl, rfl⟩) hHeld ?_
        simp only [Act.put, gA9, gZ9, gC9, sA9, sZ9, sC9]
        refine wpAnyH_take (i := 11) (v := undef) rfl (by kernel_rfl) (by kernel_rfl) (by kernel_rfl) (fun _ _ _ h => h) (Or.inr ⟨by rfl, rfl⟩) hHeld ?_
        simp only [Act.put, gA9, gZ9, gC9, sA9, sZ9, sC9]
        refine wpAnyH_take (i := 12) (v := undef) rfl (by kernel_rfl) (by kernel_rfl) (by kernel_rfl) (fun _ _ _ h => h) (Or.inr ⟨by rfl, rfl⟩) hHeld ?_
        simp only [Act.put, gA9, gZ9, gC9, sA9, sZ9, sC9]
        refine wpAnyH_take (i := 13) (v := undef) rfl (by kernel_rfl) (by kernel_rfl) (by kernel_rfl) (fun _ _ _ h => h) (Or.inr ⟨by rfl, rfl⟩) hHeld ?_
        simp only [Act.put, gA9, gZ9, gC9, sA9, sZ9, sC9]
        refine wpAnyH_take (i := 14) (v := undef) rfl (by kernel_rfl) (by kernel_rfl) (by kernel_rfl) (fun _ _ _ h => h) (Or.inr ⟨by rfl, rfl⟩) hHeld ?_
        simp only [Act.put, gA9, gZ9, gC9, sA9, sZ9, sC9]
        refine wpAnyH_take (i := 15) (v := undef) rfl (by kernel_rfl) (by kernel_rfl) (by kernel_rfl) (fun _ _ _ h => h) (Or.inr ⟨by rfl, rfl⟩) hHeld ?_
        simp only [Act.put, gA9, gZ9, gC9, sA9, sZ9, sC9]
        refine wpAnyH_take (i := 16) (v := undef) rfl (by kernel_rfl) (by kernel_rfl) (by kernel_rfl) (fun _ _ _ h => h) (Or.inr ⟨by rfl, rfl⟩) hHeld ?_
        simp only [Act.put, gA9, gZ9, gC9, sA9, sZ9, sC9]
        refine wpAnyH_take (i := 17) (v := .bool false) rfl (by kernel_rfl) (by kernel_rfl) (by kernel_rfl) (fun _ _ _ h => h) (Or.inl ⟨by rfl, fun w' hS => by go_simp⟩) hHeld ?_
        simp only [Act.put, gA9, gZ9, gC9, sA9, sZ9, sC9]
        refine wpAnyH_done (by kernel_rfl) ?_ _
        clear hHeld
        go_wp2
        exact ⟨⟨j + 1, by omega, by go_num, Hr.out, HW.out.drew⟩, by simp [intOf]; omega⟩
    · obtain rfl : L = j := by omega
      have Hr : Hid (FindS ds (s1, s2) (-1)) := (HF.out _).2 (.inl ⟨rfl, HN.out⟩)
      go_wp2
      go_ret
      exact ⟨-1, rfl, Hr.out, by rw [Hkb.out]; exact HB.out.trans (HW.out.mono HBz.out)⟩
end
end Go.Proofs.Ytihcaopcfhbofaa.Fm
