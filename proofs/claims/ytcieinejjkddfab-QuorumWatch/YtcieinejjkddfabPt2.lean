import Derived.Test.YtcieinejjkddfabPs2
namespace Go.Proofs.Ytcieinejjkddfab.Qm
open Go.RowKit Mb
set_option linter.unusedVariables false
set_option maxRecDepth 100000
set_option linter.unusedSimpArgs false
section
variable {w w' : World} {B : Nat} {A : Wa} {R R' : Rq} {v : Vw} {s : Nat}
structure Ow where
  k : Int
  v : Vw
  mo : Option Addr
  mn : Nat
  mc : Nat
def Ow.cs (o : Ow) : List Value := [.int .i64 o.k, .int .i64 o.v.ep, .int .i64 o.v.ld, .int .i64 o.v.ic, .int .i64 o.v.cd, .slice o.mo o.mn o.mc]
structure RdOw (w : World) (oo : Option Addr) (m d : Nat) (f : Nat → Ow) : Prop where
  cap : m ≤ d
  at_ : m = 0 ∨ ∃ b off, oo = some ⟨b, off, none⟩ ∧ ∀ i, i < m → w.rangeAt b (off + i * 6) (f i).cs
  mem : ∀ i, i < m → Rd3 w (f i).mo (f i).mn (f i).mc (f i).v.ms ∧ (f i).mn ≤ 5864062014634
theorem RdOw.still {oo : Option Addr} {m d : Nat} {f : Nat → Ow} (h : RdOw w oo m d f) (hb : Below w.heap.size w w') : RdOw w' oo m d f :=
  ⟨h.cap, h.at_.elim (fun hh => .inl hh) (fun ⟨b, off, e, hc⟩ => .inr ⟨b, off, e, fun i hi => below_range hb (hc i hi)⟩), fun i hi => ⟨(h.mem i hi).1.still hb, (h.mem i hi).2⟩⟩
theorem Rd3.lt {ao : Option Addr} {n c : Nat} {ts : List St} (h : Rd3 w ao n c ts) (hn : n ≠ 0) : ∀ b off, ao = some ⟨b, off, none⟩ → b < w.heap.size := by
  intro b off e
  obtain ⟨b', off', e', hr⟩ := h.at (i := 0) (by omega)
  rw [e] at e'
  obtain ⟨rfl, rfl⟩ : b = b' ∧ off = off' := by simpa using e'
  have := hr 0 (.int .i64 (ts.getD 0 z3).p) rfl
  exact World.block_lt_of_cell? w _ this
theorem info_op : (Try.prog.info? 54).map (·.size) = some 6 := by kernel_rfl
theorem info_wat : (Try.prog.info? 42).map (·.size) = some 2 := by kernel_rfl
set_option maxHeartbeats 8000000 in
theorem watch_law {ao : Option Addr} {n c : Nat} {xs : List Int} (hr : RdI w ao n c xs) (hn : n ≤ 17592186043904) {oo : Option Addr} {m d : Nat} {f : Nat → Ow} (ho : RdOw w oo m d f) (hm : m ≤ 2299999999999) : Calls Try.prog 5 #[.agg #[.slice ao n c, .slice oo m d]] w fun e w' => e = .returned (.bool true) ∧ Below w.heap.size w w' := by
  generalize hW : w.alloc (.cells #[.slice ao n c, .slice oo m d] 42) = W
  have hbW : Below w.heap.size w W := by rw [← hW]; exact balloc (Below.refl _ w)
  have hblk : W.heap[w.heap.size]? = some (.cells #[.slice ao n c, .slice oo m d] 42 (0, 0)) := by rw [← hW]; exact heap_alloc_new w _
  have HQ : Hid (W.rangeAt w.heap.size 0 [.slice ao n c, .slice oo m d]) := blk_range hblk
  have HQ1 : Hid (W.cell? ⟨w.heap.size, 1, none⟩ = some (.slice oo m d)) := blk_cell hblk 1
  have HR : Hid (RdI W ao n c xs) := hr.still hbW
  have HO : Hid (RdOw W oo m d f) := ho.still hbW
  have HBW : Hid (Below w.heap.size w W) := hbW
  clear hr ho hblk hbW
  go_enter Try.func5, Try.ntmps5
  go_wp2_with (first
    | (refine at_load 42 (.tmp 1) rfl ?_; refine load_mid 42 (.tmp 1) HQ.out _ Try.underlying42 rfl info_wat rfl rfl rfl ?_)
    | fail)
  refine (watch_any HR.out hn (.slice oo m d)).mono ?_
  rintro e w1 ⟨p, q, rfl, hy, hno, hb1⟩
  have HB1 : Hid (Below W.heap.size W w1) := hb1
  cases hok : okI xs with
  | false =>
    obtain ⟨rfl, rfl⟩ := hno hok
    clear hy hno hb1
    go_wp2
    go_ret
    exact ⟨rfl, bstep HBW.out HB1.out⟩
  | true =>
    obtain ⟨A, R, rfl, rfl, hP, hRe⟩ := hy hok
    have HP : Hid (Pr A R w1 W.heap.size) := hP
    have HRe : Hid (R.es = []) := hRe
    have q1 := below_at hb1 HQ1.out
    clear hy hno hb1 hP hRe
    go_wp2_with (fail)
    go_loopw [6] (fun i wr => ∃ k : Nat, k ≤ m ∧ i = .int .i64 (k : Int) ∧ Hid (∃ (A' : Wa) (R' : Rq), A'.b = A.b ∧ R'.b = R.b ∧ Pr A' R' wr W.heap.size ∧ R'.es.length ≤ k) ∧ Hid (Below W.heap.size W wr)) (fun i _ => m - (intOf i).toNat)
    case atStart => exact ⟨0, Nat.zero_le _, rfl, ⟨A, R, rfl, rfl, HP.out, by rw [HRe.out]; exact Nat.le_refl _⟩, HB1.out⟩
    case round =>
      obtain ⟨k, hk, rfl, HE, HBk⟩ := hrel
      have d1 := below_at HBk.out HQ1.out
      clear q1
      by_cases hlt : k < m
      · have HOk := HO.out.still HBk.out
        obtain ⟨b, off, hg, hc⟩ : ∃ b off, oo = some ⟨b, off, none⟩ ∧ ∀ i, i < m → wr.rangeAt b (off + i * 6) (f i).cs := HOk.at_.elim (fun h => by omega) id
        have i1 : (0 : Int) ≤ (k : Int) := Int.natCast_nonneg _
        have i2 : (k : Int) < (m : Int) := by omega
        have HC : Hid (wr.rangeAt b (off + k * 6) [.int .i64 (f k).k, .int .i64 (f k).v.ep, .int .i64 (f k).v.ld, .int .i64 (f k).v.ic, .int .i64 (f k).v.cd, .slice (f k).mo (f k).mn (f k).mc]) := hc k hlt
        have hmem := HOk.mem k hlt
        have hlt3 := (HO.out.mem k hlt).1
        have HCall : Hid (Calls Try.prog 21 #[.pointer (some ⟨A.b, 0, none⟩), .pointer (some ⟨R.b, 0, none⟩), .agg #[.int .i64 (f k).k, .int .i64 (f k).v.ep, .int .i64 (f k).v.ld, .int .i64 (f k).v.ic, .int .i64 (f k).v.cd, .slice (f k).mo (f k).mn (f k).mc]] wr fun e w' => e = .returned (.bool true) ∧ (∃ (A' : Wa) (R' : Rq), A'.b = A.b ∧ R'.b = R.b ∧ Pr A' R' w' W.heap.size ∧ R'.es.length ≤ k + 1) ∧ Below W.heap.size wr w') := by
          obtain ⟨A', R', hA, hR, hP, hl⟩ := HE.out
          have hcall := watched1_any (v := (f k).v) hP HBk.out.size (by omega) (f k).k hmem.1 hmem.2 (fun h0 => hlt3.lt h0)
          rw [hA, hR] at hcall
          refine hcall.mono ?_
          rintro e w2 ⟨he, A2, R2, hA2, hR2, hP2, hl2, hb2, _, _⟩
          exact ⟨he, ⟨A2, R2, hA2, hR2, hP2, by omega⟩, hb2⟩
        rw [hg] at d1
        clear hg hc HOk hmem hlt3
        generalize f k = o at *
        go_wp2_with (first
          | (refine at_load 54 (.tmp 32) rfl ?_; refine load_mid 54 (.tmp 32) HC.out _ Try.underlying54 rfl info_op rfl rfl rfl ?_)
          | fail)
        refine HCall.out.mono ?_
        rintro e w2 ⟨rfl, hE2, hb2⟩
        have HE2 : Hid (∃ (A' : Wa) (R' : Rq), A'.b = A.b ∧ R'.b = R.b ∧ Pr A' R' w2 W.heap.size ∧ R'.es.length ≤ k + 1) := hE2
        have HB2 : Hid (Below W.heap.size W w2) := HBk.out.trans hb2
        clear hE2 hb2
        go_wp2_with (fail)
        exact ⟨⟨k + 1, by omega, by go_num, HE2.out, HB2.out⟩, by simp [intOf]; omega⟩
      · obtain rfl : k = m := by omega
        have HAs : Hid (∀ (j : Int) (V : World), Below wr.heap.size wr V → Calls Try.prog 22 #[.pointer (some ⟨A.b, 0, none⟩), .pointer (some ⟨R.b, 0, none⟩), .int .i64 j] V fun e w' => e = .returned (.bool true) ∧ Below V.heap.size V w') := fun j V hV => by
          obtain ⟨A', R', hA, hR, hP, hl⟩ := HE.out
          have hcall := asks_any (hP.still hV).a (hP.still hV).r hP.s (by omega) j
          rw [hA, hR] at hcall
          exact hcall
        go_wp2_with (fail)
        refine (HAs.out 2 _ (Below.refl _ _)).mono ?_
        rintro e w2 ⟨rfl, hb2⟩
        go_wp2_with (fail)
        refine (HAs.out 3 _ hb2).mono ?_
        rintro e w3 ⟨rfl, hb3⟩
        go_wp2_with (fail)
        refine (HAs.out 4 _ (bstep hb2 hb3)).mono ?_
        rintro e w4 ⟨rfl, hb4⟩
        go_wp2_with (fail)
        go_ret
        exact ⟨rfl, bstep HBW.out (bstep HBk.out (bstep (bstep hb2 hb3) hb4))⟩
end
end Go.Proofs.Ytcieinejjkddfab.Qm
