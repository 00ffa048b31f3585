import Derived.Test.YtobaooebjgoaiaaV17
import Derived.Test.YtobaooebjgoaiaaV29
import Derived.Test.YtobaooebjgoaiaaV20
import Derived.Test.YtobaooebjgoaiaaV25
import Derived.Test.YtobaooebjgoaiaaV26
namespace Go.Proofs.Ytobaooebjgoaiaa.Fm
open Go.RowKit Go.Maps Mb
set_option linter.unusedVariables false
set_option maxRecDepth 100000
set_option linter.unusedSimpArgs false
section
variable {w w' W : World} {B : Nat}
set_option maxHeartbeats 1000000 in
theorem behind_any (b : Int) (g n c : Nat) (hnc : n ≤ c) (hc : c ≤ 9223372036854775807) (h0 : 0 ≤ b) (d : Int) (h1 : b ≤ d) (h2 : d ≤ 4611686018427387904) : Calls Try.prog 34 #[.agg (endV b (some ⟨g, 0, none⟩) n c).toArray, .int .i64 d] w fun e w' => e = .returned (.slice (some ⟨g, if c = min (d - b).toNat n then 0 else (min (d - b).toNat n) * 2, none⟩) (n - min (d - b).toNat n) (c - min (d - b).toNat n)) ∧ Below w.heap.size w w' := by
 generalize hW1 : w.alloc (.cells (endV b (some ⟨g, 0, none⟩) n c).toArray 79) = W1
 have HB : Hid (Below w.heap.size w W1) := hW1 ▸ balloc (Below.refl _ _)
 have k1 : W1.heap[w.heap.size]? = some (.cells (endV b (some ⟨g, 0, none⟩) n c).toArray 79 (0, 0)) := by rw [← hW1]; exact heap_alloc_new w _
 have q0 : W1.cell? ⟨w.heap.size, 0, none⟩ = some (.int .i64 b) := blk_cell k1 0
 have q1 : W1.cell? ⟨w.heap.size, 1, none⟩ = some (.slice (some ⟨g, 0, none⟩) n c) := blk_cell k1 1
 generalize (endV b (some ⟨g, 0, none⟩) n c).toArray = pc at *
 clear k1
 obtain ⟨k, hk⟩ : ∃ k : Nat, k = min (d - b).toNat n := ⟨_, rfl⟩
 rw [← hk]
 have hkn : k ≤ n := by omega
 have hmin : min (d - b) (n : Int) = (k : Int) := by omega
 clear hk
 obtain ⟨o, ho⟩ : ∃ o, o = if c = k then 0 else k * 2 := ⟨_, rfl⟩
 rw [← ho]
 have Ho : Hid (o = if c = k then 0 else k * 2) := ho
 clear ho
 go_enter Try.func34, Try.ntmps34
 go_wp2_with (first | (refine wl_at 5 rfl ?_) | fail)
 refine wT9 ?_
 simp only [Act.put,gA9,gZ9,gC9,sA9,sZ9,sC9]
 refine wT9 ?_
 simp only [Act.put,gA9,gZ9,gC9,sA9,sZ9,sC9]
 refine wT9 ?_
 simp only [Act.put,gA9,gZ9,gC9,sA9,sZ9,sC9]
 refine wT9 ?_
 simp only [Act.put,gA9,gZ9,gC9,sA9,sZ9,sC9]
 refine wT9 ?_
 simp only [Act.put,gA9,gZ9,gC9,sA9,sZ9,sC9]
 refine wl_take (v := .int .i64 (d - b)) (by kernel_rfl) (by go_simp; exact wrap_id (by omega) (by omega)) ?_
 simp only [Act.put,gA9,gZ9,gC9,sA9,sZ9,sC9]
 refine wT9 ?_
 simp only [Act.put,gA9,gZ9,gC9,sA9,sZ9,sC9]
 refine wT9 ?_
 simp only [Act.put,gA9,gZ9,gC9,sA9,sZ9,sC9]
 refine wT9 ?_
 simp only [Act.put,gA9,gZ9,gC9,sA9,sZ9,sC9]
 refine wl_take (v := .int .i64 (k : Int)) (by kernel_rfl) (by first | (go_simp; done) | (go_simp; split <;> first | omega | (congr 1; omega))) ?_
 simp only [Act.put,gA9,gZ9,gC9,sA9,sZ9,sC9]
 refine wl_take (v := .slice (some ⟨g, o, none⟩) (n - k) (c - k)) (by kernel_rfl) (by rw [Ho.out]; go_simp; split <;> first | rfl | (simp_all; done) | omega) ?_
 simp only [Act.put,gA9,gZ9,gC9,sA9,sZ9,sC9]
 refine wT9 ?_
 simp only [Act.put,gA9,gZ9,gC9,sA9,sZ9,sC9]
 refine ⟨?_⟩
 go_wp2
 go_ret
 exact ⟨rfl, HB.out⟩
set_option maxHeartbeats 1000000 in
theorem behind_none (b : Int) (h0 : 0 ≤ b) (d : Int) (h1 : b ≤ d) (h2 : d ≤ 4611686018427387904) : Calls Try.prog 34 #[.agg (endV b none 0 0).toArray, .int .i64 d] w fun e w' => e = .returned (.slice none 0 0) ∧ Below w.heap.size w w' := by
 generalize hW1 : w.alloc (.cells (endV b none 0 0).toArray 79) = W1
 have HB : Hid (Below w.heap.size w W1) := hW1 ▸ balloc (Below.refl _ _)
 have k1 : W1.heap[w.heap.size]? = some (.cells (endV b none 0 0).toArray 79 (0, 0)) := by rw [← hW1]; exact heap_alloc_new w _
 have q0 : W1.cell? ⟨w.heap.size, 0, none⟩ = some (.int .i64 b) := blk_cell k1 0
 have q1 : W1.cell? ⟨w.heap.size, 1, none⟩ = some (.slice none 0 0) := blk_cell k1 1
 generalize (endV b none 0 0).toArray = pc at *
 clear k1
 go_enter Try.func34, Try.ntmps34
 go_wp2_with (first | (refine wl_at 5 rfl ?_) | fail)
 refine wT9 ?_
 simp only [Act.put,gA9,gZ9,gC9,sA9,sZ9,sC9]
 refine wT9 ?_
 simp only [Act.put,gA9,gZ9,gC9,sA9,sZ9,sC9]
 refine wT9 ?_
 simp only [Act.put,gA9,gZ9,gC9,sA9,sZ9,sC9]
 refine wT9 ?_
 simp only [Act.put,gA9,gZ9,gC9,sA9,sZ9,sC9]
 refine wT9 ?_
 simp only [Act.put,gA9,gZ9,gC9,sA9,sZ9,sC9]
 refine wl_take (v := .int .i64 (d - b)) (by kernel_rfl) (by go_simp; exact wrap_id (by omega) (by omega)) ?_
 simp only [Act.put,gA9,gZ9,gC9,sA9,sZ9,sC9]
 refine wT9 ?_
 simp only [Act.put,gA9,gZ9,gC9,sA9,sZ9,sC9]
 refine wT9 ?_
 simp only [Act.put,gA9,gZ9,gC9,sA9,sZ9,sC9]
 refine wT9 ?_
 simp only [Act.put,gA9,gZ9,gC9,sA9,sZ9,sC9]
 refine wl_take (v := .int .i64 0) (by kernel_rfl) (by first | (go_simp; done) | (go_simp; omega) | (go_simp; split <;> first | omega | (congr 1; omega))) ?_
 simp only [Act.put,gA9,gZ9,gC9,sA9,sZ9,sC9]
 refine wl_take (v := .slice none 0 0) (by kernel_rfl) (by first | (go_simp; done) | (go_simp; omega)) ?_
 simp only [Act.put,gA9,gZ9,gC9,sA9,sZ9,sC9]
 refine wT9 ?_
 simp only [Act.put,gA9,gZ9,gC9,sA9,sZ9,sC9]
 refine ⟨?_⟩
 go_wp2
 go_ret
 exact ⟨rfl, HB.out⟩
theorem rdS_drop {g n c k : Nat} {ss : List (Int × Int)} (h : RdS w (some ⟨g, 0, none⟩) ss) (hn : ss.length = n) (hnc : n ≤ c) (hk : k ≤ n) : RdS w (some ⟨g, if c = k then 0 else k * 2, none⟩) (ss.drop k) := by
 unfold RdS Row
 rw [List.length_drop]
 by_cases h0 : ss.length - k = 0
 ·exact .inl h0
 ·rw [if_neg (by omega)]
  rcases h with h | ⟨b, off, h1, h2⟩
  ·omega
  ·simp at h1
   obtain ⟨rfl, rfl⟩ := h1
   refine .inr ⟨g, k * 2, rfl, fun i hi => ?_⟩
   have := h2 (k * 2 + i) (by omega)
   rw [Nat.zero_add] at this
   rw [this]
   unfold slotC
   rw [show (k * 2 + i) / 2 = k + i / 2 by omega, show (k * 2 + i) % 2 = i % 2 by omega]
   simp [List.getD, List.getElem?_drop]
end
end Go.Proofs.Ytobaooebjgoaiaa.Fm
namespace Go.Proofs.Ytobaooebjgoaiaa.Fm
open Go.RowKit Go.Maps Mb
set_option linter.unusedVariables false
set_option maxRecDepth 100000
set_option linter.unusedSimpArgs false
section
variable {w w' W : World} {B : Nat}
set_option maxHeartbeats 1000000 in
theorem clip_any {b off n cp : Nat} (hn : n ≤ cp) (hc : cp ≤ 9223372036854775807) (h0 : 1 ≤ n) : Calls Try.prog 31 #[.slice (some ⟨b, off, none⟩) n cp] w fun e w' => e = .returned (.slice (some ⟨b, off, none⟩) n n) ∧ w' = w := by
 have h1 : (n : Int) ≤ (cp : Int) := by omega
 have h2 : (0 : Int) ≤ (n : Int) := Int.natCast_nonneg _
 go_enter Try.func31, Try.ntmps31
 go_wp2
 go_ret
 exact ⟨rfl, rfl⟩
set_option maxHeartbeats 1000000 in
theorem lk1_any {ao : Option Addr} {cp : Nat} {fs : List Fl} (hr : RdFs w ao fs) (hn : fs.length ≤ 1000000000000000000) (s : Int × Int) (hs0 : 0 ≤ s.1) (hk : ∀ i, i < fs.length → s.1 < (fs.getD i fl0).c.hv.length) (kb hb : Nat) (hh : w.heap[hb]? = some (.cells #[.slice ao fs.length cp] 22 (0, 0))) (hf : w.heap[kb]? = some (.cells #[.func (.func 61) #[] #[.pointer (some ⟨hb, 0, none⟩)]] 83 (0, 0))) : Calls Try.prog 35 #[.agg (slotV s).toArray, .pointer (some ⟨kb, 0, none⟩)] w fun e w' => e = .returned (.bool (!hasA (cos fs) s)) ∧ Below w.heap.size w w' := by
 obtain ⟨s1, x⟩ := s
 obtain ⟨k, rfl⟩ : ∃ k : Nat, s1 = (k : Int) := ⟨s1.toNat, by simp at hs0; omega⟩
 generalize hW1 : w.alloc (.cells (slotV ((k : Int), x)).toArray 76) = W1
 have b1 : Below w.heap.size w W1 := hW1 ▸ balloc (Below.refl _ _)
 have k1 : W1.heap[w.heap.size]? = some (.cells (slotV ((k : Int), x)).toArray 76 (0, 0)) := by rw [← hW1]; exact heap_alloc_new w _
 have HB : Hid (Below w.heap.size w W1) := b1
 have HC := held_any (cp := cp) (hr.still b1) hn k x (fun i hi => by have := hk i hi; dsimp only at this; omega) hb (blk_on b1 hh)
 have q0 : W1.cell? ⟨kb, 0, none⟩ = some (.func (.func 61) #[] #[.pointer (some ⟨hb, 0, none⟩)]) := below_at b1 (blk_cell hf 0)
 have R1 : Hid (W1.rangeAt w.heap.size 0 (slotV ((k : Int), x))) := blk_range k1
 have Hl2 : Hid ((slotV ((k : Int), x)).length = 2) := rfl
 generalize hasA (cos fs) ((k : Int), x) = hb1 at *
 generalize slotV ((k : Int), x) = pc at *
 generalize fs.length = L at *
 clear hr hk hh hf b1 k1
 go_enter Try.func35, Try.ntmps35
 go_wp2_with (first
  | (refine load_mid 76 (.tmp 2) R1.out _ Try.underlying76 rfl (by rw [Hl2.out]; exact info_slot) rfl rfl rfl ?_)
  | (go_at_call 61; refine HC.mono ?_; rintro e w2 ⟨rfl, hb2⟩)
  | fail)
 go_ret
 exact ⟨rfl, bstep HB.out hb2⟩
def lkB (cs : List Co) (d : Int) : Bool := inR 0 4611686018427387904 d && inR 1 16 cs.length
def LkS (cs : List Co) (own : Co) (d E : Int) (l : List (Int × Int)) : Prop :=
 (lkB cs d = false ∧ E = 1 ∧ l = []) ∨ (lkB cs d = true ∧ togE (cs ++ [own]) ≠ 0 ∧ E = togE (cs ++ [own]) ∧ l = []) ∨
 (lkB cs d = true ∧ togE (cs ++ [own]) = 0 ∧ d < baseOf (cs ++ [own]) ∧ E = 82 ∧ l = []) ∨
 (lkB cs d = true ∧ togE (cs ++ [own]) = 0 ∧ ¬ d < baseOf (cs ++ [own]) ∧ E = 0 ∧ ∃ n ss, Ends (cs ++ [own]) n ∧ SlOf (cs ++ [own]) n ss ∧ l = pick (fun s => !has own s) (ss.drop (d - baseOf (cs ++ [own])).toNat))
theorem SlOf.eq {cs : List Co} {n : Nat} {ss ss' : List (Int × Int)} (h : SlOf cs n ss) (k : SlOf cs n ss') : ss = ss' := by
 apply List.ext_getElem?
 intro j
 by_cases hj : j < n
 ·have e1 := h.2 j hj
  rw [k.2 j hj] at e1
  simp only [Option.some.injEq] at e1
  have h1 : j < ss.length := by have := h.1; omega
  have h2 : j < ss'.length := by have := k.1; omega
  simp [List.getD, h1, h2] at e1
  simp [h1, h2, e1]
 ·rw [List.getElem?_eq_none (by have := h.1; omega), List.getElem?_eq_none (by have := k.1; omega)]
theorem LkS.eq {cs : List Co} {own : Co} {d E E' : Int} {l l' : List (Int × Int)} (h : LkS cs own d E l) (k : LkS cs own d E' l') : E = E' ∧ l = l' := by
 unfold LkS at h k
 rcases h with ⟨a1, a2, a3⟩ | ⟨a1, a2, a3, a4⟩ | ⟨a1, a2, a3, a4, a5⟩ | ⟨a1, a2, a3, a4, n, ss, h1, h2, h3⟩
 ·rcases k with ⟨b1, b2, b3⟩ | ⟨b1, b2, b3, b4⟩ | ⟨b1, b2, b3, b4, b5⟩ | ⟨b1, b2, b3, b4, n', ss', k1, k2, k3⟩
  ·exact ⟨by omega, by rw [a3, b3]⟩
  all_goals (rw [a1] at b1; cases b1)
 ·rcases k with ⟨b1, b2, b3⟩ | ⟨b1, b2, b3, b4⟩ | ⟨b1, b2, b3, b4, b5⟩ | ⟨b1, b2, b3, b4, n', ss', k1, k2, k3⟩
  ·rw [a1] at b1; cases b1
  ·exact ⟨by omega, by rw [a4, b4]⟩
  ·exact absurd b2 a2
  ·exact absurd b2 a2
 ·rcases k with ⟨b1, b2, b3⟩ | ⟨b1, b2, b3, b4⟩ | ⟨b1, b2, b3, b4, b5⟩ | ⟨b1, b2, b3, b4, n', ss', k1, k2, k3⟩
  ·rw [a1] at b1; cases b1
  ·exact absurd a2 b2
  ·exact ⟨by omega, by rw [a5, b5]⟩
  ·exact absurd a3 b3
 ·rcases k with ⟨b1, b2, b3⟩ | ⟨b1, b2, b3, b4⟩ | ⟨b1, b2, b3, b4, b5⟩ | ⟨b1, b2, b3, b4, n', ss', k1, k2, k3⟩
  ·rw [a1] at b1; cases b1
  ·exact absurd a2 b2
  ·exact absurd b3 a3
  ·obtain rfl := h1.eq k1
   obtain rfl := h2.eq k2
   exact ⟨by omega, by rw [h3, k3]⟩
theorem LkS.len {cs : List Co} {own : Co} {d E : Int} {l : List (Int × Int)} (h : LkS cs own d E l) : l.length ≤ 1000000000000000000 := by
 rcases h with ⟨_, _, rfl⟩ | ⟨_, _, _, rfl⟩ | ⟨_, _, _, _, rfl⟩ | ⟨_, a2, _, _, n, ss, h1, h2, rfl⟩
 ·simp
 ·simp
 ·simp
 ·have h3 := pick_len (fun s => !has own s) (ss.drop (d - baseOf (cs ++ [own])).toNat)
  have h4 := Ends.le (tog_of a2) h1.1
  have h5 := h2.1
  rw [List.length_drop] at h3
  omega
theorem cos_app (fs : List Fl) (f : Fl) : cos (fs ++ [f]) = cos fs ++ [f.c] := by simp [cos]
structure LkJ (fs : List Fl) (W : World) (p ev : Value) (wx : World) : Prop where
 o : ∃ eb bb a n c e, p = .pointer (some ⟨eb, 0, none⟩) ∧ ev = .int .i64 e ∧ wx.heap[eb]? = some (.cells (endV bb a n c).toArray 79 (0, 0)) ∧ e = togE (cos fs) ∧ (e = 0 → bb = baseOf (cos fs) ∧ Ends (cos fs) n ∧ ∃ ss, SlOf (cos fs) n ss ∧ wx.ownsRow W.heap.size 76 2 (.slice a n c) n (slCells ss))
 b : Below W.heap.size W wx
theorem LkJ.fin {fs : List Fl} {W X Y Y' Z : World} {eb : Nat} {bb : Int} {a : Option Addr} {n c : Nat} {e : Int} {C : Array Value} (hq : JQ fs X Y bb a n c e) (hX : Below W.heap.size W X) (hY : Below W.heap.size W Y) (hy : Below Y.heap.size Y Y') (hZ : Y'.heap[eb]? = some (.cells C 79 (0, 0))) (hge : W.heap.size ≤ eb) (hk : Kept Y' Z (fun j => j = eb)) (hz : Z.heap[eb]? = some (.cells (endV bb a n c).toArray 79 (0, 0))) : LkJ fs W (.pointer (some ⟨eb, 0, none⟩)) (.int .i64 e) Z := by
 have h1 := bstep hY hy
 refine ⟨⟨eb, bb, a, n, c, e, rfl, rfl, hz, hq.e, fun h0 => ?_⟩, h1.trans (hk.below h1.size (fun k hk e => by omega))⟩
 obtain ⟨q1, q2, ss, q3, q4⟩ := hq.k h0
 exact ⟨q1, q2, ss, q3, own_lower (own_ne (own_still q4 hy) hZ (by decide) hk) hX.size⟩
end
end Go.Proofs.Ytobaooebjgoaiaa.Fm
