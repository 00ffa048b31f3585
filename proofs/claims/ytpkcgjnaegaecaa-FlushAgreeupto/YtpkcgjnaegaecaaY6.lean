import Derived.Test.YtpkcgjnaegaecaaY4
import Derived.Test.YtpkcgjnaegaecaaY5
import Derived.Test.YtpkcgjnaegaecaaZr
import Derived.Test.YtpkcgjnaegaecaaZk
namespace Go.Proofs.Ytpkcgjnaegaecaa.Fm
open Go.RowKit Go.Maps Mb
set_option linter.unusedVariables false
set_option maxRecDepth 100000
set_option linter.unusedSimpArgs false
section
variable {w w' W : World} {B : Nat}
set_option maxHeartbeats 1000000 in
theorem clip_any {b off n cp : Nat} (hn : n ≤ cp) (hc : cp ≤ 9223372036854775807) (h0 : 1 ≤ n) : Calls Try.prog 34 #[.slice (some ⟨b, off, none⟩) n cp] w fun e w' => e = .returned (.slice (some ⟨b, off, none⟩) n n) ∧ w' = w := by
  have h1 : (n : Int) ≤ (cp : Int) := by omega
  have h2 : (0 : Int) ≤ (n : Int) := Int.natCast_nonneg _
  go_enter Try.func34, Try.ntmps34
  go_wp2
  go_ret
  exact ⟨rfl, rfl⟩
set_option maxHeartbeats 1000000 in
theorem lk1_any {ao : Option Addr} {cp : Nat} {fs : List Fl} (hr : RdFs w ao fs) (hn : fs.length ≤ 1000000000000000000) (s : Int × Int) (hs0 : 0 ≤ s.1) (hk : ∀ i, i < fs.length → s.1 < (fs.getD i fl0).c.hv.length) (kb hb : Nat) (hh : w.heap[hb]? = some (.cells #[.slice ao fs.length cp] 22 (0, 0))) (hf : w.heap[kb]? = some (.cells #[.func (.func 58) #[] #[.pointer (some ⟨hb, 0, none⟩)]] 77 (0, 0))) : Calls Try.prog 38 #[.agg (slotV s).toArray, .pointer (some ⟨kb, 0, none⟩)] w fun e w' => e = .returned (.bool (!hasA (cos fs) s)) ∧ Below w.heap.size w w' := by
  obtain ⟨s1, x⟩ := s
  obtain ⟨k, rfl⟩ : ∃ k : Nat, s1 = (k : Int) := ⟨s1.toNat, by simp at hs0; omega⟩
  generalize hW1 : w.alloc (.cells (slotV ((k : Int), x)).toArray 40) = W1
  have b1 : Below w.heap.size w W1 := hW1 ▸ balloc (Below.refl _ _)
  have k1 : W1.heap[w.heap.size]? = some (.cells (slotV ((k : Int), x)).toArray 40 (0, 0)) := by rw [← hW1]; exact heap_alloc_new w _
  have HB : Hid (Below w.heap.size w W1) := b1
  have HC := held_any (cp := cp) (hr.still b1) hn k x (fun i hi => by have := hk i hi; dsimp only at this; omega) hb (blk_on b1 hh)
  have q0 : W1.cell? ⟨kb, 0, none⟩ = some (.func (.func 58) #[] #[.pointer (some ⟨hb, 0, none⟩)]) := below_at b1 (blk_cell hf 0)
  have R1 : Hid (W1.rangeAt w.heap.size 0 (slotV ((k : Int), x))) := blk_range k1
  have Hl2 : Hid ((slotV ((k : Int), x)).length = 2) := rfl
  generalize hasA (cos fs) ((k : Int), x) = hb1 at *
  generalize slotV ((k : Int), x) = pc at *
  generalize fs.length = L at *
  clear hr hk hh hf b1 k1
  go_enter Try.func38, Try.ntmps38
  go_wp2_with (first
    | (refine load_mid 40 (.tmp 2) R1.out _ Try.underlying40 rfl (by rw [Hl2.out]; exact info_slot) rfl rfl rfl ?_)
    | (go_at_call 58; refine HC.mono ?_; rintro e w2 ⟨rfl, hb2⟩)
    | fail)
  go_ret
  exact ⟨rfl, bstep HB.out hb2⟩
def lkB (cs : List Co) (d : Int) : Bool := inR 0 4611686018427387904 d && inR 1 16 cs.length
def LkS (cs : List Co) (own : Co) (d E : Int) (l : List (Int × Int)) : Prop :=
  (lkB cs d = false ∧ E = 1 ∧ l = []) ∨ (lkB cs d = true ∧ togE (cs ++ [own]) ≠ 0 ∧ E = togE (cs ++ [own]) ∧ l = []) ∨
  (lkB cs d = true ∧ togE (cs ++ [own]) = 0 ∧ d < baseOf (cs ++ [own]) ∧ E = 82 ∧ l = []) ∨
  (lkB cs d = true ∧ togE (cs ++ [own]) = 0 ∧ ¬ d < baseOf (cs ++ [own]) ∧ E = 0 ∧ ∃ n ss, Ends (cs ++ [own]) n ∧ SlOf (cs ++ [own]) n ss ∧ l = pick (fun s => !has own s) (ss.drop (d - baseOf (cs ++ [own])).toNat))
theorem SlOf.eq {cs : List Co} {n : Nat} {ss ss' : List (Int × Int)} (h : SlOf cs n ss) (k : SlOf cs n ss') : ss = ss' := by
  apply List.ext_getElem?
  intro j
  by_cases hj : j < n
  · have e1 := h.2 j hj
    rw [k.2 j hj] at e1
    simp only [Option.some.injEq] at e1
    have h1 : j < ss.length := by have := h.1; omega
    have h2 : j < ss'.length := by have := k.1; omega
    simp [List.getD, h1, h2] at e1
    simp [h1, h2, e1]
  · rw [List.getElem?_eq_none (by have := h.1; omega), List.getElem?_eq_none (by have := k.1; omega)]
theorem LkS.eq {cs : List Co} {own : Co} {d E E' : Int} {l l' : List (Int × Int)} (h : LkS cs own d E l) (k : LkS cs own d E' l') : E = E' ∧ l = l' := by
  unfold LkS at h k
  rcases h with ⟨a1, a2, a3⟩ | ⟨a1, a2, a3, a4⟩ | ⟨a1, a2, a3, a4, a5⟩ | ⟨a1, a2, a3, a4, n, ss, h1, h2, h3⟩
  · rcases k with ⟨b1, b2, b3⟩ | ⟨b1, b2, b3, b4⟩ | ⟨b1, b2, b3, b4, b5⟩ | ⟨b1, b2, b3, b4, n', ss', k1, k2, k3⟩
    · exact ⟨by omega, by rw [a3, b3]⟩
    all_goals (rw [a1] at b1; cases b1)
  · rcases k with ⟨b1, b2, b3⟩ | ⟨b1, b2, b3, b4⟩ | ⟨b1, b2, b3, b4, b5⟩ | ⟨b1, b2, b3, b4, n', ss', k1, k2, k3⟩
    · rw [a1] at b1; cases b1
    · exact ⟨by omega, by rw [a4, b4]⟩
    · exact absurd b2 a2
    · exact absurd b2 a2
  · rcases k with ⟨b1, b2, b3⟩ | ⟨b1, b2, b3, b4⟩ | ⟨b1, b2, b3, b4, b5⟩ | ⟨b1, b2, b3, b4, n', ss', k1, k2, k3⟩
    · rw [a1] at b1; cases b1
    · exact absurd a2 b2
    · exact ⟨by omega, by rw [a5, b5]⟩
    · exact absurd a3 b3
  · rcases k with ⟨b1, b2, b3⟩ | ⟨b1, b2, b3, b4⟩ | ⟨b1, b2, b3, b4, b5⟩ | ⟨b1, b2, b3, b4, n', ss', k1, k2, k3⟩
    · rw [a1] at b1; cases b1
    · exact absurd a2 b2
    · exact absurd b3 a3
    · obtain rfl := h1.eq k1
      obtain rfl := h2.eq k2
      exact ⟨by omega, by rw [h3, k3]⟩
theorem LkS.len {cs : List Co} {own : Co} {d E : Int} {l : List (Int × Int)} (h : LkS cs own d E l) : l.length ≤ 1000000000000000000 := by
  rcases h with ⟨_, _, rfl⟩ | ⟨_, _, _, rfl⟩ | ⟨_, _, _, _, rfl⟩ | ⟨_, a2, _, _, n, ss, h1, h2, rfl⟩
  · simp
  · simp
  · simp
  · have h3 := pick_len (fun s => !has own s) (ss.drop (d - baseOf (cs ++ [own])).toNat)
    have h4 := Ends.le (tog_of a2) h1.1
    have h5 := h2.1
    rw [List.length_drop] at h3
    omega
theorem cos_app (fs : List Fl) (f : Fl) : cos (fs ++ [f]) = cos fs ++ [f.c] := by simp [cos]
structure LkJ (fs : List Fl) (W : World) (p ev : Value) (wx : World) : Prop where
  o : ∃ eb bb a n c e, p = .pointer (some ⟨eb, 0, none⟩) ∧ ev = .int .i64 e ∧ wx.heap[eb]? = some (.cells (endV bb a n c).toArray 71 (0, 0)) ∧ e = togE (cos fs) ∧ (e = 0 → bb = baseOf (cos fs) ∧ Ends (cos fs) n ∧ ∃ ss, SlOf (cos fs) n ss ∧ wx.ownsRow W.heap.size 40 2 (.slice a n c) n (slCells ss))
  b : Below W.heap.size W wx
theorem LkJ.fin {fs : List Fl} {W X Y Y' Z : World} {eb : Nat} {bb : Int} {a : Option Addr} {n c : Nat} {e : Int} {C : Array Value} (hq : JQ fs X Y bb a n c e) (hX : Below W.heap.size W X) (hY : Below W.heap.size W Y) (hy : Below Y.heap.size Y Y') (hZ : Y'.heap[eb]? = some (.cells C 71 (0, 0))) (hge : W.heap.size ≤ eb) (hk : Kept Y' Z (fun j => j = eb)) (hz : Z.heap[eb]? = some (.cells (endV bb a n c).toArray 71 (0, 0))) : LkJ fs W (.pointer (some ⟨eb, 0, none⟩)) (.int .i64 e) Z := by
  have h1 := bstep hY hy
  refine ⟨⟨eb, bb, a, n, c, e, rfl, rfl, hz, hq.e, fun h0 => ?_⟩, h1.trans (hk.below h1.size (fun k hk e => by omega))⟩
  obtain ⟨q1, q2, ss, q3, q4⟩ := hq.k h0
  exact ⟨q1, q2, ss, q3, own_lower (own_ne (own_still q4 hy) hZ (by decide) hk) hX.size⟩
end
end Go.Proofs.Ytpkcgjnaegaecaa.Fm
