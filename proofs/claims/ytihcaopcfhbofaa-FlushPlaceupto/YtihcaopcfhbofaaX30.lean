import Derived.Test.YtihcaopcfhbofaaX16
namespace Go.Proofs.Ytihcaopcfhbofaa.Fm
open Go.RowKit Go.Maps Mb
set_option linter.unusedVariables false
set_option maxRecDepth 100000
set_option linter.unusedSimpArgs false
section
variable {w w' W : World} {B : Nat}
def CutS (cs : List Co) (v E : Int) : Prop := (inR 1 16 cs.length = false ∧ E = 1 ∧ v = 0) ∨ (inR 1 16 cs.length = true ∧ togE cs ≠ 0 ∧ E = togE cs ∧ v = 0) ∨ (inR 1 16 cs.length = true ∧ togE cs = 0 ∧ E = 0 ∧ ∃ n, Ends cs n ∧ v = baseOf cs + (n : Nat))
theorem CutS.eq {cs : List Co} {v E v' E' : Int} (h : CutS cs v E) (k : CutS cs v' E') : v = v' ∧ E = E' := by
  rcases h with ⟨h1, h2, h3⟩ | ⟨h1, h2, h3, h4⟩ | ⟨h1, h2, h3, n, h4, h5⟩
  · rcases k with ⟨k1, k2, k3⟩ | ⟨k1, k2, k3, k4⟩ | ⟨k1, k2, k3, m, k4, k5⟩
    · exact ⟨by rw [h3, k3], by rw [h2, k2]⟩
    · rw [h1] at k1; cases k1
    · rw [h1] at k1; cases k1
  · rcases k with ⟨k1, k2, k3⟩ | ⟨k1, k2, k3, k4⟩ | ⟨k1, k2, k3, m, k4, k5⟩
    · rw [h1] at k1; cases k1
    · exact ⟨by rw [h4, k4], by rw [h3, k3]⟩
    · exact absurd k2 h2
  · rcases k with ⟨k1, k2, k3⟩ | ⟨k1, k2, k3, k4⟩ | ⟨k1, k2, k3, m, k4, k5⟩
    · rw [h1] at k1; cases k1
    · exact absurd h2 k2
    · rw [h5, k5, h4.eq k4, h3, k3]; exact ⟨rfl, rfl⟩
def CutO (cs : List Co) (w : World) (e : Ending) (w' : World) : Prop := ∃ v E : Int, e = .returned (.tuple #[.int .i64 v, .int .i64 E]) ∧ CutS cs v E ∧ Below w.heap.size w w'
set_option maxHeartbeats 4000000 in
theorem cut_any {ao : Option Addr} {cp : Nat} {fs : List Fl} (hr : RdFs w ao fs) (hln : fs.length ≤ 1000000000000000000) : Calls Try.prog 7 #[.slice ao fs.length cp] w (CutO (cos fs) w) := by
  have HR : Hid (RdFs w ao fs) := hr
  have hcl := cos_len fs
  have HJ : Hid (fs.length ≤ 17 → Calls Try.prog 20 #[.slice ao fs.length cp] w (JOut fs w)) := fun h => join_any hr h
  have HW : Hid (∀ b, inR 1 16 (fs.length : Int) = b → Calls Try.prog 19 #[.int .i64 (fs.length : Int), .int .i64 1, .int .i64 16] w fun e w' => e = .returned (.bool b) ∧ w' = w) := fun b hb => by rw [← hb]; exact within_any _ _ _
  generalize hL : fs.length = L at *
  have HcL : Hid ((cos fs).length = L) := hcl
  clear hr hL hcl
  cases hin : inR 1 16 (L : Int) with
  | false =>
    have HW2 := HW.out _ hin
    have HS : Hid (CutS (cos fs) 0 1) := .inl ⟨by rw [HcL.out]; exact hin, rfl, rfl⟩
    clear hin HW
    go_enter Try.func7, Try.ntmps7
    go_wp2_with (first | (go_at_call 19; refine HW2.mono ?_; rintro e w2 ⟨rfl, rfl⟩) | fail)
    go_ret2
    exact ⟨0, 1, rfl, HS.out, Below.refl _ _⟩
  | true =>
    have HW2 := HW.out _ hin
    have h16 : L ≤ 17 := by simp [inR] at hin; omega
    have HJ2 := HJ.out h16
    have Hin : Hid (inR 1 16 ((cos fs).length : Int) = true) := (show _ = _ from by rw [HcL.out]; exact hin)
    clear hin HW HJ
    by_cases ht : togE (cos fs) = 0
    · have HJ3 := HJ2.mono (R' := fun e w' => ∃ n a c, e = .returned (.tuple #[.agg (endV (baseOf (cos fs)) a n c).toArray, .int .i64 0]) ∧ Ends (cos fs) n ∧ Below w.heap.size w w') (fun e w' h => by
        rcases h with ⟨hb, ⟨h1, _⟩ | ⟨_, n, a, c, ss, h2, h3, h4, _⟩⟩
        · exact absurd ht h1
        · exact ⟨n, a, c, h4, h2, hb⟩)
      have HT : Hid (Tog (cos fs)) := tog_of ht
      have Ht : Hid (togE (cos fs) = 0) := ht
      clear HJ2 ht
      have hb0 : 0 ≤ baseOf (cos fs) := baseK_nn _ _
      have hbM : baseOf (cos fs) ≤ 4611686018427387904 := baseK_le _ HT.out.snd _ (Nat.le_refl _)
      generalize hbs : baseOf (cos fs) = bs at *
      have Hbs : Hid (baseOf (cos fs) = bs) := hbs
      clear hbs
      go_enter Try.func7, Try.ntmps7
      go_wp2_with (first
        | (go_at_call 19; refine HW2.mono ?_; rintro e w2 ⟨rfl, rfl⟩)
        | (go_at_call 20; refine HJ3.mono ?_; rintro e V ⟨n, a, c, rfl, hE, hbv⟩)
        | (refine wl_st 61 (.tmp 4) (.tmp 13) rfl ?_)
        | fail)
      have HB : Hid (Below w2.heap.size w2 V) := hbv
      have HEn : Hid (Ends (cos fs) n) := hE
      have hn128 : n ≤ 128 := Ends.le HT.out hE.1
      have Hcut : Hid (∀ W : World, Calls Try.prog 21 #[.agg (endV bs a n c).toArray] W fun e w' => e = .returned (.int .i64 (bs + n)) ∧ Below W.heap.size W w') := fun W => ecut_any bs a n c hb0 hbM (by omega)
      clear hbv hE HJ3 HW2
      refine wl_store 61 (.tmp 4) (.tmp 13) (L := endV bs a n c) (new_there _ _ _ rfl) info_end (endV_one _ _ _ _) rfl rfl rfl (by kernel_rfl) ?_
      simp only [Act.put, gA9, gZ9, gC9, sA9, sZ9, sC9]
      refine ⟨?_⟩
      obtain ⟨hn1, hn2⟩ := newvar V 61 #[.int .i64 0, .slice none 0 0] (endV bs a n c) rfl
      have HBn : Hid (Below w2.heap.size w2 ((V.alloc (.cells #[.int .i64 0, .slice none 0 0] 61)).setCells V.heap.size 0 (endV bs a n c))) := bstep HB.out hn1
      have Hv4 : Hid (((V.alloc (.cells #[.int .i64 0, .slice none 0 0] 61)).setCells V.heap.size 0 (endV bs a n c)).heap[V.heap.size]? = some (.cells (endV bs a n c).toArray 61 (0, 0))) := hn2
      have Hn1 : Hid (Below V.heap.size V ((V.alloc (.cells #[.int .i64 0, .slice none 0 0] 61)).setCells V.heap.size 0 (endV bs a n c))) := hn1
      clear hn1 hn2 HB
      generalize (V.alloc (.cells #[.int .i64 0, .slice none 0 0] 61)).setCells V.heap.size 0 (endV bs a n c) = V2 at *
      generalize hvb : V.heap.size = v4 at *
      have Hvbv4 : Hid (V.heap.size = v4) := hvb
      clear hvb
      have HB := HBn
      clear HBn
      go_wp2_with (first
        | (refine load_mid 61 (.tmp 4) (blk_range Hv4.out) _ Try.underlying61 rfl info_end rfl rfl rfl ?_)
        | (go_at_call 21; refine (Hcut.out _).mono ?_; rintro e V3 ⟨rfl, hb3⟩)
        | fail)
      go_ret2
      exact ⟨bs + n, 0, rfl, .inr (.inr ⟨Hin.out, Ht.out, rfl, n, HEn.out, by rw [Hbs.out]⟩), bstep HB.out hb3⟩
    · have HJ3 := HJ2.mono (R' := fun e w' => e = .returned (.tuple #[.agg (endV 0 none 0 0).toArray, .int .i64 (togE (cos fs))]) ∧ Below w.heap.size w w') (fun e w' h => by
        rcases h with ⟨hb, ⟨_, h1⟩ | ⟨h2, _⟩⟩
        · exact ⟨h1, hb⟩
        · exact absurd h2 ht)
      have Ht : Hid (togE (cos fs) ≠ 0) := ht
      clear HJ2 ht
      have Hcut : Hid (∀ W : World, Calls Try.prog 21 #[.agg (endV 0 none 0 0).toArray] W fun e w' => e = .returned (.int .i64 0) ∧ Below W.heap.size W w') := fun W => ecut_any 0 none 0 0 (by omega) (by omega) (by omega)
      generalize hE : togE (cos fs) = E at *
      have HE : Hid (togE (cos fs) = E) := hE
      clear hE
      go_enter Try.func7, Try.ntmps7
      go_wp2_with (first
        | (go_at_call 19; refine HW2.mono ?_; rintro e w2 ⟨rfl, rfl⟩)
        | (go_at_call 20; refine HJ3.mono ?_; rintro e V ⟨rfl, hbv⟩)
        | (refine wl_st 61 (.tmp 4) (.tmp 13) rfl ?_)
        | fail)
      have HB : Hid (Below w2.heap.size w2 V) := hbv
      clear hbv HJ3 HW2
      refine wl_store 61 (.tmp 4) (.tmp 13) (L := endV 0 none 0 0) (new_there _ _ _ rfl) info_end (endV_one _ _ _ _) rfl rfl rfl (by kernel_rfl) ?_
      simp only [Act.put, gA9, gZ9, gC9, sA9, sZ9, sC9]
      refine ⟨?_⟩
      obtain ⟨hn1, hn2⟩ := newvar V 61 #[.int .i64 0, .slice none 0 0] (endV 0 none 0 0) rfl
      have HBn : Hid (Below w2.heap.size w2 ((V.alloc (.cells #[.int .i64 0, .slice none 0 0] 61)).setCells V.heap.size 0 (endV 0 none 0 0))) := bstep HB.out hn1
      have Hv4 : Hid (((V.alloc (.cells #[.int .i64 0, .slice none 0 0] 61)).setCells V.heap.size 0 (endV 0 none 0 0)).heap[V.heap.size]? = some (.cells (endV 0 none 0 0).toArray 61 (0, 0))) := hn2
      have Hn1 : Hid (Below V.heap.size V ((V.alloc (.cells #[.int .i64 0, .slice none 0 0] 61)).setCells V.heap.size 0 (endV 0 none 0 0))) := hn1
      clear hn1 hn2 HB
      generalize (V.alloc (.cells #[.int .i64 0, .slice none 0 0] 61)).setCells V.heap.size 0 (endV 0 none 0 0) = V2 at *
      generalize hvb : V.heap.size = v4 at *
      have Hvbv4 : Hid (V.heap.size = v4) := hvb
      clear hvb
      have HB := HBn
      clear HBn
      go_wp2_with (first
        | (refine load_mid 61 (.tmp 4) (blk_range Hv4.out) _ Try.underlying61 rfl info_end rfl rfl rfl ?_)
        | (go_at_call 21; refine (Hcut.out _).mono ?_; rintro e V3 ⟨rfl, hb3⟩)
        | fail)
      go_ret2
      exact ⟨0, E, rfl, .inr (.inl ⟨Hin.out, by rw [HE.out]; exact Ht.out, HE.out.symm, rfl⟩), bstep HB.out hb3⟩
end
end Go.Proofs.Ytihcaopcfhbofaa.Fm
