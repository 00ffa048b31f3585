import Derived.Test.YtbjpbcanmpimnabRdr
import Derived.Test.YtbjpbcanmpimnabSettle
import Derived.Deep.RegionHeldLaw
import Derived.Laws.CopyOwn
namespace Go.Proofs.Ytbjpbcanmpimnab.Lo
open Go.RowKit Bk
set_option linter.unusedVariables false

theorem node_ok (rb n c : Nat) (ao : Option Addr) (bs : List Int) (a m : Nat) (v : Int) (w : World) (hb : Rb w rb ao n c a) (hr : Rd w ao n c bs) (hlen : n ≤ 140737488355328) (h : cnt bs a 0 15 = .ok (v, m)) :
    Calls Try.prog 104 #[.pointer (some ⟨rb, 0, none⟩)] w fun e w' => e = .returned (.int .i64 v) ∧ Rb w' rb ao n c m ∧ Kept w w' (fun j => j = rb) := by
  have H : Hid (Rb w rb ao n c a ∧ Rd w ao n c bs ∧ cnt bs a 0 15 = .ok (v, m)) := ⟨hb, hr, h⟩
  clear hb hr h
  go_enter Try.func104, Try.ntmps104
  go_wp2_with fail
  refine (count_ok rb n c ao bs a m 0 15 v _ H.out.1 H.out.2.1 hlen H.out.2.2).mono ?_
  rintro e w1 ⟨rfl, h1, h2⟩
  have H1 : Hid (Rb w1 rb ao n c m ∧ Kept w w1 (fun j => j = rb)) := ⟨h1, h2⟩
  clear h1 h2
  go_wp2_with fail
  go_ret
  exact ⟨rfl, H1.out⟩

theorem node_err (rb n c : Nat) (ao : Option Addr) (bs : List Int) (a : Nat) (x : Int) (w : World) (hb : Rb w rb ao n c a) (hr : Rd w ao n c bs) (hlen : n ≤ 140737488355328) (h : cnt bs a 0 15 = .error x) :
    Calls Try.prog 104 #[.pointer (some ⟨rb, 0, none⟩)] w fun e w' => e = boom x ∧ Kept w w' (fun j => j = rb) := by
  have H : Hid (Rb w rb ao n c a ∧ Rd w ao n c bs ∧ cnt bs a 0 15 = .error x) := ⟨hb, hr, h⟩
  clear hb hr h
  go_enter Try.func104, Try.ntmps104
  go_wp2_with fail
  refine (count_err rb n c ao bs a 0 15 x _ H.out.1 H.out.2.1 hlen H.out.2.2).mono ?_
  rintro e w1 ⟨rfl, h2⟩
  have H1 : Hid (Kept w w1 (fun j => j = rb)) := h2
  clear h2
  unfold boom
  go_wp2_with fail
  exact ⟨rfl, rfl, H1.out⟩

theorem Rd.keptAt {w w' : World} {ao : Option Addr} {n c : Nat} {bs : List Int} {P : Nat → Prop} (h : Rd w ao n c bs) (hk : Kept w w' P) (hp : ∀ x, ao = some x → 0 < n → ¬ P x.block) : Rd w' ao n c bs := by
  obtain ⟨h1, h2, h3, h4⟩ := h
  refine ⟨h1, h2, ?_, h4⟩
  rcases h3 with h3 | ⟨b, off, rfl, hc⟩
  · exact .inl h3
  · by_cases h0 : n = 0
    · exact .inl h0
    · refine .inr ⟨b, off, rfl, fun i hi => ?_⟩
      have := hc i hi
      rw [World.cell?_of_block (a := ⟨b, off + i, none⟩) (hk.block b (World.block_lt_of_cell? w _ this) (hp _ rfl (by omega)))]
      exact this

theorem own_spliced {w : World} {g : Nat} {bs : List Int} {k : Nat} (hk : bs.length = k) (hm : k ≤ maxLen) (h : w.heap[g]? = some (.cells (splice (List.replicate k (Value.int .u8 0)) 0 (bs.map (Value.int .u8))).toArray 5 (0, 0))) :
    Own w g (.slice (some ⟨g, 0, none⟩) k k) bs := by
  subst hk
  refine ⟨by simp, .inr ⟨g, bs.length, _, rfl, Nat.le_refl _, h, Nat.le_refl _, hm, ?_, ?_⟩⟩
  · simp [splice]
  · simp only [splice, List.take_zero, List.nil_append, Nat.mul_one]
    simp
    exact List.take_of_length_le (by simp)

set_option maxRecDepth 100000 in
set_option maxHeartbeats 1000000 in
theorem bytes_ok (w0 : World) (rb n c : Nat) (ao : Option Addr) (bs : List Int) (a a4 : Nat) (k lo hi : Int) (w : World) (hb : Rb w rb ao n c a) (hr0 : Rd w0 ao n c bs) (hw : Below w0.heap.size w0 w) (hrb : w0.heap.size ≤ rb) (hlen : n ≤ 300) (hnc : n ≤ c) (h : cnt bs a lo hi = .ok (k, a4)) (hfit : a4 + k.toNat ≤ bs.length) :
    Calls Try.prog 102 #[.pointer (some ⟨rb, 0, none⟩), .int .i64 lo, .int .i64 hi] w fun e w' => ∃ v, e = .returned v ∧ Own w' w.heap.size v ((bs.drop a4).take k.toNat) ∧ Rb w' rb ao n c ((a4 + k.toNat : Nat) : Int) ∧ Kept w w' (fun j => j = rb) := by
  obtain ⟨i0, hi0, hz0, hz1, hz2⟩ := info_parts info_u8
  have HR : Hid (Rd w0 ao n c bs) := hr0
  have HW : Hid (Below w0.heap.size w0 w) := hw
  have HB : Hid (Rb w rb ao n c a) := hb
  have H : Hid (cnt bs a lo hi = .ok (k, a4)) := h
  obtain ⟨-, -, hm, hlt4, hk0, hk1⟩ := cnt_ok h
  obtain ⟨kn, rfl⟩ : ∃ kn : Nat, k = kn := ⟨k.toNat, by omega⟩
  simp only [Int.toNat_natCast] at hfit ⊢
  have hln := hr0.1
  rw [hln] at hfit hm
  have hwz := hw.size
  clear hr0 hw hb h
  obtain ⟨b, off, rfl⟩ : ∃ b off, ao = some ⟨b, off, none⟩ := by
    rcases HR.out.2.2.1 with h0 | ⟨b, off, rfl, _⟩
    · omega
    · exact ⟨b, off, rfl⟩
  go_enter Try.func102, Try.ntmps102
  go_wp2_with fail
  refine (count_ok rb n c _ bs a a4 lo hi kn _ HB.out (HR.out.below HW.out) (by omega) H.out).mono ?_
  rintro e w1 ⟨rfl, hb1, hk⟩
  have HB1 : Hid (Rb w1 rb (some ⟨b, off, none⟩) n c a4) := hb1
  have HK1 : Hid (Kept w w1 (fun j => j = rb)) := hk
  have HW1 : Hid (Below w0.heap.size w0 w1) := HW.out.trans (hk.below hwz (fun j hj e => by omega))
  have c0 : w1.cell? ⟨rb, 0, none⟩ = some (.slice (some ⟨b, off, none⟩) n c) := cell_of_row w1 rb 0 _ _ _ hb1
  have c1 : w1.cell? ⟨rb, 1, none⟩ = some (.int .i64 a4) := cell_of_row w1 rb 1 _ _ _ hb1
  have z1 := hk.size
  clear hb1 hk
  have hge : ¬ ((n : Int) - (a4 : Int) < (kn : Int)) := by omega
  go_wp2_with fail
  go_quiet (fail)
  go_wp2_with (first
    | (at_make; refine wpList_make_cap _ rfl _ _ 22 rfl 5 i0 (.int .u8 0) Try.underlying22 hi0 hz0 hz1 rfl 1 hz2 _ _ _ _ kn kn rfl rfl rfl rfl (Nat.le_refl _) (by omega) (by omega) ?_; intro w2 hg2 hsz2 hbel2)
    | fail)
  have hrbl : rb < w1.heap.size := lt_heap HB1.out
  have hb12 : Below w1.heap.size w1 w2 := bstep (below_drewN (Below.refl _ _) _) hbel2
  have HBk2 : Hid (Rb w2 rb (some ⟨b, off, none⟩) n c a4) := (hb12.block rb hrbl).trans HB1.out
  have HW2 : Hid (Below w0.heap.size w0 w2) := bstep HW1.out hb12
  have d0 : w2.cell? ⟨rb, 0, none⟩ = some (.slice (some ⟨b, off, none⟩) n c) := cell_of_row w2 rb 0 _ _ _ HBk2.out
  have d1 : w2.cell? ⟨rb, 1, none⟩ = some (.int .i64 a4) := cell_of_row w2 rb 1 _ _ _ HBk2.out
  have Hs1 : Hid ((Try.prog.info? 5).map (·.size) = some 1) := by rw [hi0]; simp [hz1]; exact True.intro
  obtain ⟨body, hbody⟩ : ∃ x, x = (bs.drop a4).take kn := ⟨_, rfl⟩
  have hbl : body.length = kn := by rw [hbody, List.length_take, List.length_drop]; omega
  have HBD : Hid (body = (bs.drop a4).take kn) := hbody
  obtain ⟨CS, hCS⟩ : ∃ CS, CS = body.map (Value.int .u8) := ⟨_, rfl⟩
  have hCl : CS.length = kn := by rw [hCS]; simp [hbl]
  have HCS : Hid (CS = body.map (Value.int .u8)) := hCS
  have H1c : Hid (∀ v ∈ CS, v.oneCell' = true) := by rw [hCS]; exact bytes_oneCell _
  have Hsrc : Hid (∀ j v, CS[j]? = some v → w2.cell? ((⟨b, off + a4, none⟩ : Addr).add j) = some v) := by
    intro j v hv
    rw [hCS, hbody] at hv
    have hr2 := (HR.out.below HW2.out).cells (Below.refl _ _) ⟨b, off, none⟩ rfl (a4 + j) v (by
      rw [List.getElem?_map, List.getElem?_take, List.getElem?_drop] at hv
      rw [List.getElem?_map]
      split at hv
      · exact hv
      · simp at hv)
    rw [Addr.add_lit] at hr2 ⊢
    rw [← Nat.add_assoc] at hr2
    exact hr2
  have Hpos : Hid (0 < CS.length → some (⟨w1.heap.size, 0, none⟩ : Addr) = some ⟨w1.heap.size, 0, none⟩ ∧ ∃ ad, (if c = a4 then some (⟨b, off, none⟩ : Addr) else some ⟨b, off + a4, none⟩) = some ad ∧ ∀ j v, CS[j]? = some v → w2.cell? (ad.add j) = some v) := fun h => ⟨rfl, ⟨b, off + a4, none⟩, if_neg (by omega), Hsrc.out⟩
  have Hmin : Hid (CS.length = Nat.min (n - a4) kn) := by rw [hCl]; exact (Nat.min_eq_right (by omega)).symm
  have Hfit : Hid (0 + CS.length ≤ (List.replicate kn (Value.int .u8 0)).length) := by show _ ≤ _; simp; omega
  clear hbody hCS hCl
  go_region_held_law (fun w' => w'.cell? ⟨rb, 0, none⟩ = some (.slice (some ⟨b, off, none⟩) n c) ∧ w'.cell? ⟨rb, 1, none⟩ = some (.int .i64 a4)) (go_keep)
    ((go_loud (refine step_copy_splice (by rfl) (.tmp 28) (.tmp 37) _ _ (by rfl) 5 (by exact Try.underlying22) Hs1.out (some ⟨w1.heap.size, 0, none⟩) (if c = a4 then some ⟨b, off, none⟩ else some ⟨b, off + a4, none⟩) kn kn (n - a4) (c - a4) (by rfl) (by rfl) w1.heap.size 0 (List.replicate kn (Value.int .u8 0)) 5 (by exact hg2.out) CS (by exact Hmin.out) (by exact Hpos.out) Hfit.out H1c.out w1.heap.size w2 (by repeat (first | exact Below.refl _ _ | apply Below.drew)) (Nat.le_refl _) ?_); intro w3 hg3 hb3; have f0 : w3.cell? ⟨rb, 0, none⟩ = some (.slice (some ⟨b, off, none⟩) n c) := (hb3.cell hrbl).trans d0; have f1 : w3.cell? ⟨rb, 1, none⟩ = some (.int .i64 a4) := (hb3.cell hrbl).trans d1))
  have HB3 : Rb w3 rb (some ⟨b, off, none⟩) n c a4 := (hb3.block rb hrbl).trans HBk2.out
  have hO3 : Own w3 w1.heap.size (.slice (some ⟨w1.heap.size, 0, none⟩) kn kn) body := own_spliced hbl (by unfold maxLen; omega) (by rw [← HCS.out]; exact hg3.out)
  have hfz : w3.frozen? ⟨rb, 1, none⟩ = false := frozen_of_row w3 rb 1 _ 114 HB3
  have hKs : Kept w3 (w3.setCell ⟨rb, 1, none⟩ (.int .i64 ((a4 : Int) + (kn : Int)))) (fun j => j = rb) := ⟨rfl, rfl, rfl, by simp, fun j hj hq => Below.heap_setCell w3 ⟨rb, 1, none⟩ _ j hq⟩
  have HF : Hid (Own (w3.setCell ⟨rb, 1, none⟩ (.int .i64 ((a4 : Int) + (kn : Int)))) w.heap.size (.slice (some ⟨w1.heap.size, 0, none⟩) kn kn) ((bs.drop a4).take kn) ∧ Rb (w3.setCell ⟨rb, 1, none⟩ (.int .i64 ((a4 : Int) + (kn : Int)))) rb (some ⟨b, off, none⟩) n c ((a4 + kn : Nat) : Int) ∧ Kept w (w3.setCell ⟨rb, 1, none⟩ (.int .i64 ((a4 : Int) + (kn : Int)))) (fun j => j = rb)) := by
    refine ⟨?_, ?_, (HK1.out.trans (Kept.ofBelow (hb12.trans hb3) _)).trans hKs⟩
    · rw [← HBD.out]
      have h : Own (w3.setCell ⟨rb, 1, none⟩ (.int .i64 ((a4 : Int) + (kn : Int)))) w1.heap.size (.slice (some ⟨w1.heap.size, 0, none⟩) kn kn) body := hKs.owns hO3 (fun j hj e => by simp [Value.ownBlock] at hj; omega)
      exact h.mono z1
    · rw [Int.natCast_add]
      exact heap_setCell_same w3 rb 1 _ 114 _ HB3
  clear hKs HB3 hO3 hg3 hb3 d0 d1 Hpos
  generalize (if c = a4 then some (⟨b, off, none⟩ : Addr) else some ⟨b, off + a4, none⟩) = sp at *
  go_wp2_with fail
  go_ret
  exact ⟨_, rfl, HF.out⟩

set_option maxRecDepth 100000 in
set_option maxHeartbeats 1000000 in
theorem bytes_short (w0 : World) (rb n c : Nat) (ao : Option Addr) (bs : List Int) (a a4 : Nat) (k lo hi : Int) (w : World) (hb : Rb w rb ao n c a) (hr0 : Rd w0 ao n c bs) (hw : Below w0.heap.size w0 w) (hrb : w0.heap.size ≤ rb) (hlen : n ≤ 300) (h : cnt bs a lo hi = .ok (k, a4)) (hfit : ¬ a4 + k.toNat ≤ bs.length) :
    Calls Try.prog 102 #[.pointer (some ⟨rb, 0, none⟩), .int .i64 lo, .int .i64 hi] w fun e w' => e = boom 10 ∧ Kept w w' (fun j => j = rb) := by
  have HR : Hid (Rd w0 ao n c bs) := hr0
  have HW : Hid (Below w0.heap.size w0 w) := hw
  have HB : Hid (Rb w rb ao n c a) := hb
  have H : Hid (cnt bs a lo hi = .ok (k, a4)) := h
  obtain ⟨-, -, hm, hlt4, hk0, hk1⟩ := cnt_ok h
  obtain ⟨kn, rfl⟩ : ∃ kn : Nat, k = kn := ⟨k.toNat, by omega⟩
  simp only [Int.toNat_natCast] at hfit ⊢
  have hln := hr0.1
  rw [hln] at hfit hm
  clear hr0 hw hb h
  go_enter Try.func102, Try.ntmps102
  go_wp2_with fail
  refine (count_ok rb n c ao bs a a4 lo hi kn _ HB.out (HR.out.below HW.out) (by omega) H.out).mono ?_
  rintro e w1 ⟨rfl, hb1, hk⟩
  have HK1 : Hid (Kept w w1 (fun j => j = rb)) := hk
  have c0 : w1.cell? ⟨rb, 0, none⟩ = some (.slice ao n c) := cell_of_row w1 rb 0 _ _ _ hb1
  have c1 : w1.cell? ⟨rb, 1, none⟩ = some (.int .i64 a4) := cell_of_row w1 rb 1 _ _ _ hb1
  clear hb1 hk
  have hge : ((n : Int) - (a4 : Int) < (kn : Int)) := by omega
  go_wp2_with fail
  go_quiet (fail)
  go_wp2_with fail
  exact ⟨rfl, rfl, HK1.out.trans (Kept.ofBelow (below_drewN (Below.refl _ _) _) _)⟩

set_option maxRecDepth 100000 in
set_option maxHeartbeats 1000000 in
theorem bytes_err (rb n c : Nat) (ao : Option Addr) (bs : List Int) (a : Nat) (lo hi x : Int) (w : World) (hb : Rb w rb ao n c a) (hr : Rd w ao n c bs) (hlen : n ≤ 300) (h : cnt bs a lo hi = .error x) :
    Calls Try.prog 102 #[.pointer (some ⟨rb, 0, none⟩), .int .i64 lo, .int .i64 hi] w fun e w' => e = boom x ∧ Kept w w' (fun j => j = rb) := by
  have H : Hid (Rb w rb ao n c a ∧ Rd w ao n c bs ∧ cnt bs a lo hi = .error x) := ⟨hb, hr, h⟩
  clear hb hr h
  go_enter Try.func102, Try.ntmps102
  go_wp2_with fail
  refine (count_err rb n c ao bs a lo hi x _ H.out.1 H.out.2.1 (by omega) H.out.2.2).mono ?_
  rintro e w1 ⟨rfl, h2⟩
  have H1 : Hid (Kept w w1 (fun j => j = rb)) := h2
  clear h2
  unfold boom
  go_wp2_with fail
  exact ⟨rfl, rfl, H1.out⟩

end Go.Proofs.Ytbjpbcanmpimnab.Lo
