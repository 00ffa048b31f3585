import Derived.Test.YtjgjpepmfiklfaaGreatDoorMxf
import Derived.Lib.AppendStr
namespace Go.Proofs.YtjgjpepmfiklfaaGreatDoor.Mx
open Go.RowKit Mb Mh Lo
set_option linter.unusedVariables false
set_option maxRecDepth 100000
set_option linter.unusedSimpArgs false
def bt (s : ByteArray) : List Int := s.data.toList.map (fun b => (b.toNat : Int))
theorem bt_len (s : ByteArray) : (bt s).length = s.size := by
  unfold bt
  rw [List.length_map]
  exact Array.length_toList
theorem bt_cells (s : ByteArray) : Lib.strCells s = (bt s).map (Value.int .u8) := by
  unfold Lib.strCells bt
  simp [List.map_map]
  try rfl
def txt (s : ByteArray) : List Int := Wm.put 8 (s.size : Int) ++ bt s
def txts (ss : List ByteArray) : List Int := ss.flatMap txt
def strs (ss : List ByteArray) : List Value := ss.map Value.string
theorem txts_chain {ss : List ByteArray} {j : Nat} {s : ByteArray} (h : ss[j]? = some s) : txts (ss.take (j + 1)) = txts (ss.take j) ++ Wm.put 8 (s.size : Int) ++ bt s := by
  have : ss.take (j + 1) = ss.take j ++ [s] := by
    rw [List.take_add_one, h]; rfl
  rw [this]; simp [txts, txt]
theorem txts_len {ss : List ByteArray} (h : ∀ s ∈ ss, s.size ≤ 1000) : (txts ss).length ≤ 1009 * ss.length := by
  induction ss with
  | nil => simp [txts]
  | cons s ss ih =>
    have h1 := ih (fun x hx => h x (List.mem_cons_of_mem _ hx))
    have h2 := h s List.mem_cons_self
    have h3 := Wm.put_le 8 (s.size : Int)
    have h4 := bt_len s
    simp only [txts, txt, List.flatMap_cons, List.length_append, List.length_cons] at *
    omega
section
variable {w w' W : World} {B : Nat}
theorem own_u8 {base k : Nat} {v : Value} {bs : List Int} (h : Own w base v bs) (hk : v.ownBlock = some k) : u8at w k := by
  rcases h.2 with ⟨g1, _⟩ | ⟨g, cap, cur, g1, _, g3, _⟩
  · rw [g1] at hk; cases hk
  · rw [g1] at hk
    simp only [Value.ownBlock, Option.some.injEq] at hk
    exact ⟨cur, hk ▸ g3⟩
theorem wr_ne {base wb : Nat} {v v' : Value} {bs : List Int} (hwb : w.heap[wb]? = some (.cells #[v] 48 (0, 0))) (h : Own w base v' bs) : v'.ownBlock ≠ some wb := fun e => by
  obtain ⟨cur, h9⟩ := own_u8 h e
  rw [hwb] at h9
  simp only [Option.some.injEq, Obj.cells.injEq] at h9
  exact absurd h9.2.1 (by decide)
theorem wr_next {base wb : Nat} {w1 w2 : World} {v v' : Value} {L M : List Int} (hwb : w1.heap[wb]? = some (.cells #[v] 48 (0, 0))) (hO : Own w1 base v L) (hg : w1.grownBy w2 v.ownBlock) (hO2 : Own w2 base v' M) : w2.heap[wb]? = some (.cells #[v] 48 (0, 0)) ∧ Wr (w2.setCell ⟨wb, 0, none⟩ v') base wb M ∧ Fr base wb w1 (w2.setCell ⟨wb, 0, none⟩ v') := by
  have h1 : w2.heap[wb]? = some (.cells #[v] 48 (0, 0)) := (hg.block wb (lt_heap hwb) (fun e => wr_ne hwb hO e.symm)).trans hwb
  refine ⟨h1, ⟨v', blk_set h1 rfl, ?_⟩, (Fr.grown hO hg).trans (Fr.set _ _)⟩
  exact (kset (P := fun k => k = wb) w2 wb 0 v' rfl).owns hO2 (fun k hk e => wr_ne h1 hO2 (e ▸ hk))
set_option maxHeartbeats 4000000 in
theorem wtexts_any {base wb : Nat} {bs : List Int} {cb n c : Nat} {ss : List ByteArray} (h : Wr w base wb bs) (hb : base ≤ w.heap.size) (hn : ss.length = n) (hcb : w.heap[cb]? = some (.cells (strs ss).toArray 9 (0, 0))) (hr : ∀ s ∈ ss, s.size ≤ 1000) (hroom : bs.length + 1009 * n ≤ 100000) :
    Calls Tryz.prog 21 #[.pointer (some ⟨wb, 0, none⟩), .slice (some ⟨cb, 0, none⟩) n c] w fun e w' => e = .returned (.tuple #[]) ∧ Wr w' base wb (bs ++ txts ss) ∧ Fr base wb w w' := by
  obtain ⟨i0, hi, hz0, hz1, hz2⟩ := info_parts info_u8
  have HN : Hid (ss.length = n) := hn
  have HR : Hid (∀ s ∈ ss, s.size ≤ 1000) := hr
  have HC : Hid (w.heap[cb]? = some (.cells (strs ss).toArray 9 (0, 0))) := hcb
  have HW : Hid (Wr w base wb bs) := h
  have Hne : Hid (cb ≠ wb) := by
    obtain ⟨v, h1, _⟩ := h
    exact fun e => by
      subst e
      rw [hcb] at h1
      simp only [Option.some.injEq, Obj.cells.injEq] at h1
      exact absurd h1.2.1 (by decide)
  clear hn hr hcb h
  go_enter Tryz.func21, Tryz.ntmps21
  go_wp2_with (fail)
  go_loopw [5, 8] (fun _ x wr => ∃ j : Nat, j ≤ n ∧ x = .int .i64 (j : Int) ∧ Hid (Wr wr base wb (bs ++ txts (ss.take j)) ∧ Fr base wb w wr)) (fun _ x _ => n - (intOf x).toNat)
  case atStart => exact ⟨0, Nat.zero_le _, rfl, by simpa [txts] using HW.out, Fr.refl _ _ _⟩
  case round =>
    obtain ⟨j, hj, rfl, HI⟩ := hrel
    clear HW
    by_cases hjn : j < n
    · have j2 : (j : Int) < (n : Int) := by omega
      have j0 : (0 : Int) ≤ (j : Int) := Int.natCast_nonneg _
      have hjl : j < ss.length := by have := HN.out; omega
      obtain ⟨s, hs⟩ : ∃ s, ss[j]? = some s := ⟨_, List.getElem?_eq_getElem hjl⟩
      have hcx : wr.cell? ⟨cb, j, none⟩ = some (.string s) := by
        rw [blk_cell (HI.out.2.keep HC.out Hne.out (by decide)) j]
        simp [strs, hs]
      have hsz := HR.out s (List.mem_of_getElem? hs)
      have Hch : Hid (txts (ss.take (j + 1)) = txts (ss.take j) ++ Wm.put 8 (s.size : Int) ++ bt s) := txts_chain hs
      have hpl : (txts (ss.take j)).length ≤ 1009 * j := by
        have := txts_len (ss := ss.take j) (fun x hx => HR.out x (List.mem_of_mem_take hx))
        rw [List.length_take] at this
        omega
      have hp9 : (Wm.put 8 (s.size : Int)).length ≤ 9 := Wm.put_le 8 _
      obtain ⟨X, hX⟩ : ∃ X, wr.alloc (.cells #[.int .i64 (s.size : Int)] 3) = X := ⟨_, rfl⟩
      have HbX : Hid (Below wr.heap.size wr X) := by rw [← hX]; exact balloc (Below.refl _ _)
      have HXc : Hid (X.heap[wr.heap.size]? = some (.cells (ints [(s.size : Int)]).toArray 3 (0, 0))) := by rw [← hX]; exact heap_alloc_new wr _
      have HWX : Hid (Wr X base wb (bs ++ txts (ss.take j))) := by
        obtain ⟨v, h1, h2⟩ := HI.out.1
        exact ⟨v, (HbX.out.block _ (lt_heap h1)).trans h1, own_still h2 HbX.out⟩
      have HCo : Hid (Calls Tryz.prog 20 #[.pointer (some ⟨wb, 0, none⟩), .slice (some ⟨wr.heap.size, 0, none⟩) 1 1] X fun e w' => e = .returned (.tuple #[]) ∧ Wr w' base wb (bs ++ txts (ss.take j) ++ Wm.put 8 (s.size : Int)) ∧ Fr base wb X w') := by
        refine (wcounts_any (n := 1) (c := 1) (ns := [(s.size : Int)]) HWX.out (Nat.le_trans hb (Nat.le_trans HI.out.2.size HbX.out.size)) rfl HXc.out ?_ (by rw [List.length_append]; omega)).mono ?_
        · intro x hx
          obtain rfl : x = (s.size : Int) := by simpa using hx
          omega
        · rintro e w' ⟨e1, e2, e3⟩
          refine ⟨e1, ?_, e3⟩
          simpa [puts, List.append_assoc] using e2
      have HF : Hid (Fr base wb w X) := HI.out.2.trans (Fr.below HbX.out)
      clear HI hs HWX HXc
      go_wp2_with (fail)
      refine HCo.out.mono ?_
      rintro e w1 ⟨rfl, hw1, hf1⟩
      obtain ⟨v, hv1, hv2⟩ := hw1
      obtain ⟨va, vn, vc, rfl, hvn, hvo⟩ := own_shape2 hv2
      have HF1 : Hid (Fr base wb w w1) := HF.out.trans hf1
      have hc1 := blk_cell hv1 0
      simp only [List.getElem?_toArray, List.getElem?_cons_zero] at hc1
      have hbs : base ≤ w1.heap.size := Nat.le_trans hb HF1.out.size
      have hvl : vn ≤ bs.length + 1009 * j + 9 := by rw [← hvn, List.length_append, List.length_append]; omega
      have HVo : Hid (w1.ownsRow base 5 1 (.slice va vn vc) vn ((bs ++ txts (ss.take j) ++ Wm.put 8 (s.size : Int)).map (Value.int .u8))) := hvo
      have HFin : Hid (∀ (v' : Value) (w2 : World), w2.ownsRow base 5 1 v' (vn + s.size) ((bs ++ txts (ss.take j) ++ Wm.put 8 (s.size : Int)).map (Value.int .u8) ++ Lib.strCells s) → w1.grownBy w2 (Value.slice va vn vc).ownBlock → w2.heap[wb]? = some (.cells #[.slice va vn vc] 48 (0, 0)) ∧ Wr (w2.setCell ⟨wb, 0, none⟩ v') base wb (bs ++ txts (ss.take (j + 1))) ∧ Fr base wb w (w2.setCell ⟨wb, 0, none⟩ v')) := fun v' w2 h7 h8 => by
        have h10 : Own w2 base v' (bs ++ txts (ss.take (j + 1))) := by
          unfold Own
          rw [Hch.out, ← List.append_assoc, ← List.append_assoc, List.map_append, List.length_append, hvn, bt_len, ← bt_cells]
          exact h7
        obtain ⟨a1, a2, a3⟩ := wr_next hv1 hv2 h8 h10
        exact ⟨a1, a2, HF1.out.trans a3⟩
      generalize (bs ++ txts (ss.take j) ++ Wm.put 8 (s.size : Int)).map (Value.int .u8) = LV at *
      clear hv1 hv2 hvo hvn hf1 HCo
      go_wp2_with (first
        | (at_builtin; refine Lib.wpList_append_own_string _ rfl (.tmp 21) (.tmp 22) 24 9 rfl base 5 i0 Tryz.underlying24 Tryz.underlying9 hi hz0 hz1 hz2 _ _ _ rfl HVo.out s rfl (by unfold maxLen; omega) (by omega) hbs ?_)
        | fail)
      intro v' w2 q1 q2 q6
      obtain ⟨q3, q4, q5⟩ := HFin.out v' w2 q1 q2
      have HE : Hid (Wr (w2.setCell ⟨wb, 0, none⟩ v') base wb (bs ++ txts (ss.take (j + 1))) ∧ Fr base wb w (w2.setCell ⟨wb, 0, none⟩ v')) := ⟨q4, q5⟩
      have hc2 := blk_cell q3 0
      have hf2 := frozen_of_row w2 wb 0 _ _ q3
      simp only [List.getElem?_toArray, List.getElem?_cons_zero] at hc2
      obtain ⟨ua, un, uc, huv⟩ : ∃ a n c, v' = .slice a n c := by
        rcases q1.2 with ⟨g1, _⟩ | ⟨g, cap, cur, g1, _⟩
        · exact ⟨_, _, _, g1⟩
        · exact ⟨_, _, _, g1⟩
      rw [huv] at HE
      rw [huv]
      clear q1 q2 q3 q4 q5 q6 huv HFin
      go_wp2_with (fail)
      exact ⟨⟨j + 1, by omega, by go_num, HE.out⟩, by simp [intOf]; omega⟩
    · have j2 : ¬ (j : Int) < (n : Int) := by omega
      obtain rfl : j = n := by omega
      have hfin : ss.take j = ss := List.take_of_length_le (by have := HN.out; omega)
      rw [hfin] at HI
      go_wp2_with (fail)
      (try simp only [Exit.inBlock, Exit.then])
      exact bodyPost_end (results_none Tryz.results21 _ _ _) rfl ⟨rfl, HI.out.1, HI.out.2⟩
end
end Go.Proofs.YtjgjpepmfiklfaaGreatDoor.Mx
