import Derived.Test.YtjgjpepmfiklfaaGreatDoorPutB
import Derived.Test.YtjgjpepmfiklfaaGreatDoorMxt
import Derived.Lib.ConvBytes
namespace Go.Proofs.YtjgjpepmfiklfaaGreatDoor.Lo
open Go.RowKit
set_option linter.unusedVariables false
set_option maxRecDepth 100000 in
set_option maxHeartbeats 2000000 in
theorem rputBytes2 (b0 : Nat) (v : Value) (bs : List Int) (ao : Option Addr) (n c : Nat) (body : List Int) (w : World) (hr : ∀ w1, KeptT w w1 → Rd w1 ao n c body) (hsz : b0 ≤ w.heap.size) (ho : Own w b0 v bs) (hroom : bs.length + n + 9 ≤ 140737488355328) :
    Calls Tryz.prog 62 #[v, .slice ao n c] w fun e w' => ∃ v', e = .returned v' ∧ Own w' b0 v' (bs ++ (Wm.put 8 n ++ body)) ∧ Below b0 w w' ∧ KeptT w w' := by
  obtain ⟨i0, hi, hz0, hz1, hz2⟩ := info_parts info_u8
  have hl := (hr w (KeptT.refl w)).1
  have HR : Hid (∀ w1, KeptT w w1 → Rd w1 ao n c body) := hr
  have HB : Hid (Below b0 w w) := Below.refl _ _
  have HO : Hid (Own w b0 v bs) := ho
  clear hr ho
  go_enter Tryz.func62, Tryz.ntmps62
  go_wp2_with fail
  refine (rput_any b0 v bs n _ HO.out hsz (by omega) (by omega) (by omega)).mono ?_
  rintro e w1 ⟨v1, rfl, ho1, hb1, ht1⟩
  have HB1 : Hid (Below b0 w w1) := HB.out.trans hb1
  have HT1 : Hid (KeptT w w1) := ht1
  have hpl := put_len 8 n
  obtain ⟨mid, hmid⟩ : ∃ m, m = bs ++ Wm.put 8 n := ⟨_, rfl⟩
  have hml : mid.length ≤ bs.length + 9 := by rw [hmid]; simp; omega
  have HM : Hid (mid = bs ++ Wm.put 8 n) := hmid
  have HO1 : Hid (Own w1 b0 v1 mid) := by rw [hmid]; exact ho1
  clear ho1 hb1 ht1 hmid
  go_wp2_with fail
  go_loopw [0, 5] (fun vb x wr => ∃ j : Nat, j ≤ n ∧ x = .int .i64 j ∧ Own wr b0 vb (mid ++ body.take j) ∧ Below b0 w wr ∧ KeptT w wr) (fun _ x _ => n - (intOf x).toNat)
  case atStart => exact ⟨0, Nat.zero_le _, rfl, by simpa using HO1.out, HB1, HT1⟩
  case round =>
    obtain ⟨j, hj, rfl, ho, hbr, hkt⟩ := hrel
    clear HO1 HB1 HT1
    have hws := hbr.size
    by_cases hjn : j < n
    · obtain ⟨x, hx⟩ : ∃ x, body[j]? = some x := ⟨_, List.getElem?_eq_getElem (by omega)⟩
      have hrr := HR.out _ hkt
      rcases hrr.2.2.1 with h0 | ⟨b, off, rfl, hc⟩
      · omega
      have hcx : wr.cell? ⟨b, off + j, none⟩ = some (.int .u8 x) := by
        rw [hc j hjn]; simp [List.getD, hx]
      have htl : (body.take j).length = j := by rw [List.length_take]; omega
      clear hrr hc
      go_wp2_with (first
        | (at_builtin; refine wpList_append_own _ rfl _ _ 24 rfl b0 5 i0 (.int .u8 0) 1 1 Tryz.underlying24 hi hz0 hz1 hz2 rfl (by decide) _ _ _ rfl (ho.alloc _) ⟨wr.heap.size, 0, none⟩ 1 1 [.int .u8 x] rfl rfl ?d1 ?d2 ?d3 ?d4 ?d5 ?_)
        | fail)
      case d1 => exact cell_one_new _ _ _
      case d2 => intro y hy; simp at hy; subst hy; rfl
      case d3 => simp only [List.length_append, htl]; unfold maxLen; omega
      case d4 => simp only [List.length_append, htl]; omega
      case d5 => simp; omega
      intro v' w2 hown' hgrow _
      have HO2 : Hid (Own w2 b0 v' (mid ++ body.take (j + 1))) := own_eq hown' (by rw [List.take_add_one, hx]; simp) (by rw [List.take_add_one, hx]; simp [htl]; omega)
      have HB2 : Hid (Below b0 w w2) := below_push hbr (by omega) ho hgrow
      have HT2 : Hid (KeptT w w2) := hkt.trans (KeptT.push ho hgrow)
      clear hown' hgrow ho hbr hx htl hkt
      go_wp2
      go_roundw
      case rel => exact ⟨j + 1, by omega, by go_num, HO2, HB2, HT2⟩
      case measure => simp [intOf]; omega
    · have e : body.take j = body := List.take_of_length_le (by omega)
      rw [e] at ho
      have HO2 : Hid (Own wr b0 u0 (bs ++ (Wm.put 8 n ++ body))) := by
        rw [HM.out, List.append_assoc] at ho
        exact ho
      have HB2 : Hid (Below b0 w wr) := hbr
      have HT2 : Hid (KeptT w wr) := hkt
      clear ho hbr hkt e
      go_wp2
      go_ret
      exact ⟨_, rfl, HO2, HB2, HT2⟩


end Go.Proofs.YtjgjpepmfiklfaaGreatDoor.Lo
namespace Go.Proofs.YtjgjpepmfiklfaaGreatDoor.Mx
open Go.RowKit Mb Mh Lo
set_option linter.unusedVariables false
set_option maxRecDepth 100000
set_option linter.unusedSimpArgs false
section
variable {w w' W : World} {B : Nat}
def rng (bs : List Int) : Prop := ∀ i, 0 ≤ bs.getD i 0 ∧ bs.getD i 0 ≤ 255
theorem rputInt {b0 : Nat} {v : Value} {bs : List Int} {n : Int} (ho : Own w b0 v bs) (hr : rng bs) (h0 : 0 ≤ n) (h1 : n ≤ 4611686018427387904) (hroom : bs.length ≤ 1000000) : Calls Tryz.prog 61 #[v, .int .i64 n] w fun e w' => ∃ v', e = .returned (.tuple #[v', .int .i64 0]) ∧ Own w' w.heap.size v' (bs ++ Wm.put 8 n) ∧ Below w.heap.size w w' := by
  obtain ⟨ao, c, rfl, hrd⟩ := ho.rdAny hr
  have HW := rwithin_yes n 0 4611686018427387904 w h0 h1
  have HC := copied_any ao bs.length c bs w hrd (by omega)
  have HP : Hid (∀ w1 v1, Own w1 w.heap.size v1 bs → w.heap.size ≤ w1.heap.size → Calls Tryz.prog 81 #[v1, .int .i64 n] w1 fun e w' => ∃ v', e = .returned v' ∧ Own w' w.heap.size v' (bs ++ Wm.put 8 n) ∧ Below w.heap.size w1 w' ∧ KeptT w1 w') := fun w1 v1 h2 h3 => rput_any w.heap.size v1 bs n w1 h2 h3 h0 h1 (by omega)
  clear ho hr hrd
  go_enter Tryz.func61, Tryz.ntmps61
  go_wp2_with (first
    | (go_at_call 80; refine HW.mono ?_; rintro e w1 ⟨rfl, rfl⟩)
    | fail)
  refine HC.mono ?_
  rintro e w1 ⟨v1, rfl, ho1, hb1⟩
  have HO1 : Hid (Own w1 w.heap.size v1 bs) := ho1
  have HB1 : Hid (Below w.heap.size w w1) := hb1
  clear ho1 hb1
  go_wp2_with (fail)
  refine (HP.out w1 v1 HO1.out HB1.out.size).mono ?_
  rintro e w2 ⟨v2, rfl, ho2, hb2, _⟩
  have HO2 : Hid (Own w2 w.heap.size v2 (bs ++ Wm.put 8 n)) := ho2
  have HB2 : Hid (Below w.heap.size w w2) := HB1.out.trans hb2
  clear ho2 hb2
  go_wp2
  go_ret2
  exact ⟨v2, rfl, HO2.out, HB2.out⟩
theorem qputc {b0 : Nat} {v : Value} {bs : List Int} {n : Int} (ho : Own w b0 v bs) (hr : rng bs) (h0 : 0 ≤ n) (h1 : n ≤ 4611686018427387904) (hroom : bs.length ≤ 1000000) : Calls Tryz.prog 31 #[v, .int .i64 n] w fun e w' => ∃ v', e = .returned v' ∧ Own w' w.heap.size v' (bs ++ Wm.put 8 n) ∧ Below w.heap.size w w' := by
  have HC := rputInt ho hr h0 h1 hroom
  clear ho hr
  go_enter Tryz.func31, Tryz.ntmps31
  go_wp2_with (fail)
  refine HC.mono ?_
  rintro e w1 ⟨v1, rfl, ho1, hb1⟩
  have HO1 : Hid (Own w1 w.heap.size v1 (bs ++ Wm.put 8 n)) := ho1
  have HB1 : Hid (Below w.heap.size w w1) := hb1
  clear ho1 hb1
  go_wp2
  go_ret
  exact ⟨v1, rfl, HO1.out, HB1.out⟩
theorem bt_getD (s : ByteArray) (i : Nat) : (bt s).getD i 0 = ((s.data.toList.getD i 0).toNat : Int) := by
  unfold bt
  simp only [List.getD, List.getElem?_map]
  cases s.data.toList[i]? <;> rfl
theorem bt_rg (s : ByteArray) : rng (bt s) := fun i => by
  rw [bt_getD]
  have := (s.data.toList.getD i 0).toNat_lt
  omega
theorem conv_rd {w1 : World} (s : ByteArray) (hk : KeptT (Lib.bytesWorld w 5 s) w1) : Rd w1 (some ⟨w.heap.size, 0, none⟩) s.size (grownCap w s.size 0 5) (bt s) := by
  refine ⟨bt_len s, (fun h => by cases h), ?_, bt_rg s⟩
  refine .inr ⟨w.heap.size, 0, rfl, fun i hi => ?_⟩
  have h1 := Lib.bytesWorld_at_new w 5 s
  have h2 : w1.heap[w.heap.size]? = (Lib.bytesWorld w 5 s).heap[w.heap.size]? := hk.2 _ (by rw [Lib.bytesWorld_size]; omega) (fun cur e => by
    rw [h1] at e
    simp at e)
  have h3 := Lib.bytesWorld_cell w 5 s i hi
  rw [bt_getD, Nat.zero_add, ← h3]
  unfold World.cell?
  rw [h2]
theorem qputt {b0 : Nat} {v : Value} {bs : List Int} {s : ByteArray} (ho : Own w b0 v bs) (hb0 : b0 ≤ w.heap.size) (hroom : bs.length + s.size ≤ 1000000) : Calls Tryz.prog 32 #[v, .string s] w fun e w' => ∃ v', e = .returned v' ∧ Own w' b0 v' (bs ++ txt s) ∧ Below b0 w w' := by
  have hcv := Lib.run_convert_string_bytes (P := Tryz.prog) w 9 24 5 s Tryz.underlying9 Tryz.underlying24 Tryz.underlying5
  have hbw : Below w.heap.size w (Lib.bytesWorld w 5 s) := ⟨rfl, rfl, rfl, by rw [Lib.bytesWorld_size]; omega, fun k hk => Lib.bytesWorld_at_old w 5 s k hk⟩
  have HP : Hid (Calls Tryz.prog 62 #[v, .slice (some ⟨w.heap.size, 0, none⟩) s.size (grownCap w s.size 0 5)] (Lib.bytesWorld w 5 s) fun e w' => ∃ v', e = .returned v' ∧ Own w' b0 v' (bs ++ (Wm.put 8 s.size ++ bt s)) ∧ Below b0 (Lib.bytesWorld w 5 s) w' ∧ KeptT (Lib.bytesWorld w 5 s) w') := rputBytes2 b0 v bs _ _ _ (bt s) _ (fun w1 h => conv_rd s h) (by have := hbw.size; omega) (owns_below ho hbw) (by omega)
  have HB : Hid (Below b0 w (Lib.bytesWorld w 5 s)) := hbw.mono hb0
  generalize Lib.bytesWorld w 5 s = X at *
  generalize grownCap w s.size 0 5 = cp at *
  clear hbw ho
  go_enter Tryz.func32, Tryz.ntmps32
  go_wp2_with (fail)
  refine HP.out.mono ?_
  rintro e w1 ⟨v1, rfl, ho1, hb1, _⟩
  have HO1 : Hid (Own w1 b0 v1 (bs ++ txt s)) := ho1
  have HB1 : Hid (Below b0 w w1) := HB.out.trans hb1
  clear ho1 hb1 HP
  go_wp2
  go_ret
  exact ⟨v1, rfl, HO1.out, HB1.out⟩
end
end Go.Proofs.YtjgjpepmfiklfaaGreatDoor.Mx
