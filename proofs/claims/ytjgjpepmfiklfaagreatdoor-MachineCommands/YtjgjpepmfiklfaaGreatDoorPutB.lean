import Derived.Test.YtjgjpepmfiklfaaGreatDoorPutW
namespace Go.Proofs.YtjgjpepmfiklfaaGreatDoor.Lo
open Go.RowKit
set_option linter.unusedVariables false

theorem Rd.at {w0 w : World} {ao : Option Addr} {n c : Nat} {bs : List Int} (h : Rd w0 ao n c bs) (hb : Below w0.heap.size w0 w) : Rd w ao n c bs := h.below hb

theorem own_app {w' : World} {base n : Nat} {v' : Value} {xs ys : List Int} (h : w'.ownsRow base 5 1 v' n (xs.map (Value.int .u8) ++ ys.map (Value.int .u8))) (hn : n = xs.length + ys.length) : Own w' base v' (xs ++ ys) := by
  unfold Own
  subst hn
  simpa using h

theorem own_eq {w' : World} {base n : Nat} {v' : Value} {L : List Value} {xs : List Int} (h : w'.ownsRow base 5 1 v' n L) (hL : L = xs.map (Value.int .u8)) (hn : n = xs.length) : Own w' base v' xs := by
  subst hL hn; exact h

theorem puts_one (x : Int) : puts [x] = Wm.put 8 x := by simp [puts]

set_option maxRecDepth 100000 in
set_option maxHeartbeats 2000000 in
theorem rputBytes_any (w0 : World) (v : Value) (bs : List Int) (ao : Option Addr) (n c : Nat) (body : List Int) (w : World) (hr : Rd w0 ao n c body) (hbel : Below w0.heap.size w0 w) (ho : Own w w0.heap.size v bs) (hroom : bs.length + n + 9 ≤ 140737488355328) :
    Calls Tryz.prog 62 #[v, .slice ao n c] w fun e w' => ∃ v', e = .returned v' ∧ Own w' w0.heap.size v' (bs ++ (Wm.put 8 n ++ body)) ∧ Below w0.heap.size w0 w' ∧ KeptT w w' := by
  obtain ⟨i0, hi, hz0, hz1, hz2⟩ := info_parts info_u8
  have hsz := hbel.size
  have hl := hr.1
  have HR : Hid (Rd w0 ao n c body) := hr
  have HB : Hid (Below w0.heap.size w0 w) := hbel
  have HO : Hid (Own w w0.heap.size v bs) := ho
  clear hr hbel ho
  go_enter Tryz.func62, Tryz.ntmps62
  go_wp2_with fail
  refine (rput_any w0.heap.size v bs n _ HO.out hsz (by omega) (by omega) (by omega)).mono ?_
  rintro e w1 ⟨v1, rfl, ho1, hb1, ht1⟩
  have HB1 : Hid (Below w0.heap.size w0 w1) := HB.out.trans hb1
  have HT1 : Hid (KeptT w w1) := ht1
  have hpl := put_len 8 n
  obtain ⟨mid, hmid⟩ : ∃ m, m = bs ++ Wm.put 8 n := ⟨_, rfl⟩
  have hml : mid.length ≤ bs.length + 9 := by rw [hmid]; simp; omega
  have HM : Hid (mid = bs ++ Wm.put 8 n) := hmid
  have HO1 : Hid (Own w1 w0.heap.size v1 mid) := by rw [hmid]; exact ho1
  clear ho1 hb1 ht1 hmid
  go_wp2_with fail
  go_loopw [0, 5] (fun vb x wr => ∃ j : Nat, j ≤ n ∧ x = .int .i64 j ∧ Own wr w0.heap.size vb (mid ++ body.take j) ∧ Below w0.heap.size w0 wr ∧ KeptT w wr) (fun _ x _ => n - (intOf x).toNat)
  case atStart => exact ⟨0, Nat.zero_le _, rfl, by simpa using HO1.out, HB1, HT1⟩
  case round =>
    obtain ⟨j, hj, rfl, ho, hbr, hkt⟩ := hrel
    clear HO1 HB1 HT1
    have hws := hbr.size
    by_cases hjn : j < n
    · obtain ⟨x, hx⟩ : ∃ x, body[j]? = some x := ⟨_, List.getElem?_eq_getElem (by omega)⟩
      have hrr := HR.out.at hbr
      rcases hrr.2.2.1 with h0 | ⟨b, off, rfl, hc⟩
      · omega
      have hcx : wr.cell? ⟨b, off + j, none⟩ = some (.int .u8 x) := by
        rw [hc j hjn]; simp [List.getD, hx]
      have htl : (body.take j).length = j := by rw [List.length_take]; omega
      clear hrr hc
      go_wp2_with (first
        | (at_builtin; refine wpList_append_own _ rfl _ _ 24 rfl w0.heap.size 5 i0 (.int .u8 0) 1 1 Tryz.underlying24 hi hz0 hz1 hz2 rfl (by decide) _ _ _ rfl (ho.alloc _) ⟨wr.heap.size, 0, none⟩ 1 1 [.int .u8 x] rfl rfl ?d1 ?d2 ?d3 ?d4 ?d5 ?_)
        | fail)
      case d1 => exact cell_one_new _ _ _
      case d2 => intro y hy; simp at hy; subst hy; rfl
      case d3 => simp only [List.length_append, htl]; unfold maxLen; omega
      case d4 => simp only [List.length_append, htl]; omega
      case d5 => simp; omega
      intro v' w2 hown' hgrow _
      have HO2 : Hid (Own w2 w0.heap.size v' (mid ++ body.take (j + 1))) := own_eq hown' (by rw [List.take_add_one, hx]; simp) (by rw [List.take_add_one, hx]; simp [htl]; omega)
      have HB2 : Hid (Below w0.heap.size w0 w2) := below_push hbr (by omega) ho hgrow
      have HT2 : Hid (KeptT w w2) := hkt.trans (KeptT.push ho hgrow)
      clear hown' hgrow ho hbr hx htl hkt
      go_wp2
      go_roundw
      case rel => exact ⟨j + 1, by omega, by go_num, HO2, HB2, HT2⟩
      case measure => simp [intOf]; omega
    · have e : body.take j = body := List.take_of_length_le (by omega)
      rw [e] at ho
      have HO2 : Hid (Own wr w0.heap.size u0 (bs ++ (Wm.put 8 n ++ body))) := by
        rw [HM.out, List.append_assoc] at ho
        exact ho
      have HB2 : Hid (Below w0.heap.size w0 wr) := hbr
      have HT2 : Hid (KeptT w wr) := hkt
      clear ho hbr hkt e
      go_wp2
      go_ret
      exact ⟨_, rfl, HO2, HB2, HT2⟩

end Go.Proofs.YtjgjpepmfiklfaaGreatDoor.Lo
