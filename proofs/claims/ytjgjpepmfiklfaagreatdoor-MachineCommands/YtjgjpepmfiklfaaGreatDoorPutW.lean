import Derived.Test.YtjgjpepmfiklfaaGreatDoorRefPut
namespace Go.Proofs.YtjgjpepmfiklfaaGreatDoor.Lo
open Go.RowKit
set_option linter.unusedVariables false

def puts (ns : List Int) : List Int := ns.flatMap (Wm.put 8)

theorem ne_src {w : World} {base cb : Nat} {v : Value} {bs : List Int} (ho : Own w base v bs) (hcb : cb < base ∨ ∃ cur, w.heap[cb]? = some (.cells cur 3 (0, 0))) : some cb ≠ v.ownBlock := by
  intro e
  rcases hcb with h | ⟨cur, h⟩
  · have := (ho.lt cb e.symm).1; omega
  · obtain ⟨c2, h2⟩ := own_typeU8 ho e.symm
    rw [h] at h2
    simp at h2

theorem src_step {w wr w1 : World} {base cb : Nat} {v : Value} {bs : List Int} {o : Obj} (ho : Own wr base v bs) (hcb : cb < base ∨ ∃ cur, w.heap[cb]? = some (.cells cur 3 (0, 0))) (hlt : cb < w.heap.size) (hsz : w.heap.size ≤ wr.heap.size) (hk : wr.heap[cb]? = w.heap[cb]?) (hg : (wr.alloc o).grownBy w1 v.ownBlock) : w1.heap[cb]? = w.heap[cb]? := by
  have hne : some cb ≠ v.ownBlock := ne_src ho (by rw [hk]; exact hcb)
  exact ((hg.block cb (by simp; omega) hne).trans (Below.heap_alloc wr o cb (by omega))).trans hk

theorem put_chain {ns : List Int} {j : Nat} {x : Int} (h : ns[j]? = some x) : puts (ns.take (j + 1)) = puts (ns.take j) ++ Wm.put 8 x := by
  have : ns.take (j + 1) = ns.take j ++ [x] := by
    rw [List.take_add_one, h]; rfl
  rw [this]; simp [puts]

theorem puts_len_le (ns : List Int) : (puts ns).length ≤ 9 * ns.length := by
  induction ns with
  | nil => simp [puts]
  | cons x ns ih => have := put_len 8 x; simp only [puts, List.flatMap_cons, List.length_append, List.length_cons] at *; omega

theorem own_push2 {w' : World} {base n : Nat} {v' : Value} {bs d0 done : List Int} {c : Int} (h : w'.ownsRow base 5 1 v' n (bs.map (Value.int .u8) ++ (d0.map (Value.int .u8) ++ (done.map (Value.int .u8) ++ [.int .u8 c])))) (hn : n = bs.length + (d0.length + (done.length + 1))   := by omega) : Own w' base v' (bs ++ (d0 ++ (done ++ [c]))) := by
  unfold Own
  subst hn
  simpa using h

set_option maxRecDepth 100000 in
set_option maxHeartbeats 2000000 in
theorem counts_any (base : Nat) (v : Value) (bs : List Int) (cb off n c : Nat) (ns : List Int) (w : World)
    (hown : Own w base v bs) (hb : base ≤ w.heap.size) (hn : ns.length = n) (hcell : ∀ i, i < n → w.cell? ⟨cb, off + i, none⟩ = some (.int .i64 (ns.getD i 0))) (hcb : cb < base ∨ ∃ cur, w.heap[cb]? = some (.cells cur 3 (0, 0))) (hlt : cb < w.heap.size)
    (hr : ∀ x ∈ ns, 0 ≤ x ∧ x ≤ 4611686018427387904) (hroom : bs.length + 9 * n ≤ 140737488355328) :
    Calls Tryz.prog 67 #[v, .slice (some ⟨cb, off, none⟩) n c] w fun e w' => ∃ v', e = .returned v' ∧ Own w' base v' (bs ++ puts ns) ∧ Below base w w' ∧ KeptT w w' := by
  obtain ⟨i0, hi, hz0, hz1, hz2⟩ := info_parts info_u8
  have HN : Hid (ns.length = n) := hn
  have HR : Hid (∀ x ∈ ns, 0 ≤ x ∧ x ≤ 4611686018427387904) := hr
  have HC : Hid (∀ i, i < n → w.cell? ⟨cb, off + i, none⟩ = some (.int .i64 (ns.getD i 0))) := hcell
  have HCB : Hid (cb < base ∨ ∃ cur, w.heap[cb]? = some (.cells cur 3 (0, 0))) := hcb
  have HO : Hid (Own w base v bs) := hown
  clear hn hr hcell hcb hown
  go_enter Tryz.func67, Tryz.ntmps67
  go_wp2
  go_loopw [0, 9] (fun vb x wr => ∃ j : Nat, j ≤ n ∧ x = .int .i64 j ∧ Own wr base vb (bs ++ puts (ns.take j)) ∧ Below base w wr ∧ KeptT w wr ∧ wr.heap[cb]? = w.heap[cb]?) (fun _ x _ => n - (intOf x).toNat)
  case atStart => exact ⟨0, Nat.zero_le _, rfl, by simpa [puts] using HO.out, Below.refl _ _, KeptT.refl _, rfl⟩
  case round =>
    obtain ⟨j, hj, rfl, ho, hbel, hkt, hkp⟩ := hrel
    by_cases hjn : j < n
    · obtain ⟨x, hx⟩ : ∃ x, ns[j]? = some x := ⟨_, List.getElem?_eq_getElem (by have := HN.out; omega)⟩
      have hxr := HR.out x (List.mem_of_getElem? hx)
      have hcx : wr.cell? ⟨cb, off + j, none⟩ = some (.int .i64 x) := by
        rw [World.cell?_of_block (a := ⟨cb, off + j, none⟩) hkp, HC.out j hjn]
        simp [List.getD, hx]
      have hpl : (puts (ns.take j)).length ≤ 9 * j := by have := puts_len_le (ns.take j); rw [List.length_take] at this; omega
      obtain ⟨hx0, hx1⟩ := hxr
      obtain ⟨done0, hd0⟩ : ∃ d, d = puts (ns.take j) := ⟨_, rfl⟩
      rw [← hd0] at ho hpl
      have HD0 : Hid (done0 = puts (ns.take j)) := hd0
      have HX : Hid (ns[j]? = some x) := hx
      have HOr : Hid (Own wr base u0 (bs ++ done0)) := ho
      have HBr : Hid (Below base w wr) := hbel
      have HK : Hid (wr.heap[cb]? = w.heap[cb]?) := hkp
      have HT : Hid (KeptT w wr) := hkt
      clear hd0 hx ho hbel hkp hkt
      go_wp2
      go_loopw [0, 6] (fun vb x' ws => ∃ (done : List Int) (f : Nat) (u : Int), x' = .int .i64 u ∧ 0 ≤ u ∧ Hid (u < 128 ^ (f + 1)) ∧ u ≤ 4611686018427387904 ∧ done.length + f ≤ 8 ∧ Hid (Wm.put 8 x = done ++ Wm.put f u) ∧ Own ws base vb (bs ++ (done0 ++ done)) ∧ Below base w ws ∧ KeptT w ws ∧ ws.heap[cb]? = w.heap[cb]?) (fun _ x _ => (intOf x).toNat)
      case atStart => exact ⟨[], 8, x, rfl, hx0, show x < 128 ^ (8 + 1) by simp; omega, hx1, by simp, rfl, by simpa using HOr.out, HBr, HT, HK⟩
      case round =>
        obtain ⟨done, f, u, rfl, hu0, huf, hum, hdf, hput, ho, hbel, hkt, hkp⟩ := hrel
        clear HOr HBr HK HT
        have hws := hbel.size
        by_cases h128 : 128 ≤ u
        · go_wp2_with (first
            | (at_builtin; refine wpList_append_own _ rfl _ _ 24 rfl base 5 i0 (.int .u8 0) 1 1 Tryz.underlying24 hi hz0 hz1 hz2 rfl (by decide) _ _ _ rfl (ho.alloc _) ⟨wr.heap.size, 0, none⟩ 1 1 [.int .u8 (u % 128 + 128)] rfl rfl ?c1 ?c2 ?c3 ?c4 ?c5 ?_)
            | go_in)
          case c1 => exact cell_one_new _ _ _
          case c2 => intro x hx; simp at hx; subst hx; rfl
          case c3 => simp; unfold maxLen; omega
          case c4 => simp; omega
          case c5 => simp; omega
          intro v' w1 hown' hgrow _
          have HO1 : Hid (Own w1 base v' (bs ++ (done0 ++ (done ++ [u % 128 + 128])))) := own_push2 hown'
          have HB1 : Hid (Below base w w1) := below_push hbel (by omega) ho hgrow
          have HT1 : Hid (KeptT w w1) := hkt.trans (KeptT.push ho hgrow)
          have HK1 : Hid (w1.heap[cb]? = w.heap[cb]?) := src_step ho HCB.out hlt hws hkp hgrow
          obtain ⟨f', rfl, hpf, hq0, hqf⟩ := put_step f u hu0 huf h128
          have HP : Hid (Wm.put 8 x = (done ++ [u % 128 + 128]) ++ Wm.put f' (u / 128)) := put_more hput.out hpf
          have HF : Hid (u / 128 < 128 ^ (f' + 1)) := hqf
          clear hpf hqf hown' hgrow ho hbel hkp hkt
          go_wp2
          go_roundw
          case rel => exact ⟨done ++ [u % 128 + 128], f', u / 128, by go_num, by omega, HF, by omega, by simp; omega, HP, HO1, HB1, HT1, HK1⟩
          case measure => simp [intOf]; omega
        · have HP : Hid (Wm.put 8 x = done ++ [u]) := by rw [hput.out, put_last f u (by omega)]; rfl
          go_wp2_with (first
            | (at_builtin; refine wpList_append_own _ rfl _ _ 24 rfl base 5 i0 (.int .u8 0) 1 1 Tryz.underlying24 hi hz0 hz1 hz2 rfl (by decide) _ _ _ rfl (ho.alloc _) ⟨wr.heap.size, 0, none⟩ 1 1 [.int .u8 u] rfl rfl ?d1 ?d2 ?d3 ?d4 ?d5 ?_)
            | go_in)
          case d2 => rfl
          case d3 => unfold maxLen; omega
          case d4 => omega
          case d5 => omega
          intro v' w1 hown' hgrow _
          have HO1 : Hid (Own w1 base v' (bs ++ puts (ns.take (j + 1)))) := by
            rw [put_chain HX.out, ← HD0.out, HP.out]; exact own_push2 hown'
          have HB1 : Hid (Below base w w1) := below_push hbel (by omega) ho hgrow
          have HT1 : Hid (KeptT w w1) := hkt.trans (KeptT.push ho hgrow)
          have HK1 : Hid (w1.heap[cb]? = w.heap[cb]?) := src_step ho HCB.out hlt hws hkp hgrow
          clear hown' hgrow ho hbel hkp hkt
          go_wp2
          go_roundw
          case rel => exact ⟨j + 1, by omega, by go_num, HO1, HB1, HT1, HK1⟩
          case measure => simp [intOf]; omega
    · have e : ns.take j = ns := List.take_of_length_le (by have := HN.out; omega)
      rw [e] at ho
      have HOr : Hid (Own wr base u0 (bs ++ puts ns)) := ho
      have HBr : Hid (Below base w wr) := hbel
      have HTr : Hid (KeptT w wr) := hkt
      clear ho hbel hkp hkt e
      go_wp2
      go_ret
      exact ⟨_, rfl, HOr, HBr, HTr⟩
end Go.Proofs.YtjgjpepmfiklfaaGreatDoor.Lo
