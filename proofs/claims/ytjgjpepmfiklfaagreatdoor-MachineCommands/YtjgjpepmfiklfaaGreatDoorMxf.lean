import Derived.Test.YtjgjpepmfiklfaaGreatDoorMxe
namespace Go.Proofs.YtjgjpepmfiklfaaGreatDoor.Mx
open Go.RowKit Mb Mh Lo
set_option linter.unusedVariables false
set_option maxRecDepth 100000
set_option linter.unusedSimpArgs false
section
variable {w w' W : World} {B : Nat}
def u8at (w : World) (k : Nat) : Prop := ∃ cur, w.heap[k]? = some (.cells cur 5 (0, 0))
def Fr (base wb : Nat) (w w' : World) : Prop := Kept w w' (fun j => j = wb ∨ (base ≤ j ∧ u8at w j))
theorem Fr.refl (base wb : Nat) (w : World) : Fr base wb w w := Kept.refl _ _
theorem Fr.trans {base wb : Nat} {a b c : World} (h : Fr base wb a b) (k : Fr base wb b c) : Fr base wb a c :=
  ⟨k.os.trans h.os, k.tape.trans h.tape, k.output.trans h.output, Nat.le_trans h.size k.size, fun i hi hp => by
    have h1 := h.block i hi hp
    refine (k.block i (Nat.lt_of_lt_of_le hi h.size) (fun e => hp ?_)).trans h1
    rcases e with e | ⟨e1, cur, e2⟩
    · exact .inl e
    · exact .inr ⟨e1, cur, h1 ▸ e2⟩⟩
theorem Fr.below {base wb : Nat} {a b : World} (h : Below a.heap.size a b) : Fr base wb a b := Kept.ofBelow h _
theorem Fr.grown {base wb : Nat} {a b : World} {v : Value} {bs : List Int} (ho : Own a base v bs) (hg : a.grownBy b v.ownBlock) : Fr base wb a b :=
  (Kept.ofGrown hg).mono fun k hk e => by
    refine .inr ⟨(World.ownsRow.lt ho k e.symm).1, ?_⟩
    rcases ho.2 with ⟨h1, _⟩ | ⟨g, cap, cur, h1, _, h3, _⟩
    · rw [h1] at e; cases e
    · rw [h1] at e
      simp only [Value.ownBlock, Option.some.injEq] at e
      exact ⟨cur, e ▸ h3⟩
theorem Fr.set {base wb : Nat} {a : World} (i : Nat) (v : Value) : Fr base wb a (a.setCell ⟨wb, i, none⟩ v) := kset _ _ _ _ (.inl rfl)
theorem Fr.to {base wb B : Nat} {a b : World} (h : Fr base wb a b) (hB : B ≤ a.heap.size) (h1 : B ≤ wb) (h2 : B ≤ base) : Below B a b := Kept.below h hB (fun k hk e => by
  rcases e with e | ⟨e, _⟩ <;> omega)
theorem Fr.keep {base wb k t : Nat} {a b : World} {cur : Array Value} (h : Fr base wb a b) (hk : a.heap[k]? = some (.cells cur t (0, 0))) (hw : k ≠ wb) (ht : t ≠ 5) : b.heap[k]? = some (.cells cur t (0, 0)) :=
  h.obj hk (fun e => by
    rcases e with e | ⟨_, c, e⟩
    · exact hw e
    · rw [hk] at e
      simp only [Option.some.injEq, Obj.cells.injEq] at e
      exact ht e.2.1)
def Wr (w : World) (base wb : Nat) (bs : List Int) : Prop := ∃ v, w.heap[wb]? = some (.cells #[v] 48 (0, 0)) ∧ Own w base v bs
theorem own_shape {base : Nat} {v : Value} {bs : List Int} (h : Own w base v bs) : ∃ a c, v = .slice a bs.length c := by
  rcases h.2 with ⟨h1, h2⟩ | ⟨g, cap, cur, hv, _⟩
  · exact ⟨none, 0, by rw [h1, h2]⟩
  · exact ⟨_, _, hv⟩
theorem own_shape2 {base : Nat} {v : Value} {bs : List Int} (h : Own w base v bs) : ∃ a n c, v = .slice a n c ∧ bs.length = n ∧ w.ownsRow base 5 1 (.slice a n c) n (bs.map (Value.int .u8)) := by
  obtain ⟨a, c, e⟩ := own_shape h
  exact ⟨a, _, c, e, rfl, e ▸ h⟩
theorem own_nil {base : Nat} {a : Option Addr} {n c : Nat} {bs : List Int} (h : Own w base (.slice a n c) bs) : a = none → n = 0 ∧ c = 0 := by
  rcases h.2 with ⟨h1, h2⟩ | ⟨g, cap, cur, hv, _⟩
  · cases h1
    exact fun _ => ⟨rfl, rfl⟩
  · cases hv
    exact fun e => by cases e
theorem own_news {base : Nat} {a : Option Addr} {n c : Nat} {bs : List Int} (h : Own w base (.slice a n c) bs) : ∀ ad, a = some ad → ∀ j u, (bs.map (Value.int .u8))[j]? = some u → w.cell? (ad.add j) = some u := by
  intro ad e j u hu
  rcases h.2 with ⟨h1, h2⟩ | ⟨g, cap, cur, hv, _⟩
  · cases h1; cases e
  · cases hv
    cases e
    have hj : j < bs.length := by have := (List.getElem?_eq_some_iff.1 hu).1; simpa using this
    rw [Addr.add_lit, Nat.zero_add, World.ownsRow.cellAt h j (by omega)]
    exact hu
set_option maxHeartbeats 4000000 in
theorem wcounts_any {base wb : Nat} {bs : List Int} {cb n c : Nat} {ns : List Int} (h : Wr w base wb bs) (hb : base ≤ w.heap.size) (hn : ns.length = n) (hcb : w.heap[cb]? = some (.cells (ints ns).toArray 3 (0, 0))) (hr : ∀ x ∈ ns, 0 ≤ x ∧ x ≤ 4611686018427387904) (hroom : bs.length + 9 * n ≤ 1000000) :
    Calls Tryz.prog 20 #[.pointer (some ⟨wb, 0, none⟩), .slice (some ⟨cb, 0, none⟩) n c] w fun e w' => e = .returned (.tuple #[]) ∧ Wr w' base wb (bs ++ puts ns) ∧ Fr base wb w w' := by
  obtain ⟨i0, hi, hz0, hz1, hz2⟩ := info_parts info_u8
  have HN : Hid (ns.length = n) := hn
  have HR : Hid (∀ x ∈ ns, 0 ≤ x ∧ x ≤ 4611686018427387904) := hr
  have HC : Hid (w.heap[cb]? = some (.cells (ints ns).toArray 3 (0, 0))) := hcb
  have HW : Hid (Wr w base wb bs) := h
  have Hne : Hid (cb ≠ wb) := by
    obtain ⟨v, h1, _⟩ := h
    exact fun e => by
      subst e
      rw [hcb] at h1
      simp only [Option.some.injEq, Obj.cells.injEq] at h1
      exact absurd h1.2.1 (by decide)
  clear hn hr hcb h
  go_enter Tryz.func20, Tryz.ntmps20
  go_wp2_with (fail)
  go_loopw [5, 6, 7, 10] (fun _ _ _ x wr => ∃ j : Nat, j ≤ n ∧ x = .int .i64 (j : Int) ∧ Hid (Wr wr base wb (bs ++ puts (ns.take j)) ∧ Fr base wb w wr)) (fun _ _ _ x _ => n - (intOf x).toNat)
  case atStart => exact ⟨0, Nat.zero_le _, rfl, by simpa [puts] using HW.out, Fr.refl _ _ _⟩
  case round =>
    obtain ⟨j, hj, rfl, HI⟩ := hrel
    clear HW
    by_cases hjn : j < n
    · have j2 : (j : Int) < (n : Int) := by omega
      have j0 : (0 : Int) ≤ (j : Int) := Int.natCast_nonneg _
      have hjl : j < ns.length := by have := HN.out; omega
      have hcx : wr.cell? ⟨cb, j, none⟩ = some (.int .i64 (ns.getD j 0)) := by
        rw [blk_cell (HI.out.2.keep HC.out Hne.out (by decide)) j]
        simp [ints, List.getD, hjl]
      have hxr := HR.out (ns.getD j 0) (by simp [List.getD, hjl])
      have hch : puts (ns.take (j + 1)) = puts (ns.take j) ++ Wm.put 8 (ns.getD j 0) := put_chain (by simp [List.getD, hjl])
      have hpl : (puts (ns.take j)).length ≤ 9 * j := by have := puts_len_le (ns.take j); rw [List.length_take] at this; omega
      have Hch : Hid (puts (ns.take (j + 1)) = puts (ns.take j) ++ Wm.put 8 (ns.getD j 0)) := hch
      generalize ns.getD j 0 = x at *
      have hxl : (Wm.put 8 x).length ≤ 9 := Wm.put_le 8 x
      obtain ⟨v, hv1, hv2⟩ := HI.out.1
      have HV1 : Hid (wr.heap[wb]? = some (.cells #[v] 48 (0, 0))) := hv1
      have HV2 : Hid (Own wr base v (bs ++ puts (ns.take j))) := hv2
      have HF : Hid (Fr base wb w wr) := HI.out.2
      have HPI : Hid (Calls Tryz.prog 43 #[.slice none 0 0, .int .i64 x] wr fun e w' => ∃ v, e = .returned (.tuple #[v, .int .i64 0]) ∧ Own w' wr.heap.size v (Wm.put 8 x) ∧ Below wr.heap.size wr w') := putInt_nil hxr.1 hxr.2
      clear hch hv1 hv2 HI
      go_wp2_with (fail)
      refine HPI.out.mono ?_
      rintro e w1 ⟨pv, rfl, ho1, hb1⟩
      obtain ⟨pa, pn, pc, rfl, hpn, ho2⟩ := own_shape2 ho1
      have HO1 : Hid (Own w1 wr.heap.size (.slice pa pn pc) (Wm.put 8 x)) := ho1
      have HB1 : Hid (Below wr.heap.size wr w1) := hb1
      have HV1' : Hid (w1.heap[wb]? = some (.cells #[v] 48 (0, 0))) := (hb1.block _ (lt_heap HV1.out)).trans HV1.out
      have HV2' : Hid (Own w1 base v (bs ++ puts (ns.take j))) := own_still HV2.out hb1
      obtain ⟨va, vn, vc, hvs, hvn, hvo⟩ := own_shape2 HV2'.out
      have HVo : Hid (w1.ownsRow base 5 1 (.slice va vn vc) vn ((bs ++ puts (ns.take j)).map (Value.int .u8))) := hvo
      have hc1 := blk_cell HV1'.out 0
      simp only [List.getElem?_toArray, List.getElem?_cons_zero] at hc1
      have hbs : base ≤ w1.heap.size := Nat.le_trans hb (Nat.le_trans HF.out.size hb1.size)
      have hvl : vn ≤ bs.length + 9 * j := by rw [← hvn, List.length_append]; omega
      have hpnl : pn ≤ 9 := by rw [← hpn]; exact hxl
      have Hfz := frozen_of_row w1 wb 0 _ _ HV1'.out
      have HFin : Hid (∀ (v' : Value) (w2 : World), w2.ownsRow base 5 1 v' (vn + pn) ((bs ++ puts (ns.take j)).map (Value.int .u8) ++ (Wm.put 8 x).map (Value.int .u8)) → w1.grownBy w2 (Value.slice va vn vc).ownBlock → w2.heap[wb]? = some (.cells #[v] 48 (0, 0)) ∧ Wr (w2.setCell ⟨wb, 0, none⟩ v') base wb (bs ++ puts (ns.take (j + 1))) ∧ Fr base wb w (w2.setCell ⟨wb, 0, none⟩ v')) := fun v' w2 h7 h8 => by
        have hO : Own w1 base (.slice va vn vc) (bs ++ puts (ns.take j)) := hvs ▸ HV2'.out
        have f1 : Fr base wb w w2 := (HF.out.trans (Fr.below HB1.out)).trans (Fr.grown hO h8)
        have hwb : w2.heap[wb]? = some (.cells #[v] 48 (0, 0)) := by
          refine (h8.block wb (lt_heap HV1'.out) (fun e => ?_)).trans HV1'.out
          obtain ⟨cur, h9⟩ : u8at w1 wb := by
            rcases hvo.2 with ⟨g1, _⟩ | ⟨g, cap, cur, g1, _, g3, _⟩
            · rw [g1] at e; cases e
            · rw [g1] at e
              simp only [Value.ownBlock, Option.some.injEq] at e
              exact ⟨cur, e ▸ g3⟩
          rw [HV1'.out] at h9
          simp only [Option.some.injEq, Obj.cells.injEq] at h9
          exact absurd h9.2.1 (by decide)
        refine ⟨hwb, ⟨v', blk_set hwb rfl, ?_⟩, f1.trans (Fr.set _ _)⟩
        have h10 : Own w2 base v' (bs ++ puts (ns.take (j + 1))) := by
          unfold Own
          rw [Hch.out, ← List.append_assoc, List.map_append, List.length_append, hvn, hpn]
          exact h7
        refine (kset (P := fun k => k = wb) w2 wb 0 v' rfl).owns h10 (fun k hk e => ?_)
        subst e
        rcases h10.2 with ⟨g1, _⟩ | ⟨g, cap, cur, g1, _, g3, _⟩
        · rw [g1] at hk; cases hk
        · rw [g1] at hk
          simp only [Value.ownBlock, Option.some.injEq] at hk
          subst hk
          rw [hwb] at g3
          simp only [Option.some.injEq, Obj.cells.injEq] at g3
          exact absurd g3.2.1 (by decide)
      rw [hvs] at hc1
      clear ho1 hb1 ho2 hvo
      generalize (bs ++ puts (ns.take j)).map (Value.int .u8) = LV at *
      obtain ⟨PV, hPV⟩ : ∃ PV, (Wm.put 8 x).map (Value.int .u8) = PV := ⟨_, rfl⟩
      have HPl : Hid (PV.length = pn) := by rw [← hPV, List.length_map]; exact hpn
      have HPn : Hid (∀ ad, pa = some ad → ∀ j u, PV[j]? = some u → w1.cell? (ad.add j) = some u) := by rw [← hPV]; exact own_news HO1.out
      have HP1 : Hid (∀ u ∈ PV, u.oneCell' = true) := by rw [← hPV]; exact bytes_oneCell _
      have HPz : Hid (pa = none → pn = 0 ∧ pc = 0) := own_nil HO1.out
      rw [hPV] at HFin
      clear hPV hvn hpn
      go_wp2_with (first
        | (at_builtin; refine wpList_append_rd _ rfl (.tmp 23) (.tmp 24) 24 rfl base 5 i0 (.int .u8 0) 1 Tryz.underlying24 hi hz0 hz1 hz2 rfl _ _ _ rfl HVo.out _ _ _ PV rfl HPz.out HPl.out HPn.out HP1.out (by unfold maxLen; omega) (by omega) hbs ?_)
        | fail)
      intro v' w2 q1 q2
      obtain ⟨q3, q4, q5⟩ := HFin.out v' w2 q1 q2
      have HE : Hid (Wr (w2.setCell ⟨wb, 0, none⟩ v') base wb (bs ++ puts (ns.take (j + 1))) ∧ Fr base wb w (w2.setCell ⟨wb, 0, none⟩ v')) := ⟨q4, q5⟩
      have hc2 := blk_cell q3 0
      have hf2 := frozen_of_row w2 wb 0 _ _ q3
      simp only [List.getElem?_toArray, List.getElem?_cons_zero] at hc2
      obtain ⟨ua, un, uc, huv⟩ : ∃ a n c, v' = .slice a n c := by
        rcases q1.2 with ⟨g1, _⟩ | ⟨g, cap, cur, g1, _⟩
        · exact ⟨_, _, _, g1⟩
        · exact ⟨_, _, _, g1⟩
      rw [huv] at HE
      rw [huv]
      clear q1 q2 q3 q4 q5 huv HFin
      go_wp2_with (fail)
      exact ⟨⟨j + 1, by omega, by go_num, HE.out⟩, by simp [intOf]; omega⟩
    · have j2 : ¬ (j : Int) < (n : Int) := by omega
      obtain rfl : j = n := by omega
      have hfin : ns.take j = ns := List.take_of_length_le (by have := HN.out; omega)
      rw [hfin] at HI
      go_wp2_with (fail)
      (try simp only [Exit.inBlock, Exit.then])
      exact bodyPost_end (results_none Tryz.results20 _ _ _) rfl ⟨rfl, HI.out.1, HI.out.2⟩
end
end Go.Proofs.YtjgjpepmfiklfaaGreatDoor.Mx
