import Derived.Test.YtfbgoidhgkcgjaaAvk
namespace Go.Proofs.Ytfbgoidhgkcgjaa.Lo
open Go.RowKit Go.Maps
set_option linter.unusedVariables false
set_option linter.unusedSimpArgs false
section
variable {w w' W : World} {B : Nat} {P : Nat → Prop}
theorem app_M {ops : Array Oper} {rest : List Oper} {o : Oper} {a : Act} {Q : Exit → Act → World → Prop} (hgd : o.guard = none) (s x : Operand)
    (ho : o.op = .call { callee := .builtin .append, args := #[s, x], argTypes := #[22, 22] }) {B : Nat} {v : Value} {l : List Mk} (hs : a.eval s = v) {w0 : World} (hown : OwM w0 B v l) (e : Mk) (hw : w = w0.alloc (.cells e.cs.toArray 50))
    (hx : a.eval x = .slice (some ⟨w0.heap.size, 0, none⟩) 1 1) (hn : (l.length + 1) * 288 ≤ 140737488355328) (hbase : B ≤ w0.heap.size)
    (h : ∀ v' w', Hid (OwM w' B v' (l ++ [e])) → Hid (Mb.Kept w0 w' (fun k => v.ownBlock = some k)) → wpList Try.prog ops Q rest (a.put o.dst v') w') : wpList Try.prog ops Q (o :: rest) a w :=
  wpList_step fun K hK => step_M hgd s x ho hs hown e hw hx hn hbase (fun v' w' h1 h2 => hK _ _ (h v' w' h1 h2))
theorem Okm.lz2 {e : Mk} (h : Okm e) (ma : Option Addr) (mc : Nat) (ta : Option Addr) (tc : Nat) (ba : Option Addr) (bc : Nat) : Okm (lz2 e ma mc ta tc ba bc) := ⟨h.n, h.k, h.v, h.o⟩
set_option maxRecDepth 100000 in
set_option maxHeartbeats 8000000 in
theorem lcopied_any (la : Option Addr) (n lc : Nat) (l : List Mk) (w : World) (hr : MkF w la n l) (hok : ∀ e ∈ l, Okm e) : Calls Try.prog 6 #[.slice la n lc] w fun r w' => ∃ (oa : Option Addr) (oc : Nat) (l2 : List Mk), r = .returned (.slice oa n oc) ∧ OwM w' w.heap.size (.slice oa n oc) l2 ∧ (∀ e ∈ l2, Okm e) ∧ Below w.heap.size w w' := by
  have hln : l.length = n := hr.r.len
  have HF : Hid (MkF w la n l) := hr
  have HOk : Hid (∀ e ∈ l, Okm e) := hok
  have hz := hr.z
  clear hr hok
  go_enter Try.func6, Try.ntmps6
  go_wp2_with fail
  go_loopw [3, 4] (fun v3 x wr => ∃ (j : Nat) (oa : Option Addr) (oc : Nat) (l2 : List Mk), j ≤ n ∧ x = .int .i64 j ∧ v3 = .slice oa j oc ∧ Hid (OwM wr w.heap.size (.slice oa j oc) l2 ∧ (∀ e ∈ l2, Okm e) ∧ Below w.heap.size w wr)) (fun _ x _ => n - (intOf x).toNat)
  case atStart => exact ⟨0, none, 0, [], Nat.zero_le _, rfl, rfl, (show _ ∧ _ from ⟨ow_nil _ _ _ _, (by intro e he; cases he), Below.refl _ _⟩)⟩
  case round =>
    obtain ⟨j, oa, oc, l2, hj, rfl, rfl, hS⟩ := hrel
    by_cases hjn : j < n
    · obtain ⟨W0, hW0⟩ : ∃ W0, W0 = wr := ⟨_, rfl⟩
      subst hW0
      have j1 : (0 : Int) ≤ (j : Int) := Int.natCast_nonneg _
      have j3 : (j : Int) < (n : Int) := by omega
      rcases HF.out.r.row with h0 | ⟨eb, eo, hla, hrow⟩
      · omega
      subst hla
      have HEV : Hid (W0.rangeAt eb (eo + j * 26) (l.getD j mk0).cs) := (show W0.rangeAt _ _ _ from range_on (hrow j hjn) hS.out.2.2)
      have hM := (HF.out.on hS.out.2.2).m j hjn
      have hT := (HF.out.on hS.out.2.2).t j hjn
      have hD := (HF.out.on hS.out.2.2).b j hjn
      have hoe := HOk.out _ (getD_memM (l := l) (i := j) (by omega))
      generalize l.getD j mk0 = e at *
      obtain ⟨hM1, hM2⟩ := hM
      obtain ⟨hT1, hT2⟩ := hT
      obtain ⟨hD1, hD2, hD3⟩ := hD
      have hts : e.ts.length = e.tn := hT1.1
      have hbs : e.bs.length = e.bn := hD1.len
      have HM0 : Hid (RdM W0 e.ma e.mn e.mc e.ms) := hM1
      have HT0 : Hid (Ri W0 e.ta e.tn e.tc e.ts) := hT1
      have HD0 : Hid (Ln.Rd W0 e.ba e.bn e.bc e.bs) := hD1
      have HDn : Hid (e.ba = none → e.bn = 0 ∧ e.bc = 0) := hD2
      have HOe : Hid (Okm e) := hoe
      clear hrow hM1 hT1 hD1 hD2 hoe
      go_wp2_with (first | (refine Ln.at_load 50 (.tmp 14) rfl ?_; refine Ln.load_mid 50 (.tmp 14) HEV.out _ Try.underlying50 rfl (iMk e) rfl rfl rfl ?_) | (refine wl_allocZ rfl 50 rfl zMk ?_) | fail)
      intro X1 kx1 bx1 sx1
      go_wp2_with (first | (refine Ln.at_store 50 _ _ rfl ?_; refine wl_storeZ rfl 50 _ _ rfl (L := e.cs) rfl rfl kx1 (iMk e) rfl (Mk.one e) ?_) | fail)
      intro X2 kx2 kkx2
      have HB0 : Hid (Below W0.heap.size W0 X2) := (show Below _ _ _ from bx1.trans (kn kkx2 (Nat.le_refl _) bx1.size))
      have HK0 : Hid (X2.heap[W0.heap.size]? = some (.cells e.cs.toArray 50 (0, 0))) := kx2
      clear kx1 bx1 sx1 kkx2 kx2 HEV
      have c8 : X2.cell? ⟨W0.heap.size, 8, none⟩ = some (.slice e.ma e.mn e.mc) := blk_cell HK0.out 8
      have hs8 : W0.heap.size ≤ X2.heap.size := HB0.out.size
      go_wp2_with (first | (at_builtin; refine app_Q rfl _ _ rfl rfl (show OwQ X2 W0.heap.size (.slice none 0 0) 0 [] from ow_nil _ _ _ _) rfl (HM0.out.on HB0.out) (by omega) hs8 ?_) | fail)
      intro v8 X3 o8 kk8
      obtain ⟨a8, d8, hv8⟩ := ow_shape o8.out
      have hv8' : v8 = .slice a8 e.mn d8 := by simpa using hv8
      clear hv8
      subst hv8'
      have hb8 := kb kk8.out
      have kx8 := blk_on hb8 HK0.out
      have z8 : X3.cell? ⟨W0.heap.size, 8, none⟩ = some (.slice e.ma e.mn e.mc) := blk_cell kx8 8
      have y8 : X3.frozen? ⟨W0.heap.size, 8, none⟩ = false := frozen_of_row X3 _ 8 _ _ kx8
      obtain ⟨X4, hX4⟩ : ∃ Y, X3.setCell ⟨W0.heap.size, 8, none⟩ (.slice a8 e.mn d8) = Y := ⟨_, rfl⟩
      have HK1 : Hid (X4.heap[W0.heap.size]? = some (.cells ({ e with ma := a8, mc := d8 } : Mk).cs.toArray 50 (0, 0))) := (show _ = _ from hX4 ▸ Mb.blk_set kx8 rfl)
      have HB1 : Hid (Below W0.heap.size W0 X4) := (show Below _ _ _ from hX4 ▸ ((bst HB0.out hb8).trans (kn (Mb.kset X3 _ 8 _ rfl) (Nat.le_refl _) (bst HB0.out hb8).size)))
      clear o8 kk8 hb8 kx8 HK0 hs8 c8
      have c9 : X4.cell? ⟨W0.heap.size, 9, none⟩ = some (.slice e.ta e.tn e.tc) := blk_cell HK1.out 9
      have hs9 : W0.heap.size ≤ X4.heap.size := HB1.out.size
      go_wp2_with (first | (at_builtin; refine app_I rfl _ _ rfl rfl (show OwI X4 W0.heap.size (.slice none 0 0) [] from ow_nil _ _ _ _) rfl (HT0.out.below HB1.out) (by simp only [List.length_nil]; omega) hs9 ?_) | fail)
      intro v9 X5 o9 kk9 _
      obtain ⟨a9, d9, hv9⟩ := ow_shape o9.out
      have hv9' : v9 = .slice a9 e.tn d9 := by simpa [hts] using hv9
      clear hv9
      subst hv9'
      have hb9 := kb kk9.out
      have kx9 := blk_on hb9 HK1.out
      have z9 : X5.cell? ⟨W0.heap.size, 9, none⟩ = some (.slice e.ta e.tn e.tc) := blk_cell kx9 9
      have y9 : X5.frozen? ⟨W0.heap.size, 9, none⟩ = false := frozen_of_row X5 _ 9 _ _ kx9
      obtain ⟨X6, hX6⟩ : ∃ Y, X5.setCell ⟨W0.heap.size, 9, none⟩ (.slice a9 e.tn d9) = Y := ⟨_, rfl⟩
      have HK2 : Hid (X6.heap[W0.heap.size]? = some (.cells ({ e with ma := a8, mc := d8, ta := a9, tc := d9 } : Mk).cs.toArray 50 (0, 0))) := (show _ = _ from hX6 ▸ Mb.blk_set kx9 rfl)
      have HB2 : Hid (Below W0.heap.size W0 X6) := (show Below _ _ _ from hX6 ▸ ((bst HB1.out hb9).trans (kn (Mb.kset X5 _ 9 _ rfl) (Nat.le_refl _) (bst HB1.out hb9).size)))
      clear o9 kk9 hb9 kx9 HK1 hs9 c9
      have c14 : X6.cell? ⟨W0.heap.size, 14, none⟩ = some (.slice e.ba e.bn e.bc) := blk_cell HK2.out 14
      have hs14 : W0.heap.size ≤ X6.heap.size := HB2.out.size
      go_wp2_with (first | (at_builtin; refine app_B rfl _ _ rfl rfl (show OwB X6 W0.heap.size (.slice none 0 0) [] from ow_nil _ _ _ _) rfl (HD0.out.still HB2.out) HDn.out (by simp only [List.length_nil]; omega) hs14 ?_) | fail)
      intro v14 X7 o14 kk14 _
      obtain ⟨a14, d14, hv14⟩ := ow_shape o14.out
      have hv14' : v14 = .slice a14 e.bn d14 := by simpa [hbs] using hv14
      clear hv14
      subst hv14'
      have hb14 := kb kk14.out
      have kx14 := blk_on hb14 HK2.out
      have z14 : X7.cell? ⟨W0.heap.size, 14, none⟩ = some (.slice e.ba e.bn e.bc) := blk_cell kx14 14
      have y14 : X7.frozen? ⟨W0.heap.size, 14, none⟩ = false := frozen_of_row X7 _ 14 _ _ kx14
      obtain ⟨X8, hX8⟩ : ∃ Y, X7.setCell ⟨W0.heap.size, 14, none⟩ (.slice a14 e.bn d14) = Y := ⟨_, rfl⟩
      have HK3 : Hid (X8.heap[W0.heap.size]? = some (.cells (lz2 e a8 d8 a9 d9 a14 d14).cs.toArray 50 (0, 0))) := (show _ = _ from hX8 ▸ Mb.blk_set kx14 rfl)
      have HB3 : Hid (Below W0.heap.size W0 X8) := (show Below _ _ _ from hX8 ▸ ((bst HB2.out hb14).trans (kn (Mb.kset X7 _ 14 _ rfl) (Nat.le_refl _) (bst HB2.out hb14).size)))
      clear o14 kk14 hb14 kx14 HK2 hs14 c14
      have HRg : Hid (X8.rangeAt W0.heap.size 0 (lz2 e a8 d8 a9 d9 a14 d14).cs) := Ln.blk_range HK3.out
      have HO8 : Hid (OwM X8 w.heap.size (.slice oa j oc) l2) := (show OwM _ _ _ _ from Mb.own_still hS.out.1 HB3.out)
      have hll : l2.length = j := hS.out.1.rd.len
      have hsw : w.heap.size ≤ X8.heap.size := Nat.le_trans hS.out.2.2.size HB3.out.size
      obtain ⟨e3, he3⟩ : ∃ x, lz2 e a8 d8 a9 d9 a14 d14 = x := ⟨_, rfl⟩
      have HO3 : Hid (Okm e3) := (show Okm _ from he3 ▸ HOe.out.lz2 _ _ _ _ _ _)
      rw [he3] at HRg
      clear HM0 HT0 HD0 HDn he3
      go_wp2_with (first | (refine Ln.at_load 50 (.tmp 5) rfl ?_; refine Ln.load_mid 50 (.tmp 5) HRg.out _ Try.underlying50 rfl (iMk e3) rfl rfl rfl ?_) | (refine Go.Great.wpList_buildSliceTo rfl 22 50 1 _ rfl X8.heap.size rfl _ rfl Try.underlying22 e3.cs.toArray (bsl_eq (by kernel_rfl) (builtMs _)) ?_) | (at_builtin; refine app_M rfl _ _ rfl rfl HO8.out e3 rfl rfl (by rw [hll]; omega) hsw ?_) | fail)
      intro v3 X9 o9 kk9
      obtain ⟨oa9, oc9, hv9⟩ := ow_shape o9.out
      rw [List.length_append, hll] at hv9
      have hv9' : v3 = .slice oa9 (j + 1) oc9 := hv9
      clear hv9
      subst hv9'
      have HS9 : Hid (OwM X9 w.heap.size (.slice oa9 (j + 1) oc9) (l2 ++ [e3]) ∧ (∀ e ∈ l2 ++ [e3], Okm e) ∧ Below w.heap.size w X9) := (show _ ∧ _ from ⟨o9.out, (fun x hx => by
        rcases List.mem_append.1 hx with hx | hx
        · exact hS.out.2.1 x hx
        · obtain rfl := List.mem_singleton.1 hx; exact HO3.out), (bst hS.out.2.2 HB3.out).trans (kk9.out.below hsw (fun q hq e => by have := (World.ownsRow.lt HO8.out q e).1; omega))⟩)
      clear o9 kk9 HO8 hS HRg HK3 HB0 HB1 HB2 HB3 hX4 hX6 hX8 z8 z9 z14 y8 y9 y14
      go_wp2_with fail
      go_roundw
      case rel => exact ⟨j + 1, oa9, oc9, l2 ++ [e3], by omega, by go_num, rfl, HS9⟩
      case measure => simp [intOf]; omega
    · obtain rfl : n = j := by omega
      go_wp2_with fail
      go_ret
      exact ⟨oa, oc, l2, rfl, hS.out.1, hS.out.2.1, hS.out.2.2⟩
end
end Go.Proofs.Ytfbgoidhgkcgjaa.Lo
