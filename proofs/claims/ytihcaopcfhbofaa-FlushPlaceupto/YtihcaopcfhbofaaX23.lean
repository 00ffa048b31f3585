import Derived.Test.YtihcaopcfhbofaaX22
namespace Go.Proofs.Ytihcaopcfhbofaa.Fm
open Go.RowKit Go.Maps Mb
set_option linter.unusedVariables false
set_option maxRecDepth 100000
set_option linter.unusedSimpArgs false
section
variable {w w' W : World} {B : Nat}
theorem res_slot2 {fn : Func} {p : Tmp} (h : fn.results = #[.cell p 70]) (tmps : Array Value) (w : World) (g : Nat) (L : List Value) (hL : L.length = 2)
    (hp : tmps.getD p undef = .pointer (some ⟨g, 0, none⟩)) (hg : w.rangeAt g 0 L) :
    (results fn tmps).run Try.prog w = .ok (.agg L.toArray) w := by
  have e : (results fn tmps).run Try.prog w = ((asAddr (tmps.getD p undef)).run Try.prog w).andThen fun a w₁ => (loadVar 70 a).run Try.prog w₁ := by
    simp only [results, h]
    simp [Sem.run_bind, Result.andThen]
  rw [e, hp]
  simp [asAddr, run_loadVar_mid w g 0 70 L _ hg Try.underlying70 rfl (by rw [hL]; exact info_slot)]
set_option maxHeartbeats 2000000 in
theorem slotOf_any (d : Dx) : Calls Try.prog 50 #[.agg d.cs.toArray] w fun e w' => e = .returned (.agg (slotV d.s).toArray) ∧ Below w.heap.size w w' := by
  generalize hW1 : w.alloc (.cells d.cs.toArray 37) = W1
  generalize hW2 : W1.alloc (.cells #[.int .i64 0, .int .i64 0] 70) = W2
  have b1 : Below w.heap.size w W1 := hW1 ▸ balloc (Below.refl _ _)
  have b2 : Below W1.heap.size W1 W2 := hW2 ▸ balloc (Below.refl _ _)
  have k1 : W1.heap[w.heap.size]? = some (.cells d.cs.toArray 37 (0, 0)) := by rw [← hW1]; exact heap_alloc_new w _
  have k2 : W2.heap[W1.heap.size]? = some (.cells #[.int .i64 0, .int .i64 0] 70 (0, 0)) := by rw [← hW2]; exact heap_alloc_new W1 _
  have HB : Hid (Below w.heap.size w W2) := bstep b1 b2
  have q0 : W2.cell? ⟨w.heap.size, 0, none⟩ = some (.int .i64 d.s.1) := below_at b2 (blk_cell k1 0)
  have q1 : W2.cell? ⟨w.heap.size, 1, none⟩ = some (.int .i64 d.s.2) := below_at b2 (blk_cell k1 1)
  have HK2 : Hid (W2.heap[W1.heap.size]? = some (.cells #[.int .i64 0, .int .i64 0] 70 (0, 0))) := k2
  have Hge : Hid (w.heap.size ≤ W1.heap.size) := b1.size
  clear b1 b2 k1 k2
  obtain ⟨⟨s1, s2⟩, st, ba, bc, bs⟩ := d
  simp only at q0 q1
  generalize (Dx.cs ⟨(s1, s2), st, ba, bc, bs⟩).toArray = pc at *
  go_enter Try.func50, Try.ntmps50
  go_wp2_with (first | (refine wl_st 70 (.tmp 2) (.tmp 7) rfl ?_) | fail)
  refine wl_store 70 (.tmp 2) (.tmp 7) (L := slotV (s1, s2)) (blk_there HK2.out rfl) info_slot (slotV_one _) rfl rfl rfl (by kernel_rfl) ?_
  simp only [Act.put, gA9, gZ9, gC9, sA9, sZ9, sC9]
  refine ⟨?_⟩
  have hs1 : (W2.setCells W1.heap.size 0 (slotV (s1, s2))).heap[W1.heap.size]? = some (.cells (slotV (s1, s2)).toArray 70 (0, 0)) := sets_whole HK2.out rfl
  have hs2 : Below w.heap.size w (W2.setCells W1.heap.size 0 (slotV (s1, s2))) := bsets Hge.out _ _ HB.out
  generalize W2.setCells W1.heap.size 0 (slotV (s1, s2)) = V3 at *
  go_wp2
  (try simp only [Exit.inBlock, Exit.then]); refine bodyPost_ret (res_slot2 rfl _ _ W1.heap.size (slotV (s1, s2)) rfl rfl (blk_range hs1)) rfl ?_
  exact ⟨rfl, hs2⟩
theorem MpS.mono {b m m' : Nat} {f : Int × Int → Option Int} (h : MpS w b m f) (hm : m ≤ m') : MpS w b m' f := by
  obtain ⟨D, h1, h2⟩ := h
  exact ⟨D, h1.mono hm, h2⟩
theorem MpS.put2 {b m : Nat} {f : Int × Int → Option Int} (h : MpS w b m f) (hm : m < 100000000) {s : Int × Int} (h1 : i64B s.1) (h2 : i64B s.2) {x : Int} (hx : i64B x) : ∃ w', (Instr.mapUpdate 73 (.map (some b)) (slV s) (.int .i64 x)).run Try.prog w = .ok () w' ∧ MpS w' b (m + 1) (updO f s x) ∧ Kept w w' (fun k => k = b) := by
  obtain ⟨D, hD, hf⟩ := h
  obtain ⟨w', hrun, hD', hg⟩ := hD.update lawS Try.underlying73 (by unfold maxLen; omega) (key_slot h1 h2) (plainElem_int Try.underlying3 (wf64 hx))
  refine ⟨w', hrun, ⟨_, hD', fun t t1 t2 => ?_⟩, (Kept.ofGrown hg).mono fun k _ hk => by cases hk; rfl⟩
  by_cases e : t = s
  · subst e
    rw [has_put_same hD.isMap (lawS.key (key_slot t1 t2)), atKey_put_same hD.isMap (lawS.key (key_slot t1 t2))]
    refine ⟨by simp [updO], fun y hy => ?_⟩
    simp [updO] at hy
    rw [hy]
  · have ne : klS t ≠ klS s := fun e2 => e (klS_inj ⟨t1, t2⟩ ⟨h1, h2⟩ e2)
    rw [has_put_other ne, atKey_put_other ne]
    simp only [updO, if_neg e]
    exact hf t t1 t2
def FpI (ds : List Dx) (j : Nat) (f : Int × Int → Option Int) : Prop := ∀ s, (f s = none → ∀ k, k < j → (ds.getD k dx0).s ≠ s) ∧ ∀ r, f s = some r → ∃ i : Nat, r = i ∧ i < j ∧ (ds.getD i dx0).s = s ∧ ∀ k, k < i → (ds.getD k dx0).s ≠ s
theorem FpI.nil (ds : List Dx) : FpI ds 0 (fun _ => none) := fun s => ⟨fun _ k hk => by omega, fun r h => by cases h⟩
theorem FpI.old {ds : List Dx} {j : Nat} {f : Int × Int → Option Int} (h : FpI ds j f) (hs : (f (ds.getD j dx0).s).isSome = true) : FpI ds (j + 1) f := fun s => ⟨fun hn k hk e => by
  by_cases ek : k = j
  · subst ek; rw [e, hn] at hs; cases hs
  · exact (h s).1 hn k (by omega) e, fun r hr => by
  obtain ⟨i, h1, h2, h3⟩ := (h s).2 r hr
  exact ⟨i, h1, by omega, h3⟩⟩
theorem FpI.new {ds : List Dx} {j : Nat} {f : Int × Int → Option Int} (h : FpI ds j f) (hs : f (ds.getD j dx0).s = none) : FpI ds (j + 1) (updO f (ds.getD j dx0).s (j : Int)) := fun s => by
  unfold updO
  by_cases e : s = (ds.getD j dx0).s
  · rw [if_pos e]
    refine ⟨(fun hn => by cases hn), fun r hr => ?_⟩
    cases hr
    exact ⟨j, rfl, by omega, e.symm, fun k hk => (h s).1 (by rw [e]; exact hs) k hk⟩
  · rw [if_neg e]
    refine ⟨fun hn k hk e2 => ?_, fun r hr => ?_⟩
    · by_cases ek : k = j
      · subst ek; exact e e2.symm
      · exact (h s).1 hn k (by omega) e2
    · obtain ⟨i, h1, h2, h3⟩ := (h s).2 r hr
      exact ⟨i, h1, by omega, h3⟩
set_option maxHeartbeats 4000000 in
theorem firstPlaces_any {ao : Option Addr} {cp : Nat} {ds : List Dx} (hr : RdDs w ao ds) (hn : ds.length ≤ 10000000) : Calls Try.prog 30 #[.slice ao ds.length cp] w fun e w' => ∃ b m f, e = .returned (.map (some b)) ∧ MpS w' b m f ∧ FpI ds ds.length f ∧ Below w.heap.size w w' := by
  have HR : Hid (RdDs w ao ds) := hr
  generalize hL : ds.length = L at *
  have HLe : Hid (ds.length = L) := hL
  clear hr hL
  generalize hW0 : w.alloc (.map #[] 0) = W0
  have B0 : Hid (Below w.heap.size w W0) := hW0 ▸ balloc (Below.refl _ _)
  have M0 : Hid (MpS W0 w.heap.size 0 (fun _ => none)) := hW0 ▸ MpS.made w
  have hmk := run_makeMap (P := Try.prog) 73 w
  rw [hW0] at hmk
  go_enter Try.func30, Try.ntmps30
  go_wp2
  clear hW0 hmk
  generalize hmb : w.heap.size = mb at *
  have Hmb : Hid (w.heap.size = mb) := hmb
  clear hmb
  go_loopw [11] (fun i wr => ∃ j : Nat, ∃ f, j ≤ L ∧ i = .int .i64 j ∧ FpI ds j f ∧ MpS wr mb j f ∧ Below mb w wr) (fun i _ => L - (intOf i).toNat)
  case atStart => exact ⟨0, _, Nat.zero_le _, rfl, FpI.nil ds, M0.out, B0.out⟩
  case round =>
    obtain ⟨j, f, hj, rfl, hk, hp, hb⟩ := hrel
    have HK : Hid (FpI ds j f) := hk
    have HP : Hid (MpS wr mb j f) := hp
    have HB : Hid (Below mb w wr) := hb
    have Hlb : Hid (mb < wr.heap.size) := hp.lt
    clear hk hp hb M0 B0
    by_cases hlt : j < L
    · have hrw := HR.out.still (show Below w.heap.size w wr from by rw [Hmb.out]; exact HB.out)
      obtain ⟨b, off, rfl, hc⟩ := hrw.at (i := j) (by rw [HLe.out]; exact hlt)
      have HC : Hid (wr.rangeAt b (off + j * 4) (ds.getD j dx0).cs) := hc
      have HS : Hid (i64B (ds.getD j dx0).s.1 ∧ i64B (ds.getD j dx0).s.2) := (hrw.el j (by rw [HLe.out]; exact hlt)).r
      have Hold : Hid ((f (ds.getD j dx0).s).isSome = true → FpI ds (j + 1) f) := HK.out.old
      have Hnew : Hid (f (ds.getD j dx0).s = none → FpI ds (j + 1) (updO f (ds.getD j dx0).s (j : Int))) := HK.out.new
      clear hrw hc
      have i1 : (0 : Int) ≤ (j : Int) := Int.natCast_nonneg _
      have i2 : (j : Int) < (L : Int) := by omega
      generalize ds.getD j dx0 = d at *
      have Hd4 : Hid (d.cs.length = 4) := rfl
      have HSl : Hid (∀ W : World, Calls Try.prog 50 #[.agg d.cs.toArray] W fun e w' => e = .returned (.agg (slotV d.s).toArray) ∧ Below W.heap.size W w') := fun W => slotOf_any d
      go_wp2_with (first
        | (refine load_mid 37 (.tmp 14) HC.out _ Try.underlying37 rfl (by rw [Hd4.out]; exact info_data) rfl rfl rfl ?_)
        | (refine wl_st 37 (.tmp 5) (.tmp 15) rfl ?_)
        | fail)
      refine wl_store 37 (.tmp 5) (.tmp 15) (L := d.cs) (new_there _ _ _ rfl) info_data (dxcs_one _) rfl rfl rfl (by kernel_rfl) ?_
      simp only [Act.put, gA9, gZ9, gC9, sA9, sZ9, sC9]
      refine ⟨?_⟩
      obtain ⟨hn1, hn2⟩ := newvar wr 37 #[.int .i64 0, .int .i64 0, .int .i64 0, .slice none 0 0] (d.cs) rfl
      have HBn : Hid (Below mb w ((wr.alloc (.cells #[.int .i64 0, .int .i64 0, .int .i64 0, .slice none 0 0] 37)).setCells wr.heap.size 0 (d.cs))) := HB.out.trans (hn1.mono (Nat.le_of_lt Hlb.out))
      have HPn : Hid (MpS ((wr.alloc (.cells #[.int .i64 0, .int .i64 0, .int .i64 0, .slice none 0 0] 37)).setCells wr.heap.size 0 (d.cs)) mb j f) := HP.out.still hn1
      have Hv5 : Hid (((wr.alloc (.cells #[.int .i64 0, .int .i64 0, .int .i64 0, .slice none 0 0] 37)).setCells wr.heap.size 0 (d.cs)).heap[wr.heap.size]? = some (.cells (d.cs).toArray 37 (0, 0))) := hn2
      have Hn1 : Hid (Below wr.heap.size wr ((wr.alloc (.cells #[.int .i64 0, .int .i64 0, .int .i64 0, .slice none 0 0] 37)).setCells wr.heap.size 0 (d.cs))) := hn1
      clear hn1 hn2 HB HP
      generalize (wr.alloc (.cells #[.int .i64 0, .int .i64 0, .int .i64 0, .slice none 0 0] 37)).setCells wr.heap.size 0 (d.cs) = V at *
      generalize hvb : wr.heap.size = v5 at *
      have Hvbv5 : Hid (wr.heap.size = v5) := hvb
      clear hvb
      have HB := HBn
      clear HBn
      have HP := HPn
      clear HPn
      clear HC Hn1
      go_wp2_with (first | (refine wl_at 18 rfl ?_) | fail)
      refine wl_load 37 (.tmp 5) (blk_range Hv5.out) _ Try.underlying37 rfl (by rw [Hd4.out]; exact info_data) rfl rfl (by kernel_rfl) ?_
      simp only [Act.put, gA9, gZ9, gC9, sA9, sZ9, sC9]
      refine wl_step (by kernel_rfl) fun K hK => ?_
      go_simp
      refine (HSl.out _).mono ?_
      rintro e V2 ⟨rfl, hb2⟩
      refine hK _ _ ?_
      clear hK K
      try (simp only [Act.put, gA9, gZ9, gC9, sA9, sZ9, sC9])
      have HP2 : Hid (MpS V2 mb j f) := HP.out.still hb2
      have HB2 : Hid (Below mb w V2) := HB.out.trans (hb2.mono (Nat.le_of_lt HP.out.lt))
      have Hv52 : Hid (V2.heap[v5]? = some (.cells d.cs.toArray 37 (0, 0))) := (hb2.block _ (lt_heap Hv5.out)).trans Hv5.out
      clear hb2 HP HB Hv5
      have HLk : Hid ((Instr.lookup 73 (.map (some mb)) (.agg (slotV d.s).toArray) true).run Try.prog V2 = .ok (.tuple #[.int .i64 ((f d.s).getD 0), .bool (f d.s).isSome]) V2) := HP2.out.look HS.out.1 HS.out.2
      generalize (f d.s).getD 0 = fv at HLk
      cases hA : (f d.s).isSome with
      | true =>
        have Hnx : Hid (FpI ds (j + 1) f) := Hold.out hA
        rw [hA] at HLk
        clear hA
        refine wl_look 73 (.tmp 17) (.tmp 19) true HLk.out rfl rfl rfl (by kernel_rfl) ?_
        simp only [Act.put, gA9, gZ9, gC9, sA9, sZ9, sC9]
        refine wl_take (v := ?_) (by kernel_rfl) (by go_simp; exact rfl) ?_
        simp only [Act.put, gA9, gZ9, gC9, sA9, sZ9, sC9]
        refine wl_take (v := ?_) (by kernel_rfl) (by go_simp; exact rfl) ?_
        simp only [Act.put, gA9, gZ9, gC9, sA9, sZ9, sC9]
        refine wl_take (v := ?_) (by kernel_rfl) (by go_simp; exact rfl) ?_
        simp only [Act.put, gA9, gZ9, gC9, sA9, sZ9, sC9]
        refine wl_take (v := ?_) (by kernel_rfl) (by go_simp; exact rfl) ?_
        simp only [Act.put, gA9, gZ9, gC9, sA9, sZ9, sC9]
        refine wl_take (v := ?_) (by kernel_rfl) (by go_simp; exact rfl) ?_
        simp only [Act.put, gA9, gZ9, gC9, sA9, sZ9, sC9]
        refine ⟨?_⟩
        go_wp2
        exact ⟨⟨j + 1, f, by omega, by go_num, Hnx.out, HP2.out.mono (by omega), HB2.out⟩, by simp [intOf]; omega⟩
      | false =>
        have hnone : f d.s = none := by
          cases hq : f d.s with
          | none => rfl
          | some y => rw [hq] at hA; cases hA
        have Hnx : Hid (FpI ds (j + 1) (updO f d.s (j : Int))) := Hnew.out hnone
        rw [hA] at HLk
        clear hA hnone
        refine wl_look 73 (.tmp 17) (.tmp 19) true HLk.out rfl rfl rfl (by kernel_rfl) ?_
        simp only [Act.put, gA9, gZ9, gC9, sA9, sZ9, sC9]
        refine wl_take (v := ?_) (by kernel_rfl) (by go_simp; exact rfl) ?_
        simp only [Act.put, gA9, gZ9, gC9, sA9, sZ9, sC9]
        refine wl_take (v := ?_) (by kernel_rfl) (by go_simp; exact rfl) ?_
        simp only [Act.put, gA9, gZ9, gC9, sA9, sZ9, sC9]
        refine wl_take (v := ?_) (by kernel_rfl) (by go_simp; exact rfl) ?_
        simp only [Act.put, gA9, gZ9, gC9, sA9, sZ9, sC9]
        refine wl_take (v := ?_) (by kernel_rfl) (by go_simp; exact rfl) ?_
        simp only [Act.put, gA9, gZ9, gC9, sA9, sZ9, sC9]
        refine wl_take (v := ?_) (by kernel_rfl) (by go_simp; exact rfl) ?_
        simp only [Act.put, gA9, gZ9, gC9, sA9, sZ9, sC9]
        refine ⟨?_⟩
        go_wp2_with (first | (refine wl_at 26 rfl ?_) | fail)
        refine wl_load 37 (.tmp 5) (blk_range Hv52.out) _ Try.underlying37 rfl (by rw [Hd4.out]; exact info_data) rfl rfl (by kernel_rfl) ?_
        simp only [Act.put, gA9, gZ9, gC9, sA9, sZ9, sC9]
        refine wl_step (by kernel_rfl) fun K hK => ?_
        go_simp
        refine (HSl.out _).mono ?_
        rintro e V3 ⟨rfl, hb3⟩
        refine hK _ _ ?_
        clear hK K
        try (simp only [Act.put, gA9, gZ9, gC9, sA9, sZ9, sC9])
        refine wl_take (v := ?_) (by kernel_rfl) (by go_simp; exact rfl) ?_
        simp only [Act.put, gA9, gZ9, gC9, sA9, sZ9, sC9]
        have hP3 := HP2.out.still hb3
        obtain ⟨V4, hput, hP4, hK4⟩ := hP3.put2 (by omega) (s := d.s) HS.out.1 HS.out.2 (x := (j : Int)) (by unfold i64B; omega)
        refine wl_put 73 (.tmp 25) (.tmp 27) (.tmp 28) (kv := slV d.s) hput rfl rfl rfl rfl (by kernel_rfl) ?_
        simp only [Act.put, gA9, gZ9, gC9, sA9, sZ9, sC9]
        refine ⟨?_⟩
        have HP4 : Hid (MpS V4 mb (j + 1) (updO f d.s j)) := hP4
        have HB3 : Below mb w V3 := HB2.out.trans (hb3.mono (Nat.le_of_lt HP2.out.lt))
        have HB4 : Hid (Below mb w V4) := HB3.trans (hK4.below (Nat.le_of_lt hP3.lt) (fun k hk e => by omega))
        clear hput hP4 hK4 hP3 HB3 hb3
        go_wp2
        exact ⟨⟨j + 1, updO f d.s j, by omega, by go_num, Hnx.out, HP4.out, HB4.out⟩, by simp [intOf]; omega⟩
    · obtain rfl : L = j := by omega
      go_wp2
      go_ret
      exact ⟨mb, _, f, rfl, HP.out, HK.out, by rw [Hmb.out]; exact HB.out⟩
end
end Go.Proofs.Ytihcaopcfhbofaa.Fm
