import Derived.Test.YtfbgoidhgkcgjaaAvh
namespace Go.Proofs.Ytfbgoidhgkcgjaa.Lo
open Go.RowKit Go.Maps
set_option linter.unusedVariables false
set_option linter.unusedSimpArgs false
section
variable {w w' W : World} {B : Nat} {P : Nat → Prop}
def okR (u : Nat) : Prop := u ≠ 50 ∧ u ≠ 52 ∧ u ≠ 3 ∧ u ≠ 5
structure Rz (wr : World) (B mbk g6 c6 g7 c7 g8 c8 : Nat) (e e' : Mk) : Prop where
  k : wr.heap[mbk]? = some (.cells e'.cs.toArray 50 (0, 0))
  m : wr.ownsRow B 52 3 (.slice (some ⟨g6, 0, none⟩) (e.mn + 64) c6) (e.mn + 64) (Mb.ints (pcQ e.ms 64))
  t : wr.ownsRow B 3 1 (.slice (some ⟨g7, 0, none⟩) (e.tn + 64) c7) (e.tn + 64) (Mb.ints (pcL e.ts 64))
  b : wr.ownsRow B 5 1 (.slice (some ⟨g8, 0, none⟩) (e.bn + 64) c8) (e.bn + 64) (Ln.byts (pcB e.bs 64))
theorem Rz.keep {wr : World} {mbk g6 c6 g7 c7 g8 c8 : Nat} {e e' : Mk} (h : Rz wr B mbk g6 c6 g7 c7 g8 c8 e e') (k : Mb.Kept wr w' P) (hP : ∀ q, P q → ∃ C u, wr.heap[q]? = some (.cells C u (0, 0)) ∧ okR u) : Rz w' B mbk g6 c6 g7 c7 g8 c8 e e' := by
  have ow : ∀ {t s n : Nat} {v : Value} {xs : List Value}, wr.ownsRow B t s v n xs → (∀ u, okR u → u ≠ t) → w'.ownsRow B t s v n xs := fun h1 h2 => k.owns h1 (fun g hg hp => by
    obtain ⟨C, u, hC, hu⟩ := hP g hp
    exact h2 u hu (ow_type h1 hg hC))
  refine ⟨k.obj h.k (fun hp => ?_), ow h.m (fun u hu => hu.2.1), ow h.t (fun u hu => hu.2.2.1), ow h.b (fun u hu => hu.2.2.2)⟩
  obtain ⟨C, u, hC, hu⟩ := hP _ hp
  rw [h.k] at hC
  simp at hC
  exact hu.1 hC.2.symm
theorem ow_cap {B t s n n' c : Nat} {a : Option Addr} {l : List Value} (h : w.ownsRow B t s (.slice a n c) n' l) : n ≤ c := by
  rcases h.2 with ⟨e, e0⟩ | ⟨g, cap, cur, e, _, _, hc, _⟩
  · simp only [Value.slice.injEq] at e; omega
  · simp only [Value.slice.injEq] at e; omega
theorem ow_some {B t s n c : Nat} {a : Option Addr} {l : List Value} (h : w.ownsRow B t s (.slice a n c) n l) (hn : 0 < n) : ∃ g, a = some ⟨g, 0, none⟩ := by
  rcases h.2 with ⟨e, e0⟩ | ⟨g, cap, cur, e, _⟩
  · omega
  · simp only [Value.slice.injEq] at e; exact ⟨g, e.1⟩
theorem step_bsl {ops : Array Oper} {o : Oper} {a : Act} {K : Act → World → Prop} {Q : Exit → Act → World → Prop} {E : Prop} (hgd : o.guard = none) (t e : TypeId) (len : Nat) (parts : Array (Nat × Operand)) (ho : o.op = .buildSlice t len parts) (hu : Try.prog.underlying t = some (.slice e)) (cells : Array Value)
    (hf : Try.prog.builtSlice e len (parts.map fun (i, x) => (i, a.eval x)).toList = some cells)
    (h : ∀ V : World, w.alloc (.cells cells e) = V → K (a.put o.dst (.slice (some ⟨w.heap.size, 0, none⟩) len len)) V) : if Region.wanted o (yielded ops a.tmps) = true then Oper.wp Try.prog o a w K Q else E := by
  have hwt : Region.wanted o (yielded ops a.tmps) = true := by simp [Region.wanted, hgd]
  rw [if_pos hwt]
  unfold Program.builtSlice at hf
  cases hie : Try.prog.info? e with
  | none => simp [hie] at hf
  | some ie =>
    simp only [hie] at hf
    cases hz : ie.zero with
    | none => simp [hz] at hf
    | some z =>
      simp only [hz] at hf
      by_cases hc : len * ie.size > 2 ^ 24 ∨ len * ie.size = 0
      · simp [hc] at hf
      · rw [if_neg hc] at hf
        exact wp_buildSlice t e len parts ho cells ie z hu hie hz (fun h' => hc (Or.inl h')) (fun h' => hc (Or.inr h')) hf (h _ rfl)
theorem Lz.setm {W wr : World} {B xb : Nat} {l : List Mk} {n0 n1 n2 n3 : Nat} {La : Option Addr} {Lc : Nat} {Ma : Option Addr} {Mc : Nat} {Ta : Option Addr} {Tc : Nat} {Ba : Option Addr} {Bc : Nat} {l' : List Mk} {gm gt gb : Nat → Nat × Nat} (h : Lz W wr B xb l n0 n1 n2 n3 La Lc Ma Mc Ta Tc Ba Bc l' gm gt gb) {mbk i : Nat} {v : Value} {C : Array Value} (hk : wr.heap[mbk]? = some (.cells C 50 (0, 0))) (hlo : ∀ q, (Value.slice La n0 Lc).ownBlock = some q → q < mbk) (hBm : B ≤ mbk) : Lz W (wr.setCell ⟨mbk, i, none⟩ v) B xb l n0 n1 n2 n3 La Lc Ma Mc Ta Tc Ba Bc l' gm gt gb := by
  have k8 : Mb.Kept wr (wr.setCell ⟨mbk, i, none⟩ v) (fun q => q = mbk) := Mb.kset wr mbk _ _ rfl
  have fo : ∀ {t s m : Nat} {gs : Nat → Nat × Nat} {ln : Nat → Nat} {cs : Nat → List Value}, Fo wr B t s gs ln cs m → 50 ≠ t → Fo (wr.setCell ⟨mbk, i, none⟩ v) B t s gs ln cs m := fun h1 h3 => h1.keep k8 (fun q hq C u hC => by have hq' : q = mbk := hq; subst hq'; rw [hk] at hC; simp at hC; rw [← hC.2]; exact h3)
  refine ⟨k8.obj h.t (fun e => ?_), k8.owns h.o (fun g hg e => by have e' : g = mbk := e; have := hlo g hg; omega), ow_ne h.m hk (by decide) k8, ow_ne h.r hk (by decide) k8, ow_ne h.y hk (by decide) k8, fo h.fm (by decide), fo h.ft (by decide), fo h.fb (by decide), h.s, h.b.trans (kn k8 hBm (hBs h)), h.z⟩
  have e' : xb = mbk := e
  subst e'
  have := h.t
  rw [hk] at this
  simp at this
theorem Rz.setm {wr : World} {mbk g6 c6 g7 c7 g8 c8 i : Nat} {e e1 e2 : Mk} {v : Value} (h : Rz wr B mbk g6 c6 g7 c7 g8 c8 e e1) (he : e1.cs.toArray.setIfInBounds i v = e2.cs.toArray) : Rz (wr.setCell ⟨mbk, i, none⟩ v) B mbk g6 c6 g7 c7 g8 c8 e e2 := by
  have k8 : Mb.Kept wr (wr.setCell ⟨mbk, i, none⟩ v) (fun q => q = mbk) := Mb.kset wr mbk _ _ rfl
  exact ⟨Mb.blk_set h.k he, ow_ne h.m h.k (by decide) k8, ow_ne h.t h.k (by decide) k8, ow_ne h.b h.k (by decide) k8⟩
set_option maxRecDepth 100000 in
set_option maxHeartbeats 8000000 in
theorem loose_any (la : Option Addr) (n lc : Nat) (l : List Mk) (w : World) (hr : MkF w la n l) : Calls Try.prog 4 #[.slice la n lc] w fun r w' => ∃ xb, r = .returned (.pointer (some ⟨xb, 0, none⟩)) ∧ ∃ (La : Option Addr) (Lc : Nat) (Ma : Option Addr) (Mc : Nat) (Ta : Option Addr) (Tc : Nat) (Ba : Option Addr) (Bc : Nat) (l' : List Mk) (gm gt gb : Nat → Nat × Nat), Lz w w' w.heap.size xb l n n n n La Lc Ma Mc Ta Tc Ba Bc l' gm gt gb := by
  have hln : l.length = n := hr.r.len
  have HF : Hid (MkF w la n l) := hr
  have hz := hr.z
  have H0 : Hid (∃ (La : Option Addr) (Lc : Nat) (Ma : Option Addr) (Mc : Nat) (Ta : Option Addr) (Tc : Nat) (Ba : Option Addr) (Bc : Nat) (l' : List Mk) (gm gt gb : Nat → Nat × Nat), Lz w (w.alloc (.cells #[.slice none 0 0, .slice none 0 0, .slice none 0 0, .slice none 0 0] 34)) w.heap.size w.heap.size l 0 0 0 0 La Lc Ma Mc Ta Tc Ba Bc l' gm gt gb) := (show ∃ _, _ from
    ⟨none, 0, none, 0, none, 0, none, 0, [], fun _ => (0, 0), fun _ => (0, 0), fun _ => (0, 0), heap_new _ _ _, ow_nil _ _ _ _, ow_nil _ _ _ _, ow_nil _ _ _ _, ow_nil _ _ _ _, fun i hi => by omega, fun i hi => by omega, fun i hi => by omega, fun i hi => by omega, bsp _ _ _, Nat.le_refl _⟩)
  clear hr
  go_enter Try.func4, Try.ntmps4
  go_wp2_with fail
  generalize hB : w.heap.size = B at *
  generalize w.alloc (.cells #[.slice none 0 0, .slice none 0 0, .slice none 0 0, .slice none 0 0] 34) = V0 at *
  go_loopw [4] (fun x wr => ∃ (j : Nat), j ≤ n ∧ x = .int .i64 j ∧ Hid (∃ (La : Option Addr) (Lc : Nat) (Ma : Option Addr) (Mc : Nat) (Ta : Option Addr) (Tc : Nat) (Ba : Option Addr) (Bc : Nat) (l' : List Mk) (gm gt gb : Nat → Nat × Nat), Lz w wr B B l j j j j La Lc Ma Mc Ta Tc Ba Bc l' gm gt gb)) (fun x _ => n - (intOf x).toNat)
  case atStart => exact ⟨0, Nat.zero_le _, rfl, H0⟩
  case round =>
    obtain ⟨j, hj, rfl, hS⟩ := hrel
    by_cases hjn : j < n
    · obtain ⟨La, Lc, Ma, Mc, Ta, Tc, Ba, Bc, l', gm, gt, gb, hL⟩ := hS.out
      obtain ⟨W0, hW0⟩ : ∃ W0, W0 = wr := ⟨_, rfl⟩
      subst hW0
      have HL : Hid (Lz w W0 B B l j j j j La Lc Ma Mc Ta Tc Ba Bc l' gm gt gb) := hL
      have j1 : (0 : Int) ≤ (j : Int) := Int.natCast_nonneg _
      have j3 : (j : Int) < (n : Int) := by omega
      rcases HF.out.r.row with h0 | ⟨eb, eo, hla, hrow⟩
      · omega
      subst hla
      have hbw : Below w.heap.size w W0 := by rw [hB]; exact hL.b
      have HEV : Hid (W0.rangeAt eb (eo + j * 26) (l.getD j mk0).cs) := (show W0.rangeAt _ _ _ from range_on (hrow j hjn) hbw)
      have HEw : Hid (w.rangeAt eb (eo + j * 26) (l.getD j mk0).cs) := (show World.rangeAt _ _ _ _ from hrow j hjn)
      have hM := (HF.out.on hbw).m j hjn
      have hT := (HF.out.on hbw).t j hjn
      have hD := (HF.out.on hbw).b j hjn
      have HLo : Hid (∀ q, (Value.slice La j Lc).ownBlock = some q → q < W0.heap.size) := (show ∀ q, _ from fun q hq => (World.ownsRow.lt hL.o q hq).2)
      have hBw : B ≤ W0.heap.size := hBs hL
      obtain ⟨e, he⟩ : ∃ e, l.getD j mk0 = e := ⟨_, rfl⟩
      rw [he] at HEV HEw hM hT hD
      have He : Hid (l.getD j mk0 = e) := he
      obtain ⟨hM1, hM2⟩ := hM
      obtain ⟨hT1, hT2⟩ := hT
      obtain ⟨hD1, hD2, hD3⟩ := hD
      have hms : e.ms.length = e.mn * 3 := hM1.len
      have hts : e.ts.length = e.tn := hT1.1
      have hbs : e.bs.length = e.bn := hD1.len
      have HDn : Hid (e.ba = none → e.bn = 0 ∧ e.bc = 0) := hD2
      have HDb : Hid (Ln.By e.bs) := hD1.by_
      clear hrow hbw hL hS he
      go_wp2_with (first | (refine Ln.at_load 50 (.tmp 20) rfl ?_; refine Ln.load_mid 50 (.tmp 20) HEV.out _ Try.underlying50 rfl (iMk e) rfl rfl rfl ?_) | (refine wl_allocZ rfl 50 rfl zMk ?_) | fail)
      intro X1 kx1 bx1 sx1
      go_wp2_with (first | (refine Ln.at_store 50 _ _ rfl ?_; refine wl_storeZ rfl 50 _ _ rfl (L := e.cs) rfl rfl kx1 (iMk e) rfl (Mk.one e) ?_) | fail)
      intro X2 kx2 kkx2
      have bb2 : Below W0.heap.size W0 X2 := bx1.trans (kn kkx2 (Nat.le_refl _) bx1.size)
      have HB2 : Hid (Below W0.heap.size W0 X2) := bb2
      have HX2 : Hid (X2.heap[W0.heap.size]? = some (.cells e.cs.toArray 50 (0, 0))) := kx2
      have c8 : X2.cell? ⟨W0.heap.size, 8, none⟩ = some (.slice e.ma e.mn e.mc) := blk_cell kx2 8
      have HM2 : Hid (RdM X2 e.ma e.mn e.mc e.ms) := hM1.on bb2
      have HT2 : Hid (Ri X2 e.ta e.tn e.tc e.ts) := hT1.below bb2
      have HD2 : Hid (Ln.Rd X2 e.ba e.bn e.bc e.bs) := hD1.still bb2
      have hs2 : W0.heap.size ≤ X2.heap.size := bb2.size
      clear kx1 bx1 sx1 kkx2 bb2 kx2 hM1 hT1 hD1 hD2
      go_wp2_with (first | (at_builtin; refine app_Q rfl _ _ rfl rfl (show OwQ X2 W0.heap.size (.slice none 0 0) 0 [] from ow_nil _ _ _ _) rfl HM2.out (by omega) hs2 ?_) | fail)
      intro v6 X3 o6 kk6
      have o6' : OwQ X3 W0.heap.size v6 e.mn (pcQ e.ms 0) := by have := o6.out; simpa [pcQ] using this
      have hb23 := kb kk6.out
      have kx3 := blk_on hb23 HX2.out
      have c9 : X3.cell? ⟨W0.heap.size, 9, none⟩ = some (.slice e.ta e.tn e.tc) := blk_cell kx3 9
      have HX3 : Hid (X3.heap[W0.heap.size]? = some (.cells e.cs.toArray 50 (0, 0))) := kx3
      have HB3 : Hid (Below W0.heap.size W0 X3) := bst HB2.out hb23
      have HT3 : Hid (Ri X3 e.ta e.tn e.tc e.ts) := HT2.out.below hb23
      have HD3 : Hid (Ln.Rd X3 e.ba e.bn e.bc e.bs) := HD2.out.still hb23
      have HQ3 : Hid (OwQ X3 W0.heap.size v6 e.mn (pcQ e.ms 0)) := o6'
      have hs3 : W0.heap.size ≤ X3.heap.size := HB3.out.size
      clear o6 kk6 o6' hb23 kx3 c8 HX2 HB2 HM2 HT2 HD2 hs2
      go_wp2_with (first | (at_builtin; refine app_I rfl _ _ rfl rfl (show OwI X3 W0.heap.size (.slice none 0 0) [] from ow_nil _ _ _ _) rfl HT3.out (by simp only [List.length_nil]; omega) hs3 ?_) | fail)
      intro v7 X4 o7 kk7 _
      have o7' : OwI X4 W0.heap.size v7 (pcL e.ts 0) := by simpa [pcL] using o7.out
      have hb34 := kb kk7.out
      have kx4 := blk_on hb34 HX3.out
      have c14 : X4.cell? ⟨W0.heap.size, 14, none⟩ = some (.slice e.ba e.bn e.bc) := blk_cell kx4 14
      have HX4 : Hid (X4.heap[W0.heap.size]? = some (.cells e.cs.toArray 50 (0, 0))) := kx4
      have HB4 : Hid (Below W0.heap.size W0 X4) := bst HB3.out hb34
      have HD4 : Hid (Ln.Rd X4 e.ba e.bn e.bc e.bs) := HD3.out.still hb34
      have HQ4 : Hid (OwQ X4 W0.heap.size v6 e.mn (pcQ e.ms 0)) := (show OwQ _ _ _ _ _ from Mb.own_still HQ3.out hb34)
      have HI4 : Hid (OwI X4 W0.heap.size v7 (pcL e.ts 0)) := o7'
      have hs4 : W0.heap.size ≤ X4.heap.size := HB4.out.size
      clear o7 kk7 o7' hb34 kx4 c9 HX3 HB3 HT3 HD3 hs3 HQ3
      go_wp2_with (first | (at_builtin; refine app_B rfl _ _ rfl rfl (show OwB X4 W0.heap.size (.slice none 0 0) [] from ow_nil _ _ _ _) rfl HD4.out HDn.out (by simp only [List.length_nil]; omega) hs4 ?_) | fail)
      intro v8 X5 o8 kk8 _
      have o8' : OwB X5 W0.heap.size v8 (pcB e.bs 0) := by simpa [pcB] using o8.out
      have hb45 := kb kk8.out
      obtain ⟨a6, c6, hv6⟩ := ow_shape HQ4.out
      obtain ⟨a7, c7, hv7⟩ := ow_shape HI4.out
      obtain ⟨a8, c8', hv8⟩ := ow_shape o8'
      subst hv6 hv7 hv8
      have HS5 : Hid (OwQ X5 W0.heap.size (.slice a6 (e.mn + 0) c6) (e.mn + 0) (pcQ e.ms 0) ∧ OwI X5 W0.heap.size (.slice a7 (pcL e.ts 0).length c7) (pcL e.ts 0) ∧ OwB X5 W0.heap.size (.slice a8 (pcB e.bs 0).length c8') (pcB e.bs 0) ∧ X5.heap[W0.heap.size]? = some (.cells e.cs.toArray 50 (0, 0)) ∧ Below W0.heap.size W0 X5) := (show _ ∧ _ from ⟨Mb.own_still HQ4.out hb45, Mb.own_still HI4.out hb45, o8', blk_on hb45 HX4.out, bst HB4.out hb45⟩)
      clear o8 kk8 o8' hb45 c14 HX4 HB4 HD4 HQ4 HI4 hs4
      go_wp2_with fail
      go_loopw [6, 7, 8, 9] (fun v6 v7 v8 v9 wx => ∃ (k : Nat) (a6 : Option Addr) (c6 : Nat) (a7 : Option Addr) (c7 : Nat) (a8 : Option Addr) (c8 : Nat), k ≤ 64 ∧ v9 = .int .i64 k ∧ v6 = .slice a6 (e.mn + k) c6 ∧ v7 = .slice a7 (pcL e.ts k).length c7 ∧ v8 = .slice a8 (pcB e.bs k).length c8 ∧ Hid (OwQ wx W0.heap.size (.slice a6 (e.mn + k) c6) (e.mn + k) (pcQ e.ms k) ∧ OwI wx W0.heap.size (.slice a7 (pcL e.ts k).length c7) (pcL e.ts k) ∧ OwB wx W0.heap.size (.slice a8 (pcB e.bs k).length c8) (pcB e.bs k) ∧ wx.heap[W0.heap.size]? = some (.cells e.cs.toArray 50 (0, 0)) ∧ Below W0.heap.size W0 wx)) (fun _ _ _ v9 _ => 64 - (intOf v9).toNat)
      case atStart => exact ⟨0, a6, c6, a7, c7, a8, c8', Nat.zero_le _, rfl, rfl, rfl, rfl, HS5⟩
      case round =>
        obtain ⟨k, a6, c6, a7, c7, a8, c8, hk, rfl, rfl, rfl, rfl, hI⟩ := hrel
        by_cases hk64 : k < 64
        · have k1 : (0 : Int) ≤ (k : Int) := Int.natCast_nonneg _
          have k3 : (k : Int) < 64 := by omega
          have hsr : W0.heap.size ≤ wr.heap.size := hI.out.2.2.2.2.size
          go_wp2_with (first | (refine Go.Great.wpList_buildSliceTo rfl 44 52 1 _ rfl wr.heap.size rfl _ rfl Try.underlying44 #[.int .i64 (-7 - (k : Int)), .int .i64 0, .int .i64 0] (bsl_eq (by kernel_rfl) (builtQs _)) ?_) | (at_builtin; refine app_Q1 rfl _ _ rfl rfl hI.out.1 (-7 - (k : Int)) rfl rfl (by omega) hsr ?_) | fail)
          intro v6 Y1 o6 kk6
          obtain ⟨b6, d6, hv6⟩ := ow_shape o6.out
          subst hv6
          have H1 : Hid (OwQ Y1 W0.heap.size (.slice b6 (e.mn + k + 1) d6) (e.mn + k + 1) (pcQ e.ms (k + 1)) ∧ OwI Y1 W0.heap.size (.slice a7 (pcL e.ts k).length c7) (pcL e.ts k) ∧ OwB Y1 W0.heap.size (.slice a8 (pcB e.bs k).length c8) (pcB e.bs k) ∧ Y1.heap[W0.heap.size]? = some (.cells e.cs.toArray 50 (0, 0)) ∧ Below W0.heap.size W0 Y1) := (show _ ∧ _ from ⟨by rw [pcQ_succ]; exact o6.out, ow_app hI.out.2.1 hI.out.1 (by decide) kk6.out, ow_app hI.out.2.2.1 hI.out.1 (by decide) kk6.out, blk_app hI.out.2.2.2.1 hI.out.1 (by decide) kk6.out, hI.out.2.2.2.2.trans (kk6.out.below hsr (fun q hq e => by have := (World.ownsRow.lt hI.out.1 q e).1; omega))⟩)
          have hs1 : W0.heap.size ≤ Y1.heap.size := H1.out.2.2.2.2.size
          clear o6 kk6 hI hsr
          go_wp2_with (first | (at_builtin; refine app_I1 rfl _ _ rfl rfl H1.out.2.1 ((-7 : Int) - (k : Int)) rfl rfl (by rw [pcL_len]; omega) hs1 ?_) | fail)
          intro v7 Y2 o7 kk7 _
          have o7' : OwI Y2 W0.heap.size v7 (pcL e.ts (k + 1)) := by rw [pcL_succ]; exact o7.out
          obtain ⟨b7, d7, hv7⟩ := ow_shape o7'
          subst hv7
          have H2 : Hid (OwQ Y2 W0.heap.size (.slice b6 (e.mn + k + 1) d6) (e.mn + k + 1) (pcQ e.ms (k + 1)) ∧ OwI Y2 W0.heap.size (.slice b7 (pcL e.ts (k + 1)).length d7) (pcL e.ts (k + 1)) ∧ OwB Y2 W0.heap.size (.slice a8 (pcB e.bs k).length c8) (pcB e.bs k) ∧ Y2.heap[W0.heap.size]? = some (.cells e.cs.toArray 50 (0, 0)) ∧ Below W0.heap.size W0 Y2) := (show _ ∧ _ from ⟨ow_app H1.out.1 H1.out.2.1 (by decide) kk7.out, o7', ow_app H1.out.2.2.1 H1.out.2.1 (by decide) kk7.out, blk_app H1.out.2.2.2.1 H1.out.2.1 (by decide) kk7.out, H1.out.2.2.2.2.trans (kk7.out.below hs1 (fun q hq e => by have := (World.ownsRow.lt H1.out.2.1 q e).1; omega))⟩)
          have hs2 : W0.heap.size ≤ Y2.heap.size := H2.out.2.2.2.2.size
          clear o7 kk7 o7' H1 hs1
          go_wp2_with (first | (at_builtin; refine app_B1 rfl _ _ rfl rfl H2.out.2.2.1 (200 - (k : Int)) (by omega) rfl rfl (by rw [pcB_len]; omega) hs2 ?_) | fail)
          intro v8 Y3 o8 kk8
          have o8' : OwB Y3 W0.heap.size v8 (pcB e.bs (k + 1)) := by rw [pcB_succ]; exact o8.out
          obtain ⟨b8, d8, hv8⟩ := ow_shape o8'
          subst hv8
          have H3 : Hid (OwQ Y3 W0.heap.size (.slice b6 (e.mn + k + 1) d6) (e.mn + k + 1) (pcQ e.ms (k + 1)) ∧ OwI Y3 W0.heap.size (.slice b7 (pcL e.ts (k + 1)).length d7) (pcL e.ts (k + 1)) ∧ OwB Y3 W0.heap.size (.slice b8 (pcB e.bs (k + 1)).length d8) (pcB e.bs (k + 1)) ∧ Y3.heap[W0.heap.size]? = some (.cells e.cs.toArray 50 (0, 0)) ∧ Below W0.heap.size W0 Y3) := (show _ ∧ _ from ⟨ow_app H2.out.1 H2.out.2.2.1 (by decide) kk8.out, ow_app H2.out.2.1 H2.out.2.2.1 (by decide) kk8.out, o8', blk_app H2.out.2.2.2.1 H2.out.2.2.1 (by decide) kk8.out, H2.out.2.2.2.2.trans (kk8.out.below hs2 (fun q hq e => by have := (World.ownsRow.lt H2.out.2.2.1 q e).1; omega))⟩)
          clear o8 kk8 o8' H2 hs2
          go_wp2_with fail
          go_roundw
          case rel => exact ⟨k + 1, b6, d6, b7, d7, b8, d8, by omega, by go_num, rfl, rfl, rfl, H3⟩
          case measure => simp [intOf]; omega
        · obtain rfl : 64 = k := by omega
          obtain ⟨g6, h6⟩ := ow_some hI.out.1 (by omega)
          obtain ⟨g7, h7⟩ := ow_some hI.out.2.1 (by rw [pcL_len]; omega)
          obtain ⟨g8, h8⟩ := ow_some hI.out.2.2.1 (by rw [pcB_len]; omega)
          subst h6 h7 h8
          have e7 : (pcL e.ts 64).length = e.tn + 64 := by rw [pcL_len, hts]
          have e8 : (pcB e.bs 64).length = e.bn + 64 := by rw [pcB_len, hbs]
          have r7 := hI.out.2.1
          have r8 := hI.out.2.2.1
          unfold OwI at r7
          unfold OwB at r8
          rw [e7] at r7
          rw [e8] at r8
          have HR0 : Hid (Rz wr B W0.heap.size g6 c6 g7 c7 g8 c8 e e) := (show Rz _ _ _ _ _ _ _ _ _ _ _  from ⟨hI.out.2.2.2.1, Mb.own_lower hI.out.1 hBw, Mb.own_lower r7 hBw, Mb.own_lower r8 hBw⟩)
          have HL0 : Hid (Lz w wr B B l j j j j La Lc Ma Mc Ta Tc Ba Bc l' gm gt gb) := (show Lz _ _ _ _ _ _ _ _ _ _ _ _ _ _ _ _ _ _ _ _ _ from HL.out.on hI.out.2.2.2.2)
          have hc6 : e.mn + 64 ≤ c6 := ow_cap HR0.out.m
          have hc7 : e.tn + 64 ≤ c7 := ow_cap HR0.out.t
          have hc8 : e.bn + 64 ≤ c8 := ow_cap HR0.out.b
          rw [e7, e8]
          clear r7 r8 hI HL e7 e8 HS5 HEV
          generalize hmbk : W0.heap.size = mbk at *
          have t1 : wr.cell? ⟨B, 1, none⟩ = some (.slice Ma j Mc) := blk_cell HL0.out.t 1
          have hs1 : B ≤ wr.heap.size := hBs HL0.out
          go_wp2_with (first | (at_builtin; refine app_Sg 30 44 Try.underlying30 inM rfl _ _ rfl rfl HL0.out.m (some ⟨g6, 0, none⟩) (e.mn + 64) c6 rfl rfl (by omega) hs1 ?_) | fail)
          intro v1 Y1 o1 kk1
          obtain ⟨A1, C1, hv1⟩ := ow_shape o1.out
          subst hv1
          have hT1 := blk_app HL0.out.t HL0.out.m (by decide) kk1.out
          have z1 : Y1.cell? ⟨B, 1, none⟩ = some (.slice Ma j Mc) := blk_cell hT1 1
          have f1 : Y1.frozen? ⟨B, 1, none⟩ = false := frozen_of_row Y1 B 1 _ _ hT1
          obtain ⟨Z1, hZ1⟩ : ∃ Y, Y1.setCell ⟨B, 1, none⟩ (.slice A1 (j + 1) C1) = Y := ⟨_, rfl⟩
          obtain ⟨gm2, hgm2⟩ : ∃ f : Nat → Nat × Nat, (fun i => if i = j then (g6, c6) else gm i) = f := ⟨_, rfl⟩
          have hgmj : gm2 j = (g6, c6) := by rw [← hgm2]; simp
          have HL1 : Hid (Lz w Z1 B B l j (j + 1) j j La Lc A1 C1 Ta Tc Ba Bc l' gm2 gt gb) := (show Lz _ _ _ _ _ _ _ _ _ _ _ _ _ _ _ _ _ _ _ _ _ from hgm2 ▸ HL0.out.addM (Nat.le_refl _) (by rw [He.out]; exact HR0.out.m) (by rw [He.out]; exact o1.out) kk1.out hZ1)
          have kX1 : Mb.Kept wr Z1 (fun q => (Value.slice Ma j Mc).ownBlock = some q ∨ q = B) := by rw [← hZ1]; exact (kk1.out.mono (fun k _ e => .inl e)).trans (Mb.kset Y1 B 1 _ (.inr rfl))
          have HR1 : Hid (Rz Z1 B mbk g6 c6 g7 c7 g8 c8 e e) := (show Rz _ _ _ _ _ _ _ _ _ _ _  from HR0.out.keep kX1 (fun q hq => by
            rcases hq with hq | hq
            · obtain ⟨C', hC'⟩ := Ln.own_ty HL0.out.m hq
              exact ⟨C', _, hC', by unfold okR; decide⟩
            · subst hq
              exact ⟨_, _, HL0.out.t, by unfold okR; decide⟩))
          clear o1 kk1 hT1 kX1 HL0 HR0 t1 hs1 hgm2
          have t2 : Z1.cell? ⟨B, 2, none⟩ = some (.slice Ta j Tc) := blk_cell HL1.out.t 2
          have hs2 : B ≤ Z1.heap.size := hBs HL1.out
          go_wp2_with (first | (at_builtin; refine app_Sg 31 23 Try.underlying31 inI rfl _ _ rfl rfl HL1.out.r (some ⟨g7, 0, none⟩) (e.tn + 64) c7 rfl rfl (by omega) hs2 ?_) | fail)
          intro v2 Y2 o2 kk2
          obtain ⟨A2, C2, hv2⟩ := ow_shape o2.out
          subst hv2
          have hT2 := blk_app HL1.out.t HL1.out.r (by decide) kk2.out
          have z2 : Y2.cell? ⟨B, 2, none⟩ = some (.slice Ta j Tc) := blk_cell hT2 2
          have f2 : Y2.frozen? ⟨B, 2, none⟩ = false := frozen_of_row Y2 B 2 _ _ hT2
          obtain ⟨Z2, hZ2⟩ : ∃ Y, Y2.setCell ⟨B, 2, none⟩ (.slice A2 (j + 1) C2) = Y := ⟨_, rfl⟩
          obtain ⟨gt2, hgt2⟩ : ∃ f : Nat → Nat × Nat, (fun i => if i = j then (g7, c7) else gt i) = f := ⟨_, rfl⟩
          have hgtj : gt2 j = (g7, c7) := by rw [← hgt2]; simp
          have HL2 : Hid (Lz w Z2 B B l j (j + 1) (j + 1) j La Lc A1 C1 A2 C2 Ba Bc l' gm2 gt2 gb) := (show Lz _ _ _ _ _ _ _ _ _ _ _ _ _ _ _ _ _ _ _ _ _ from hgt2 ▸ HL1.out.addT (Nat.le_refl _) (by rw [He.out]; exact HR1.out.t) (by rw [He.out]; exact o2.out) kk2.out hZ2)
          have kX2 : Mb.Kept Z1 Z2 (fun q => (Value.slice Ta j Tc).ownBlock = some q ∨ q = B) := by rw [← hZ2]; exact (kk2.out.mono (fun k _ e => .inl e)).trans (Mb.kset Y2 B 2 _ (.inr rfl))
          have HR2 : Hid (Rz Z2 B mbk g6 c6 g7 c7 g8 c8 e e) := (show Rz _ _ _ _ _ _ _ _ _ _ _  from HR1.out.keep kX2 (fun q hq => by
            rcases hq with hq | hq
            · obtain ⟨C', hC'⟩ := Ln.own_ty HL1.out.r hq
              exact ⟨C', _, hC', by unfold okR; decide⟩
            · subst hq
              exact ⟨_, _, HL1.out.t, by unfold okR; decide⟩))
          clear o2 kk2 hT2 kX2 HL1 HR1 t2 hs2 hgt2
          have t3 : Z2.cell? ⟨B, 3, none⟩ = some (.slice Ba j Bc) := blk_cell HL2.out.t 3
          have hs3 : B ≤ Z2.heap.size := hBs HL2.out
          go_wp2_with (first | (at_builtin; refine app_Sg 32 45 Try.underlying32 inB rfl _ _ rfl rfl HL2.out.y (some ⟨g8, 0, none⟩) (e.bn + 64) c8 rfl rfl (by omega) hs3 ?_) | fail)
          intro v3 Y3 o3 kk3
          obtain ⟨A3, C3, hv3⟩ := ow_shape o3.out
          subst hv3
          have hT3 := blk_app HL2.out.t HL2.out.y (by decide) kk3.out
          have z3 : Y3.cell? ⟨B, 3, none⟩ = some (.slice Ba j Bc) := blk_cell hT3 3
          have f3 : Y3.frozen? ⟨B, 3, none⟩ = false := frozen_of_row Y3 B 3 _ _ hT3
          obtain ⟨Z3, hZ3⟩ : ∃ Y, Y3.setCell ⟨B, 3, none⟩ (.slice A3 (j + 1) C3) = Y := ⟨_, rfl⟩
          obtain ⟨gb2, hgb2⟩ : ∃ f : Nat → Nat × Nat, (fun i => if i = j then (g8, c8) else gb i) = f := ⟨_, rfl⟩
          have hgbj : gb2 j = (g8, c8) := by rw [← hgb2]; simp
          have HL3 : Hid (Lz w Z3 B B l j (j + 1) (j + 1) (j + 1) La Lc A1 C1 A2 C2 A3 C3 l' gm2 gt2 gb2) := (show Lz _ _ _ _ _ _ _ _ _ _ _ _ _ _ _ _ _ _ _ _ _ from hgb2 ▸ HL2.out.addB (Nat.le_refl _) (by rw [He.out]; exact HR2.out.b) (by rw [He.out]; exact o3.out) kk3.out hZ3)
          have kX3 : Mb.Kept Z2 Z3 (fun q => (Value.slice Ba j Bc).ownBlock = some q ∨ q = B) := by rw [← hZ3]; exact (kk3.out.mono (fun k _ e => .inl e)).trans (Mb.kset Y3 B 3 _ (.inr rfl))
          have HR3 : Hid (Rz Z3 B mbk g6 c6 g7 c7 g8 c8 e e) := (show Rz _ _ _ _ _ _ _ _ _ _ _  from HR2.out.keep kX3 (fun q hq => by
            rcases hq with hq | hq
            · obtain ⟨C', hC'⟩ := Ln.own_ty HL2.out.y hq
              exact ⟨C', _, hC', by unfold okR; decide⟩
            · subst hq
              exact ⟨_, _, HL2.out.t, by unfold okR; decide⟩))
          clear o3 kk3 hT3 kX3 HL2 HR2 t3 hs3 hgb2
          have p8 : Z3.cell? ⟨eb, eo + j * 26 + 8, none⟩ = some (.slice e.ma e.mn e.mc) := range_on HEw.out (by rw [hB]; exact HL3.out.b) 8 _ rfl
          have m8 : Z3.cell? ⟨mbk, 8, none⟩ = some (.slice e.ma e.mn e.mc) := blk_cell HR3.out.k 8
          have y8 : Z3.frozen? ⟨mbk, 8, none⟩ = false := frozen_of_row Z3 mbk 8 _ _ HR3.out.k
          obtain ⟨Z4, hZ4⟩ : ∃ Y, Z3.setCell ⟨mbk, 8, none⟩ (.slice (some ⟨g6, 0, none⟩) e.mn c6) = Y := ⟨_, rfl⟩
          have HL4 : Hid (Lz w Z4 B B l j (j + 1) (j + 1) (j + 1) La Lc A1 C1 A2 C2 A3 C3 l' gm2 gt2 gb2) := (show Lz _ _ _ _ _ _ _ _ _ _ _ _ _ _ _ _ _ _ _ _ _ from hZ4 ▸ HL3.out.setm HR3.out.k HLo.out hBw)
          have HR4 : Hid (Rz Z4 B mbk g6 c6 g7 c7 g8 c8 e ({ e with ma := some ⟨g6, 0, none⟩, mc := c6 } : Mk)) := (show Rz _ _ _ _ _ _ _ _ _ _ _  from hZ4 ▸ HR3.out.setm rfl)
          have p9 : Z4.cell? ⟨eb, eo + j * 26 + 9, none⟩ = some (.slice e.ta e.tn e.tc) := range_on HEw.out (by rw [hB]; exact HL4.out.b) 9 _ rfl
          have m9 : Z4.cell? ⟨mbk, 9, none⟩ = some (.slice e.ta e.tn e.tc) := blk_cell HR4.out.k 9
          have y9 : Z4.frozen? ⟨mbk, 9, none⟩ = false := frozen_of_row Z4 mbk 9 _ _ HR4.out.k
          obtain ⟨Z5, hZ5⟩ : ∃ Y, Z4.setCell ⟨mbk, 9, none⟩ (.slice (some ⟨g7, 0, none⟩) e.tn c7) = Y := ⟨_, rfl⟩
          have HL5 : Hid (Lz w Z5 B B l j (j + 1) (j + 1) (j + 1) La Lc A1 C1 A2 C2 A3 C3 l' gm2 gt2 gb2) := (show Lz _ _ _ _ _ _ _ _ _ _ _ _ _ _ _ _ _ _ _ _ _ from hZ5 ▸ HL4.out.setm HR4.out.k HLo.out hBw)
          have HR5 : Hid (Rz Z5 B mbk g6 c6 g7 c7 g8 c8 e ({ e with ma := some ⟨g6, 0, none⟩, mc := c6, ta := some ⟨g7, 0, none⟩, tc := c7 } : Mk)) := (show Rz _ _ _ _ _ _ _ _ _ _ _  from hZ5 ▸ HR4.out.setm rfl)
          have p14 : Z5.cell? ⟨eb, eo + j * 26 + 14, none⟩ = some (.slice e.ba e.bn e.bc) := range_on HEw.out (by rw [hB]; exact HL5.out.b) 14 _ rfl
          have m14 : Z5.cell? ⟨mbk, 14, none⟩ = some (.slice e.ba e.bn e.bc) := blk_cell HR5.out.k 14
          have y14 : Z5.frozen? ⟨mbk, 14, none⟩ = false := frozen_of_row Z5 mbk 14 _ _ HR5.out.k
          obtain ⟨Z6, hZ6⟩ : ∃ Y, Z5.setCell ⟨mbk, 14, none⟩ (.slice (some ⟨g8, 0, none⟩) e.bn c8) = Y := ⟨_, rfl⟩
          have HL6 : Hid (Lz w Z6 B B l j (j + 1) (j + 1) (j + 1) La Lc A1 C1 A2 C2 A3 C3 l' gm2 gt2 gb2) := (show Lz _ _ _ _ _ _ _ _ _ _ _ _ _ _ _ _ _ _ _ _ _ from hZ6 ▸ HL5.out.setm HR5.out.k HLo.out hBw)
          have HR6 : Hid (Rz Z6 B mbk g6 c6 g7 c7 g8 c8 e (lz e (g6, c6) (g7, c7) (g8, c8))) := (show Rz _ _ _ _ _ _ _ _ _ _ _  from hZ6 ▸ HR5.out.setm rfl)
          have sl6 : e.mn ≤ c6 := by omega
          have sl7 : e.tn ≤ c7 := by omega
          have sl8 : e.bn ≤ c8 := by omega
          clear HL3 HL4 HL5 HR3 HR4 HR5
          go_wp2_with fail
          clear p8 p9 p14 m8 m9 m14 y8 y9 y14 hZ1 hZ2 hZ3 hZ4 hZ5 hZ6 z1 z2 z3 f1 f2 f3
          have t0 : Z6.cell? ⟨B, 0, none⟩ = some (.slice La j Lc) := blk_cell HL6.out.t 0
          have HRg : Hid (Z6.rangeAt mbk 0 (lz e (g6, c6) (g7, c7) (g8, c8)).cs) := Ln.blk_range HR6.out.k
          have hmB : mbk ≠ B := fun e => by
            have h1 := HL6.out.t
            have h2 := HR6.out.k
            rw [e] at h2
            rw [h1] at h2
            simp at h2
          have hlj : l'.length = j := HL6.out.o.rd.len
          obtain ⟨e3, he3⟩ : ∃ x, lz e (g6, c6) (g7, c7) (g8, c8) = x := ⟨_, rfl⟩
          rw [he3] at HRg
          refine wp_region_held_drew (S := (fun w' => w'.rangeAt mbk 0 e3.cs)) (by kernel_rfl) (range_on HRg.out (drew_bel _)) (fun hHeld => ?_)
          simp only [Act.put, List.size_toArray, List.length_cons, List.length_nil, Nat.zero_add]
          refine takeD (i := 0) (d := 109) (v := .pointer (some ⟨B, 0, none⟩)) rfl (by kernel_rfl) (by kernel_rfl) (by kernel_rfl) (by kernel_rfl) (fun _ _ _ h => h) (Or.inl ⟨by rfl, fun w' hS => by go_simp⟩) hHeld ?_
          simp only [Act.put, List.setIfInBounds_toArray, List.set_cons_zero, List.set_cons_succ]
          refine takeD (i := 1) (d := 110) (v := .pointer (some ⟨B, 0, none⟩)) rfl (by kernel_rfl) (by kernel_rfl) (by kernel_rfl) (by kernel_rfl) (fun _ _ _ h => h) (Or.inl ⟨by rfl, fun w' hS => by go_simp⟩) hHeld ?_
          simp only [Act.put, List.setIfInBounds_toArray, List.set_cons_zero, List.set_cons_succ]
          refine takeD (i := 2) (d := 111) (v := .pointer (some ⟨B, 0, none⟩)) rfl (by kernel_rfl) (by kernel_rfl) (by kernel_rfl) (by kernel_rfl) (fun _ _ _ h => h) (Or.inl ⟨by rfl, fun w' hS => by go_simp⟩) hHeld ?_
          simp only [Act.put, List.setIfInBounds_toArray, List.set_cons_zero, List.set_cons_succ]
          refine takeD (i := 3) (d := 112) (v := .pointer (some ⟨B, 0, none⟩)) rfl (by kernel_rfl) (by kernel_rfl) (by kernel_rfl) (by kernel_rfl) (fun _ _ _ h => h) (Or.inl ⟨by rfl, fun w' hS => by go_simp⟩) hHeld ?_
          simp only [Act.put, List.setIfInBounds_toArray, List.set_cons_zero, List.set_cons_succ]
          refine takeD (i := 5) (d := 114) (v := .agg e3.cs.toArray) rfl (by kernel_rfl) (by kernel_rfl) (by kernel_rfl) (by kernel_rfl) (fun _ _ _ h => h) (Or.inl ⟨by rfl, fun w' hS => by (exact run_loadop 50 _ rfl rfl hS Try.underlying50 rfl (iMk e3))⟩) hHeld ?_
          simp only [Act.put, List.setIfInBounds_toArray, List.set_cons_zero, List.set_cons_succ]
          have hbD1 : Below Z6.heap.size Z6 Z6.drew := drew_bel _
          have iq0 := below_at hbD1 t0
          generalize Z6.drew = D1 at *
          refine wpAnyH_ready (rs := [4, 6]) (by kernel_rfl) (by simp) ?_
          refine AllReadyH.cons rfl (fun K hK => ?_) (AllReadyH.cons rfl (fun K hK => ?_) AllReadyH.nil)
          · have zim := iq0
            go_simp
            clear zim
            refine hK.out _ _ (range_on HRg.out hbD1) (fun hHeld => ?_)
            clear hK K
            refine wpAnyH_ready (rs := [6]) (by kernel_rfl) (by simp) ?_
            refine AllReadyH.cons rfl (fun K hK => ?_) AllReadyH.nil
            refine step_bsl rfl 22 50 1 _ rfl Try.underlying22 e3.cs.toArray (bsl_eq (by kernel_rfl) (builtMs e3)) ?_
            intro V hV
            have hbV : Below D1.heap.size D1 V := by rw [← hV]; exact bsp _ _ _
            refine hK.out _ _ (range_on (range_on HRg.out hbD1) hbV) (fun hHeld => ?_)
            clear hK K
            refine wpAnyH_ready (rs := [7]) (by kernel_rfl) (by simp) ?_
            refine AllReadyH.cons rfl (fun K hK => ?_) AllReadyH.nil
            refine step_M rfl _ _ rfl rfl (HL6.out.on hbD1).o e3 hV.symm rfl (by rw [hlj]; omega) (hBs (HL6.out.on hbD1)) ?_
            intro v9 X5 o9 kk9
            obtain ⟨A9, C9, hv9⟩ := ow_shape o9
            rw [List.length_append, hlj] at hv9
            have hv9' : v9 = .slice A9 (j + 1) C9 := hv9
            clear hv9
            subst hv9'
            have kT5 := blk_app (HL6.out.on hbD1).t (HL6.out.on hbD1).o (by decide) kk9
            have rg5 : X5.rangeAt mbk 0 e3.cs := fun i v hv => Ln.kept_cell kk9 (fun e => by have := HLo.out mbk e; omega) (range_on HRg.out hbD1 i v hv)
            refine hK.out _ _ rg5 (fun hHeld => ?_)
            clear hK K
            refine takeD (i := 8) (d := 117) (v := .pointer (some ⟨B, 0, none⟩)) rfl (by kernel_rfl) (by kernel_rfl) (by kernel_rfl) (by kernel_rfl) (fun _ _ _ h => h) (Or.inl ⟨by rfl, fun w' hS => by go_simp⟩) hHeld ?_
            simp only [Act.put, List.setIfInBounds_toArray, List.set_cons_zero, List.set_cons_succ]
            refine takeD (i := 9) (d := 118) (v := .pointer (some ⟨B, 0, none⟩)) rfl (by kernel_rfl) (by kernel_rfl) (by kernel_rfl) (by kernel_rfl) (fun _ _ _ h => h) (Or.inl ⟨by rfl, fun w' hS => by go_simp⟩) hHeld ?_
            simp only [Act.put, List.setIfInBounds_toArray, List.set_cons_zero, List.set_cons_succ]
            refine wpAnyH_ready (rs := [10]) (by kernel_rfl) (by simp) ?_
            refine AllReadyH.cons rfl (fun K hK => ?_) AllReadyH.nil
            have z1 : X5.cell? ⟨B, 0, none⟩ = some (.slice La j Lc) := blk_cell kT5 0
            have z2 : X5.frozen? ⟨B, 0, none⟩ = false := frozen_of_row X5 B 0 _ _ kT5
            go_simp
            refine hK.out _ _ (fun i v hv => cell_ne hmB (rg5 i v hv)) (fun hHeld => ?_)
            clear hK K
            refine wpAnyH_done (by kernel_rfl) ?_ _
            clear hHeld
            have hL7 := (HL6.out.on hbD1).addL (w1 := X5) (A2 := A9) (C2 := C9) (Y := X5.setCell ⟨B, 0, none⟩ (.slice A9 (j + 1) C9)) (by rw [He.out, hgmj, hgtj, hgbj, he3]; exact o9) kk9 rfl
            have HS7 : Hid (∃ (La : Option Addr) (Lc : Nat) (Ma : Option Addr) (Mc : Nat) (Ta : Option Addr) (Tc : Nat) (Ba : Option Addr) (Bc : Nat) (l' : List Mk) (gm gt gb : Nat → Nat × Nat), Lz w (X5.setCell ⟨B, 0, none⟩ (.slice A9 (j + 1) C9)) B B l (j + 1) (j + 1) (j + 1) (j + 1) La Lc Ma Mc Ta Tc Ba Bc l' gm gt gb) := (show ∃ _, _ from ⟨_, _, _, _, _, _, _, _, _, _, _, _, hL7⟩)
            clear hL7 o9 kk9 kT5 rg5 hbV hV hbD1 HL6 HR6 HRg z1 z2
            try clear iq0
            try clear t0
            go_wp2_with fail
            go_roundw
            case rel => exact ⟨j + 1, by omega, by go_num, HS7⟩
            case measure => simp [intOf]; omega
          · refine step_bsl rfl 22 50 1 _ rfl Try.underlying22 e3.cs.toArray (bsl_eq (by kernel_rfl) (builtMs e3)) ?_
            intro V hV
            have hbV : Below D1.heap.size D1 V := by rw [← hV]; exact bsp _ _ _
            refine hK.out _ _ (range_on (range_on HRg.out hbD1) hbV) (fun hHeld => ?_)
            clear hK K
            refine wpAnyH_ready (rs := [4]) (by kernel_rfl) (by simp) ?_
            refine AllReadyH.cons rfl (fun K hK => ?_) AllReadyH.nil
            have zim := (below_at hbV iq0)
            go_simp
            clear zim
            refine hK.out _ _ (range_on (range_on HRg.out hbD1) hbV) (fun hHeld => ?_)
            clear hK K
            refine wpAnyH_ready (rs := [7]) (by kernel_rfl) (by simp) ?_
            refine AllReadyH.cons rfl (fun K hK => ?_) AllReadyH.nil
            refine step_M rfl _ _ rfl rfl (HL6.out.on hbD1).o e3 hV.symm rfl (by rw [hlj]; omega) (hBs (HL6.out.on hbD1)) ?_
            intro v9 X5 o9 kk9
            obtain ⟨A9, C9, hv9⟩ := ow_shape o9
            rw [List.length_append, hlj] at hv9
            have hv9' : v9 = .slice A9 (j + 1) C9 := hv9
            clear hv9
            subst hv9'
            have kT5 := blk_app (HL6.out.on hbD1).t (HL6.out.on hbD1).o (by decide) kk9
            have rg5 : X5.rangeAt mbk 0 e3.cs := fun i v hv => Ln.kept_cell kk9 (fun e => by have := HLo.out mbk e; omega) (range_on HRg.out hbD1 i v hv)
            refine hK.out _ _ rg5 (fun hHeld => ?_)
            clear hK K
            refine takeD (i := 8) (d := 117) (v := .pointer (some ⟨B, 0, none⟩)) rfl (by kernel_rfl) (by kernel_rfl) (by kernel_rfl) (by kernel_rfl) (fun _ _ _ h => h) (Or.inl ⟨by rfl, fun w' hS => by go_simp⟩) hHeld ?_
            simp only [Act.put, List.setIfInBounds_toArray, List.set_cons_zero, List.set_cons_succ]
            refine takeD (i := 9) (d := 118) (v := .pointer (some ⟨B, 0, none⟩)) rfl (by kernel_rfl) (by kernel_rfl) (by kernel_rfl) (by kernel_rfl) (fun _ _ _ h => h) (Or.inl ⟨by rfl, fun w' hS => by go_simp⟩) hHeld ?_
            simp only [Act.put, List.setIfInBounds_toArray, List.set_cons_zero, List.set_cons_succ]
            refine wpAnyH_ready (rs := [10]) (by kernel_rfl) (by simp) ?_
            refine AllReadyH.cons rfl (fun K hK => ?_) AllReadyH.nil
            have z1 : X5.cell? ⟨B, 0, none⟩ = some (.slice La j Lc) := blk_cell kT5 0
            have z2 : X5.frozen? ⟨B, 0, none⟩ = false := frozen_of_row X5 B 0 _ _ kT5
            go_simp
            refine hK.out _ _ (fun i v hv => cell_ne hmB (rg5 i v hv)) (fun hHeld => ?_)
            clear hK K
            refine wpAnyH_done (by kernel_rfl) ?_ _
            clear hHeld
            have hL7 := (HL6.out.on hbD1).addL (w1 := X5) (A2 := A9) (C2 := C9) (Y := X5.setCell ⟨B, 0, none⟩ (.slice A9 (j + 1) C9)) (by rw [He.out, hgmj, hgtj, hgbj, he3]; exact o9) kk9 rfl
            have HS7 : Hid (∃ (La : Option Addr) (Lc : Nat) (Ma : Option Addr) (Mc : Nat) (Ta : Option Addr) (Tc : Nat) (Ba : Option Addr) (Bc : Nat) (l' : List Mk) (gm gt gb : Nat → Nat × Nat), Lz w (X5.setCell ⟨B, 0, none⟩ (.slice A9 (j + 1) C9)) B B l (j + 1) (j + 1) (j + 1) (j + 1) La Lc Ma Mc Ta Tc Ba Bc l' gm gt gb) := (show ∃ _, _ from ⟨_, _, _, _, _, _, _, _, _, _, _, _, hL7⟩)
            clear hL7 o9 kk9 kT5 rg5 hbV hV hbD1 HL6 HR6 HRg z1 z2
            try clear iq0
            try clear t0
            go_wp2_with fail
            go_roundw
            case rel => exact ⟨j + 1, by omega, by go_num, HS7⟩
            case measure => simp [intOf]; omega
    · obtain rfl : n = j := by omega
      go_wp2_with fail
      go_ret
      exact ⟨B, rfl, by rw [hB]; exact hS.out⟩
end
end Go.Proofs.Ytfbgoidhgkcgjaa.Lo
