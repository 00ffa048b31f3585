import Derived.Test.YthogcanfinjfdaaMh
namespace Go.Proofs.Ythogcanfinjfdaa.Et
open Go.RowKit Go.Maps
set_option linter.unusedVariables false
set_option linter.unusedSimpArgs false
set_option maxRecDepth 100000
section
variable {R R' : Rn} {w w' wr : World} {B B0 : Nat}
def OutL (B0 : Nat) (wr : World) (v : Value) (ds : List Fd) : Prop := ∃ L : List Fx, L.map Fx.d = ds ∧ wr.ownsRow B0 48 5 v L.length (flCells L) ∧ ∀ f ∈ L, f.byt wr B0
theorem OutL.nil (B0 : Nat) (wr : World) : OutL B0 wr (.slice none 0 0) [] := ⟨[], rfl, ⟨rfl, .inl ⟨rfl, rfl⟩⟩, fun f hf => by cases hf⟩
theorem OutL.keep {P : Nat → Prop} {v : Value} {ds : List Fd} (h : OutL B0 w v ds) (k : Kept w w' P) (hp : ∀ j, B0 ≤ j → ¬ P j) : OutL B0 w' v ds := by
  obtain ⟨L, h1, h2, h3⟩ := h
  exact ⟨L, h1, k.owns h2 (fun j hj => hp j (World.ownsRow.lt h2 j hj).1), fun f hf => (h3 f hf).keep k (fun j hj => hp j (World.ownsRow.lt (h3 f hf).1 j hj).1)⟩
theorem OutL.still {v : Value} {ds : List Fd} (h : OutL B0 w v ds) (hb : Below w.heap.size w w') : OutL B0 w' v ds := h.keep (Kept.ofBelow hb (fun _ => False)) (fun _ _ => id)
theorem OutL.push {X X' : World} {v v' : Value} {L : List Fx} {f : Fx} {n : Nat} (h2 : X.ownsRow B0 48 5 v L.length (flCells L)) (h3 : ∀ f ∈ L, f.byt X B0) (hf : f.byt X B0) (hn : n = L.length + 1) (ho : X'.ownsRow B0 48 5 v' n (flCells L ++ f.cs.toList)) (hg : X.grownBy X' v.ownBlock) : OutL B0 X' v' ((L ++ [f]).map Fx.d) := by
  have kp := Kept.ofGrown hg
  refine ⟨L ++ [f], rfl, ?_, ?_⟩
  · rw [flCells_app]
    subst hn
    simpa [flCells] using ho
  · intro x hx
    have hx2 : x.byt X B0 := by
      rcases List.mem_append.1 hx with hx | hx
      · exact h3 x hx
      · obtain rfl := List.mem_singleton.1 hx; exact hf
    exact hx2.keep kp (fun j hj e => own_ty hx2.1 h2 (by decide) hj e.symm)
theorem OutL.rdf {v : Value} {ds : List Fd} (h : OutL B0 w v ds) : ∃ a n c, v = .slice a n c ∧ RdF w a n ds := by
  obtain ⟨L, h1, h2, h3⟩ := h
  obtain ⟨a, c, rfl⟩ := own_shape (B' := 0) h2
  exact ⟨a, L.length, c, rfl, L, h1, rfl, fun f hf => (h3 f hf).rd, row_cells h2 rfl⟩

set_option maxHeartbeats 400000 in
theorem rflights_any (h : R.Ok w B) (hA : R.all.length ≤ 2199023255551) (hl : (live R).length ≤ 20000) (hsz : ∀ p ∈ R.all, p.f.n ≤ 40000) : Calls Try.prog 85 #[.pointer (some ⟨R.b, 0, none⟩)] w fun e w' => ∃ a n c, e = .returned (.slice a n c) ∧ RdF w' a n ((R.all.filter ng).map pd) ∧ Below w.heap.size w w' := by
  obtain ⟨i0, hi, hz0, hz1, hz2⟩ := info_parts info_fl
  have HW := way_is h (by omega)
  have Hh : Hid (R.Ok w B) := h
  have HZ : Hid (∀ p ∈ R.all, p.f.n ≤ 40000) := hsz
  have HE : Hid ((live R).map (fun j => pd (R.all.getD j p0)) = (R.all.filter ng).map pd) := by
    show _ = _
    rw [← live_map, List.map_map]; rfl
  clear h hsz
  generalize hN : (live R).length = N at *
  go_enter Try.func85, Try.ntmps85
  go_wp2_with (first | (go_at_call 92; refine HW.mono ?_; rintro e w1 ⟨al, cl, rfl, ho1, hb1⟩; have HO1 : Hid (w1.ownsRow w.heap.size 3 1 (.slice al N cl) N (intsOf (live R))) := ho1; have HB1 : Hid (Below w.heap.size w w1) := hb1; clear ho1 hb1) | fail)
  go_loopw [3, 5] (fun v i wr => ∃ k : Nat, k ≤ N ∧ i = .int .i64 k ∧ OutL w.heap.size wr v (((live R).take k).map fun j => pd (R.all.getD j p0)) ∧ Below w.heap.size w wr ∧ wr.ownsRow w.heap.size 3 1 (.slice al N cl) N (intsOf (live R))) (fun _ i _ => N - (intOf i).toNat)
  case atStart => exact ⟨0, Nat.zero_le _, rfl, by simpa using OutL.nil _ _, HB1.out, HO1.out⟩
  case round =>
    obtain ⟨k, hk, rfl, hout, hb, hints⟩ := hrel
    by_cases hlt : k < N
    · have hR := Hh.out.still hb
      obtain ⟨gl, hgl, hlk⟩ := ints_at hints (j := k) (by omega)
      obtain ⟨_, hil, _⟩ := liveN_at R R.all.length k (by show k < (live R).length; omega)
      change (live R).getD k 0 < R.all.length at hil
      have htk : Hid (((live R).take (k + 1)).map (fun j => pd (R.all.getD j p0)) = ((live R).take k).map (fun j => pd (R.all.getD j p0)) ++ [pd (R.all.getD ((live R).getD k 0) p0)]) := by
        show _ = _
        rw [List.take_succ_eq_append_getElem (by omega), List.map_append]
        simp [List.getD, List.getElem?_eq_getElem (show k < (live R).length by omega)]
      generalize (live R).getD k 0 = i at hlk hil htk
      obtain ⟨g, hva, hfz, x0, x1, x2, x3, x4, x5⟩ := hR.prow hil
      have c5 := hR.c563
      rw [hva] at c5
      have hby := hR.byt _ (pmem_getD hil)
      have hfn := HZ.out _ (pmem_getD hil)
      have hpd : pd (R.all.getD i p0) = (R.all.getD i p0).f.d := rfl
      rw [hpd] at htk
      clear hpd
      generalize (R.all.getD i p0).f = F at x0 x1 x2 x3 x4 hby hfn htk
      have HG : Hid (∀ w', Below wr.heap.size wr w' → Calls Try.prog 90 #[.agg #[.int .i64 F.id, .int .i64 F.src, .int .i64 F.dst, .int .i64 F.due, .slice F.a F.n F.c]] w' fun e w2 => ∃ a c', e = .returned (.agg #[.int .i64 F.id, .int .i64 F.src, .int .i64 F.dst, .int .i64 F.due, .slice a F.n c']) ∧ w2.ownsRow w'.heap.size 5 1 (.slice a F.n c') F.n (F.bs.map (Value.int .u8)) ∧ Below w'.heap.size w' w2) := fun w' hb' => given_any F.id F.src F.dst F.due F.a F.n F.c F.bs (hby.rd.still hb') (by omega)
      have Hrr := hby.2
      obtain ⟨L, hL1, hL2, hL3⟩ := hout
      have hLk : L.length = k := by rw [← List.length_map (f := Fx.d), hL1, List.length_map, List.length_take]; omega
      have HL1 : Hid (L.map Fx.d = ((live R).take k).map (fun j => pd (R.all.getD j p0))) := hL1
      have HL2 : Hid (wr.ownsRow w.heap.size 48 5 u3 L.length (flCells L)) := hL2
      have HL3 : Hid (∀ f ∈ L, f.byt wr w.heap.size) := hL3
      have HI : Hid (wr.ownsRow w.heap.size 3 1 (.slice al N cl) N (intsOf (live R))) := hints
      have HB : Hid (Below w.heap.size w wr) := hb
      have HN : Hid ((live R).length = N) := hN
      have Hgl : Hid (al = some ⟨gl, 0, none⟩) := hgl
      rw [hgl]
      have i1 : (0 : Int) ≤ (k : Int) := Int.natCast_nonneg _
      have i2 : (k : Int) < (N : Int) := by omega
      have i3 : (0 : Int) ≤ (i : Int) := Int.natCast_nonneg _
      have i4 : (i : Int) < (R.all.length : Int) := by omega
      have hwz : w.heap.size ≤ wr.heap.size := hb.size
      clear hR hfz x5 hby hL1 hL2 hL3 hb hints hN hgl hva
      go_wp2
      go_region_law (first | (go_simp; go_at_call 90; refine (HG.out _ (by repeat (first | exact Below.refl _ _ | apply below_drewN | apply Below.drew | apply balloc))).mono ?_; rintro e w2 ⟨av, cv, rfl, ho2, hb2⟩; have B2 : Hid (Below wr.heap.size wr w2) := (bstep (by repeat (first | exact Below.refl _ _ | apply below_drewN | apply Below.drew | apply balloc)) hb2); have hw2 := B2.out.size) | (refine step_append_lies _ (by rfl) _ _ 43 (by rfl) w.heap.size 48 i0 (.agg #[.int .i64 0, .int .i64 0, .int .i64 0, .int .i64 0, .slice none 0 0]) 5 56 Try.underlying43 hi hz0 hz1 hz2 (by rfl) (by omega) u3 L.length (flCells L) (by rfl) (own_still HL2.out (by repeat (first | exact B2.out | apply below_drewN | apply Below.drew | apply balloc))) _ 1 1 _ (by rfl) (by rfl) (World.news_of_block (heap_alloc_new _ _)) (by simp [Value.oneCell']) (by omega) (by unfold maxLen; omega) (by omega) (by simp; omega) _ (by rfl) ?_; intro g3 cap3 w3 hown3 hgrow3 hat3 hlt3))
      all_goals
        have HX : Hid (Below wr.heap.size wr (w2.alloc (.cells #[.int .i64 F.id, .int .i64 F.src, .int .i64 F.dst, .int .i64 F.due, .slice av F.n cv] 48))) := balloc B2.out
        have hbf : (⟨F.id, F.src, F.dst, F.due, av, F.n, cv, F.bs⟩ : Fx).byt (w2.alloc (.cells #[.int .i64 F.id, .int .i64 F.src, .int .i64 F.dst, .int .i64 F.due, .slice av F.n cv] 48)) w.heap.size := ⟨World.ownsRow.alloc (own_lower ho2 (by simpa using hwz)) _, Hrr⟩
        have hnew := OutL.push (f := ⟨F.id, F.src, F.dst, F.due, av, F.n, cv, F.bs⟩) (own_still HL2.out HX.out) (fun f hf => (HL3.out f hf).keep (Kept.ofBelow HX.out (fun _ => False)) (fun _ _ => id)) hbf rfl hown3 hgrow3
        have hbel : Below w.heap.size w w3 := (balloc (bstep HB.out B2.out)).grown hgrow3 (by simp; omega) (fun q hq => (World.ownsRow.lt HL2.out q hq).1)
        have hint3 : w3.ownsRow w.heap.size 3 1 (.slice al N cl) N (intsOf (live R)) := (Kept.ofGrown hgrow3).owns (own_still HI.out HX.out) (fun j hj e => own_ty (own_still HI.out HX.out) (own_still HL2.out HX.out) (by decide) hj e.symm)
        rw [List.map_append, HL1.out] at hnew
        have hnew2 : OutL w.heap.size w3 (.slice (some ⟨g3, 0, none⟩) (L.length + 1) cap3) (((live R).take (k + 1)).map fun j => pd (R.all.getD j p0)) := by rw [htk.out]; exact hnew
        clear hown3 hgrow3 hat3 hnew hbf ho2 hb2 HX
        go_wp2
        exact ⟨⟨k + 1, by omega, by go_num, by simpa only [hLk] using hnew2, hbel, by rw [← Hgl.out]; exact hint3⟩, by simp [intOf]; omega⟩
    · obtain rfl : k = N := by omega
      go_wp2
      go_ret
      rw [List.take_of_length_le (by omega), HE.out] at hout
      obtain ⟨a, n, c, h1, h2⟩ := hout.rdf
      subst h1; exact ⟨a, n, c, rfl, h2, hb⟩
end
end Go.Proofs.Ythogcanfinjfdaa.Et
namespace Go.Proofs.Ythogcanfinjfdaa.Et
open Go.RowKit Go.Maps
set_option linter.unusedVariables false
set_option linter.unusedSimpArgs false
set_option maxRecDepth 100000
section
variable {R R' : Rn} {w w' wr : World} {B B0 : Nat}
def allk (c : Int) (ps : List Px) (k : Nat) : List Px := (ps.take k).map (gnd c) ++ ps.drop k
theorem allk_len (c : Int) (ps : List Px) (k : Nat) : (allk c ps k).length = ps.length := by
  simp [allk]; omega
theorem pdrop {ps : List Px} {k : Nat} (hk : k < ps.length) : ps.drop k = ps.getD k p0 :: ps.drop (k + 1) := by
  rw [List.drop_eq_getElem_cons hk]
  simp [List.getD, List.getElem?_eq_getElem hk]
theorem allk_at (c : Int) {ps : List Px} {k : Nat} (hk : k < ps.length) : (allk c ps k).getD k p0 = ps.getD k p0 := by
  have hl : ((ps.take k).map (gnd c)).length = k := by simp; omega
  unfold allk
  rw [pdrop hk]
  generalize ps.getD k p0 = x
  simp only [List.getD]
  rw [List.getElem?_append_right (by omega), hl]
  simp
theorem allk_next (c : Int) {ps : List Px} {k : Nat} (hk : k < ps.length) : allk c ps (k + 1) = (allk c ps k).set k (gnd c (ps.getD k p0)) := by
  have hl : ((ps.take k).map (gnd c)).length = k := by simp; omega
  unfold allk
  rw [pdrop hk, ptake_next hk, List.map_append]
  have := set_mid ((ps.take k).map (gnd c)) (ps.getD k p0) (gnd c (ps.getD k p0)) (ps.drop (k + 1))
  rw [hl] at this
  rw [this]
  simp
theorem allk_stay (c : Int) {ps : List Px} {k : Nat} (hk : k < ps.length) (hg : gnd c (ps.getD k p0) = ps.getD k p0) : allk c ps (k + 1) = allk c ps k := by
  rw [allk_next c hk, hg]
  apply List.ext_getElem?
  intro i
  rw [List.getElem?_set]
  split
  · next e =>
    subst e
    have h1 := allk_at c hk
    have h2 : k < (allk c ps k).length := by rw [allk_len]; exact hk
    rw [if_pos h2, ← h1]
    simp [List.getD, List.getElem?_eq_getElem h2]
  · rfl
theorem allk_zero (c : Int) (ps : List Px) : allk c ps 0 = ps := by simp [allk]
theorem allk_all (c : Int) (ps : List Px) : allk c ps ps.length = ps.map (gnd c) := by simp [allk]
theorem come_next (q : Px → Bool) {ps : List Px} {k : Nat} (hk : k < ps.length) : ((ps.take (k + 1)).filter q).map pd = ((ps.take k).filter q).map pd ++ (if q (ps.getD k p0) then [pd (ps.getD k p0)] else []) := by
  rw [ptake_next hk, List.filter_append, List.map_append]
  generalize ps.getD k p0 = x
  cases h : q x <;> simp [List.filter_cons, h]

def rk (R : Rn) (c : Int) (k : Nat) : Rn := { R with now := c, all := allk c R.all k }
theorem rk_own {R : Rn} {c : Int} {k j : Nat} (h : (rk R c k).own j) : R.own j := by
  rcases h with h | h | ⟨p, hp, h⟩
  · exact .inl h
  · refine .inr (.inl ?_)
    have e : (rk R c k).all.length = R.all.length := allk_len _ _ _
    rw [e] at h
    exact h
  · refine .inr (.inr ?_)
    rcases List.mem_append.1 hp with hp | hp
    · obtain ⟨p', hp', rfl⟩ := List.mem_map.1 hp
      rw [gnd_f] at h
      exact ⟨p', List.mem_of_mem_take hp', h⟩
    · exact ⟨p, List.mem_of_mem_drop hp, h⟩

set_option maxHeartbeats 1000000 in
theorem rround_any (h : R.Ok w B) (hA : R.all.length ≤ 2199023255551) (hsz : ∀ p ∈ R.all, p.f.n ≤ 40000) : Calls Try.prog 83 #[.pointer (some ⟨R.b, 0, none⟩)] w fun e w' => ∃ a n c, e = .returned (.slice a n c) ∧ RdF w' a n ((R.all.filter (rcomes R (wrap64 (R.now + 1)))).map pd) ∧ Rtep w w' R { R with now := wrap64 (R.now + 1), all := R.all.map (gnd (wrap64 (R.now + 1))) } B := by
  obtain ⟨i0, hi, hz0, hz1, hz2⟩ := info_parts info_fl
  have c2 := h.c2
  have z2 := h.fz 2
  have Hh : Hid (R.Ok w B) := h
  have H0 : Hid (Rtep w (w.setCell ⟨R.b, 2, none⟩ (.int .i64 (wrap64 (R.now + 1)))) R (rk R (wrap64 (R.now + 1)) 0) B) := by
    have h1 : Rtep w (w.setCell ⟨R.b, 2, none⟩ (.int .i64 (wrap64 (R.now + 1)))) R { R with now := wrap64 (R.now + 1) } B := Rtep.cell h (fun cs hb => hb.setNow _) rfl rfl rfl rfl rfl
    unfold rk
    rw [allk_zero]
    exact h1
  have HZ : Hid (∀ p ∈ R.all, p.f.n ≤ 40000) := hsz
  have HP : Hid (∀ p ∈ R.all, ∃ a b : Nat, p.f.src = a ∧ p.f.dst = b ∧ a < R.nn ∧ b < R.nn ∧ a ≠ b) := h.pth
  have hn16 := h.n16
  have Hlt : Hid (∀ j, R.own j → j < w.heap.size) := fun j hj => h.ltOwn hj
  clear h hsz
  generalize hc : wrap64 (R.now + 1) = cN at *
  have Hc : Hid (wrap64 (R.now + 1) = cN) := hc
  go_enter Try.func83, Try.ntmps83
  go_wp2
  rw [hc]
  clear hc c2 z2
  generalize hN : R.all.length = N at *
  have HN : Hid (R.all.length = N) := hN
  go_loopw [3, 4] (fun v i wr => ∃ k : Nat, k ≤ N ∧ i = .int .i64 k ∧ OutL w.heap.size wr v (((R.all.take k).filter (rcomes R cN)).map pd) ∧ Rtep w wr R (rk R cN k) B) (fun _ i _ => N - (intOf i).toNat)
  case atStart => exact ⟨0, Nat.zero_le _, rfl, by simpa using OutL.nil _ _, H0.out⟩
  case round =>
    obtain ⟨k, hk, rfl, hout, hst⟩ := hrel
    have hR := hst.ok
    have hln : (rk R cN k).all.length = N := (allk_len _ _ _).trans hN
    have c5 : wr.cell? ⟨R.b, 563, none⟩ = some (.slice R.va N R.vc) := by rw [← hln]; exact hR.c563
    have c2 : wr.cell? ⟨R.b, 2, none⟩ = some (.int .i64 cN) := hR.c2
    by_cases hlt : k < N
    · obtain ⟨g, hva, hfz, x0, x1, x2, x3, x4, x5⟩ := hR.prow (k := k) (by omega)
      have hat : (rk R cN k).all.getD k p0 = R.all.getD k p0 := allk_at cN (by omega)
      rw [hat] at x0 x1 x2 x3 x4 x5
      have hva' : R.va = some ⟨g, 0, none⟩ := hva
      rw [hva'] at c5
      have hmem : R.all.getD k p0 ∈ R.all := pmem_getD (by omega)
      obtain ⟨p, q, hsp, hdq, hp, hq, hpq⟩ := HP.out _ hmem
      rw [hsp] at x1
      rw [hdq] at x2
      have hfn := HZ.out _ hmem
      have Hgone : Hid (∀ V, Below wr.heap.size wr V → gnd cN (R.all.getD k p0) = { (R.all.getD k p0) with gone := true } → Rtep w (V.setCell ⟨g, k * 6 + 5, none⟩ (.bool true)) R (rk R cN (k + 1)) B) := by
        intro V hV he
        have h1 := Rtep.gone (hst.post hV).ok k (by omega) g hva true
        rw [hat] at h1
        have e : rk R cN (k + 1) = { (rk R cN k) with all := (rk R cN k).all.set k { (R.all.getD k p0) with gone := true } } := by
          unfold rk
          rw [allk_next cN (by omega), he]
        rw [e]
        exact (hst.post hV).trans h1
      have Hstay : Hid (∀ V, Below wr.heap.size wr V → gnd cN (R.all.getD k p0) = R.all.getD k p0 → Rtep w V R (rk R cN (k + 1)) B) := by
        intro V hV he
        have e : rk R cN (k + 1) = rk R cN k := by
          unfold rk
          rw [allk_stay cN (by omega) he]
        rw [e]
        exact hst.post hV
      have Hcs : Hid (∀ V, Below wr.heap.size wr V → V.cell? ⟨R.b, 51 + p * 16 + q, none⟩ = some (.bool (R.shut p q)) ∧ V.cell? ⟨R.b, 3 + q, none⟩ = some (.bool (R.up q))) := fun V hV => ⟨((hst.post hV).ok.csh (p := p) (q := q) (by omega) (by omega)).1, ((hst.post hV).ok.cup (p := q) (by omega)).1⟩
      have Hnx := come_next (rcomes R cN) (ps := R.all) (k := k) (by omega)
      have Hrc : Hid (rcomes R cN (R.all.getD k p0) = (!(R.all.getD k p0).gone && (decide ((R.all.getD k p0).f.due = cN) && decide (rbar R p q = 0)))) := by
        show _ = _
        unfold rcomes
        rw [hsp, hdq, Int.toNat_natCast, Int.toNat_natCast]
      have HNX : Hid (((R.all.take (k + 1)).filter (rcomes R cN)).map pd = ((R.all.take k).filter (rcomes R cN)).map pd ++ (if rcomes R cN (R.all.getD k p0) then [pd (R.all.getD k p0)] else [])) := Hnx
      have Hgn : Hid (gnd cN (R.all.getD k p0) = if (R.all.getD k p0).gone then R.all.getD k p0 else if (R.all.getD k p0).f.due = cN then { (R.all.getD k p0) with gone := true } else R.all.getD k p0) := rfl
      have Hby : Hid (∀ V, (rk R cN (k + 1)).Ok V B → (R.all.getD k p0).f.byt V B) := by
        intro V hV
        have hm : gnd cN (R.all.getD k p0) ∈ (rk R cN (k + 1)).all := by
          show _ ∈ allk cN R.all (k + 1)
          rw [allk_next cN (by omega)]
          exact List.mem_iff_getElem.2 ⟨k, by rw [List.length_set, allk_len]; omega, by simp⟩
        have := hV.byt _ hm
        rw [gnd_f] at this
        exact this
      have hpd : pd (R.all.getD k p0) = (R.all.getD k p0).f.d := rfl
      have HOut : Hid (OutL w.heap.size wr u3 (((R.all.take k).filter (rcomes R cN)).map pd)) := hout
      have hoL : (((R.all.take k).filter (rcomes R cN)).map pd).length ≤ k := by
        rw [List.length_map]
        exact Nat.le_trans (List.length_filter_le _ _) (by rw [List.length_take]; omega)
      have hwz : w.heap.size ≤ wr.heap.size := hst.kept.size
      have i1 : (0 : Int) ≤ (k : Int) := Int.natCast_nonneg _
      have i2 : (k : Int) < (N : Int) := by omega
      have i3 : (p : Int) < 16 := by omega
      have i4 : (q : Int) < 16 := by omega
      have Hfz : Hid (∀ V, Below wr.heap.size wr V → V.frozen? ⟨g, k * 6 + 5, none⟩ = false) := by
        intro V hV
        obtain ⟨g', hg', hz', _⟩ := (hst.post hV).ok.prow (k := k) (by omega)
        obtain rfl : g = g' := by rw [hva] at hg'; simpa using hg'
        exact hz' _
      have hglt : g < w.heap.size := Hlt.out g (.inr (.inl (by rw [hva']; rfl)))
      have hblt : R.b < w.heap.size := Hlt.out _ (.inl rfl)
      rw [hpd] at HNX
      clear hR hfz hst hout Hnx hpd hat hln hva hva' hmem
      generalize ((R.all.take k).filter (rcomes R cN)).map pd = DS at HNX HOut hoL
      generalize rcomes R cN (R.all.getD k p0) = RC at HNX Hrc
      generalize gnd cN (R.all.getD k p0) = GN at Hgone Hstay Hgn
      generalize R.all.getD k p0 = P at *
      have Hsp : Hid (P.f.src = p) := hsp
      have Hdq : Hid (P.f.dst = q) := hdq
      obtain ⟨F, G⟩ := P
      simp only at x0 x3 x4 x5 hfn Hsp Hdq HNX
      clear hsp hdq H0
      generalize hW1 : wr.alloc (.cells #[.int .i64 F.id, .int .i64 p, .int .i64 q, .int .i64 F.due, .slice F.a F.n F.c] 48) = W1
      have HB1 : Hid (Below wr.heap.size wr W1) := by rw [← hW1]; exact balloc (Below.refl _ wr)
      have hblk1 : W1.heap[wr.heap.size]? = some (.cells #[.int .i64 F.id, .int .i64 p, .int .i64 q, .int .i64 F.due, .slice F.a F.n F.c] 48 (0, 0)) := by rw [← hW1]; exact heap_alloc_new wr _
      have HF1 : Hid (W1.heap[wr.heap.size]? = some (.cells #[.int .i64 F.id, .int .i64 p, .int .i64 q, .int .i64 F.due, .slice F.a F.n F.c] 48 (0, 0))) := hblk1
      obtain ⟨e0, e1, e2, e3, e4⟩ := fl_cells hblk1
      have k5 := below_at HB1.out c5
      have k2 := below_at HB1.out c2
      have kx := below_at HB1.out x5
      have kz := Hfz.out _ HB1.out
      clear hblk1
      cases G with
      | true =>
        go_wp2
        go_quiet (fail)
        go_wp2
        have hRC : RC = false := Hrc.out
        have hbq : Below wr.heap.size wr (W1.drewN nq) := below_drewN HB1.out nq
        refine ⟨⟨k + 1, by omega, by go_num, ?_, Hstay.out _ hbq Hgn.out⟩, by simp [intOf]; omega⟩
        rw [HNX.out, hRC]
        simpa using HOut.out.still hbq
      | false =>
        by_cases hd : F.due = cN
        · have hGN : Hid (GN = { f := F, gone := true }) := by
            show GN = _
            have := Hgn.out
            rw [hd] at this
            simpa using this
          have Hrc2 : Hid (RC = decide (rbar R p q = 0)) := by
            show RC = _
            have := Hrc.out
            rw [hd] at this
            simpa using this
          clear Hgn Hrc Hstay
          subst hd
          go_wp2
          go_quiet (fail)
          go_wp2
          have hbq : Below wr.heap.size wr (W1.drewN nq) := below_drewN HB1.out nq
          have T2 : Hid (Rtep w ((W1.drewN nq).setCell ⟨g, k * 6 + 5, none⟩ (.bool true)) R (rk R F.due (k + 1)) B) := Hgone.out _ hbq hGN.out
          have hgw : wr.heap.size ≠ g := by omega
          have HF2 : Hid (((W1.drewN nq).setCell ⟨g, k * 6 + 5, none⟩ (.bool true)).heap[wr.heap.size]? = some (.cells #[.int .i64 F.id, .int .i64 p, .int .i64 q, .int .i64 F.due, .slice F.a F.n F.c] 48 (0, 0))) := blk_set_ne (w := W1.drewN nq) HF1.out hgw
          have HO2 : Hid (OutL w.heap.size ((W1.drewN nq).setCell ⟨g, k * 6 + 5, none⟩ (.bool true)) u3 DS) := (HOut.out.still hbq).keep (kset (P := fun j => j = g) _ g _ _ rfl) (fun j hj e => by omega)
          have hsz2 : wr.heap.size ≤ ((W1.drewN nq).setCell ⟨g, k * 6 + 5, none⟩ (.bool true)).heap.size := by have := hbq.size; simpa using this
          clear HF1 HOut hbq HB1 e0 e1 e2 e3 e4 k5 k2 kx kz hW1
          generalize (W1.drewN nq).setCell ⟨g, k * 6 + 5, none⟩ (.bool true) = V2 at T2 HF2 HO2 hsz2 ⊢
          obtain ⟨e0, e1, e2, e3, e4⟩ := fl_cells HF2.out
          have s1 : V2.cell? ⟨R.b, 51 + p * 16 + q, none⟩ = some (.bool (R.shut p q)) := (T2.out.ok.csh (p := p) (q := q) (by omega) (by omega)).1
          have s2 : V2.cell? ⟨R.b, 3 + q, none⟩ = some (.bool (R.up q)) := (T2.out.ok.cup (p := q) (by omega)).1
          unfold rbar at Hrc2
          generalize R.shut p q = S at s1 Hrc2
          generalize R.up q = U at s2 Hrc2
          cases S with
          | true =>
            go_quiet (fail)
            go_wp2
            have hRC : RC = false := Hrc2.out
            have hbq : Below V2.heap.size V2 (V2.drewN nq) := below_drewN (Below.refl _ _) _
            refine ⟨⟨k + 1, by omega, by go_num, ?_, T2.out.post hbq⟩, by simp [intOf]; omega⟩
            rw [HNX.out, hRC]
            simpa using HO2.out.still hbq
          | false =>
            cases U with
            | false =>
              go_quiet (fail)
              go_wp2
              have hRC : RC = false := Hrc2.out
              have hbq : Below V2.heap.size V2 (V2.drewN nq) := below_drewN (Below.refl _ _) _
              refine ⟨⟨k + 1, by omega, by go_num, ?_, T2.out.post hbq⟩, by simp [intOf]; omega⟩
              rw [HNX.out, hRC]
              simpa using HO2.out.still hbq
            | true =>
              go_quiet (fail)
              have hRC : RC = true := Hrc2.out
              obtain ⟨L, hL1, hL2, hL3⟩ := HO2.out
              have hLk : L.length ≤ k := by rw [← List.length_map (f := Fx.d), hL1]; exact hoL
              have HL2 : Hid (V2.ownsRow w.heap.size 48 5 u3 L.length (flCells L)) := hL2
              have HL3 : Hid (∀ f ∈ L, f.byt V2 w.heap.size) := hL3
              have HL1 : Hid (L.map Fx.d = DS) := hL1
              have hby : F.byt V2 B := Hby.out _ T2.out.ok
              have HG : Hid (∀ w', Below V2.heap.size V2 w' → Calls Try.prog 90 #[.agg #[.int .i64 F.id, .int .i64 p, .int .i64 q, .int .i64 F.due, .slice F.a F.n F.c]] w' fun e w2 => ∃ a c', e = .returned (.agg #[.int .i64 F.id, .int .i64 p, .int .i64 q, .int .i64 F.due, .slice a F.n c']) ∧ w2.ownsRow w'.heap.size 5 1 (.slice a F.n c') F.n (F.bs.map (Value.int .u8)) ∧ Below w'.heap.size w' w2) := fun w' hb' => given_any F.id p q F.due F.a F.n F.c F.bs (hby.rd.still hb') (by omega)
              have Hrr := hby.2
              clear hL1 hL2 hL3 hby
              go_wp2_with (first
                | (go_at_call 90; refine (HG.out _ (by repeat (first | exact Below.refl _ _ | apply below_drewN | apply Below.drew | apply balloc))).mono ?_; rintro e w2 ⟨av, cv, rfl, ho2, hb2⟩; have B2 : Hid (Below V2.heap.size V2 w2) := (bstep (by repeat (first | exact Below.refl _ _ | apply below_drewN | apply Below.drew | apply balloc)) hb2); have hw2 := B2.out.size)
                | (at_builtin; refine wpList_append_lies _ rfl _ _ 43 rfl w.heap.size 48 i0 (.agg #[.int .i64 0, .int .i64 0, .int .i64 0, .int .i64 0, .slice none 0 0]) 5 56 Try.underlying43 hi hz0 hz1 hz2 rfl (by omega) u3 L.length (flCells L) rfl (own_still HL2.out (balloc B2.out)) _ 1 1 _ rfl rfl (World.news_of_block (heap_alloc_new _ _)) (by simp [Value.oneCell']) (by omega) (by unfold maxLen; omega) (by omega) (by simp; omega) _ rfl ?_; intro g3 cap3 w3 hown3 hgrow3 hat3 hlt3)
                | fail)
              have HX : Hid (Below V2.heap.size V2 (w2.alloc (.cells #[.int .i64 F.id, .int .i64 p, .int .i64 q, .int .i64 F.due, .slice av F.n cv] 48))) := balloc B2.out
              have hbf : (⟨F.id, p, q, F.due, av, F.n, cv, F.bs⟩ : Fx).byt (w2.alloc (.cells #[.int .i64 F.id, .int .i64 p, .int .i64 q, .int .i64 F.due, .slice av F.n cv] 48)) w.heap.size := ⟨World.ownsRow.alloc (own_lower ho2 (by simp; omega)) _, Hrr⟩
              have hnew := OutL.push (f := ⟨F.id, p, q, F.due, av, F.n, cv, F.bs⟩) (own_still HL2.out HX.out) (fun f hf => (HL3.out f hf).keep (Kept.ofBelow HX.out (fun _ => False)) (fun _ _ => id)) hbf rfl hown3 hgrow3
              have hbel : Below w.heap.size V2 w3 := ((HX.out.mono (by omega)).trans ⟨hgrow3.os, hgrow3.tape, hgrow3.output, hgrow3.size, fun j hj => hgrow3.block j (by have := HX.out.size; omega) (fun e => by have := (World.ownsRow.lt HL2.out j e.symm).1; omega)⟩)
              have hst3 : Rtep w w3 R (rk R F.due (k + 1)) B := by
                refine ⟨T2.out.ok.keep (P := fun j => w.heap.size ≤ j) ⟨hbel.os, hbel.tape, hbel.output, hbel.size, fun i hi hp => hbel.block i (by omega)⟩ (fun j hj e => by have := Hlt.out j (rk_own hj); omega), T2.out.kept.step (Q := fun j => w.heap.size ≤ j) ⟨hbel.os, hbel.tape, hbel.output, hbel.size, fun i hi hp => hbel.block i (by omega)⟩ (fun j hj => Or.inr hj), T2.out.own⟩
              rw [List.map_append, HL1.out] at hnew
              have hd2 : (⟨F.id, p, q, F.due, av, F.n, cv, F.bs⟩ : Fx).d = F.d := by simp only [Fx.d, Hsp.out, Hdq.out]
              refine ⟨⟨k + 1, by omega, by go_num, ?_, hst3⟩, by simp [intOf]; omega⟩
              rw [HNX.out, hRC]
              simpa [hd2] using hnew
        · have hGN : Hid (GN = { f := F, gone := false }) := by
            show GN = _
            have := Hgn.out
            simpa [hd] using this
          have hRC : Hid (RC = false) := by
            show RC = _
            have := Hrc.out
            simpa [hd] using this
          clear Hgn Hrc
          go_wp2
          go_quiet (fail)
          go_wp2
          have hbq : Below wr.heap.size wr (W1.drewN nq) := below_drewN HB1.out nq
          refine ⟨⟨k + 1, by omega, by go_num, ?_, Hstay.out _ hbq hGN.out⟩, by simp [intOf]; omega⟩
          rw [HNX.out, hRC.out]
          simpa using HOut.out.still hbq
    · obtain rfl : k = N := by omega
      go_wp2
      go_ret
      have e1 : R.all.take k = R.all := by rw [← hN]; exact List.take_length
      rw [e1] at hout
      obtain ⟨a, n, c, h1, h2⟩ := hout.rdf
      subst h1
      have e2 : rk R cN k = { R with now := cN, all := R.all.map (gnd cN) } := by
        unfold rk
        rw [← hN, allk_all]
      rw [e2] at hst
      exact ⟨a, n, c, rfl, h2, hst⟩
end
end Go.Proofs.Ythogcanfinjfdaa.Et
namespace Go.Proofs.Ythogcanfinjfdaa.Et
open Go.RowKit Go.Maps
set_option linter.unusedVariables false
set_option linter.unusedSimpArgs false
set_option maxRecDepth 100000
section
variable {R R' : Rn} {w w' W : World} {B : Nat}
theorem set_far {W : World} {k i g j : Nat} {u v : Value} (h : W.cell? ⟨k, i, none⟩ = some u) (hne : k ≠ g) : (W.setCell ⟨g, j, none⟩ v).cell? ⟨k, i, none⟩ = some u := by
  have kp := kset (P := fun q => q = g) W g j v rfl
  have hb := kp.block k (World.block_lt_of_cell? W _ h) hne
  exact (World.cell?_of_block (w := W) hb).trans h
set_option maxHeartbeats 400000 in
theorem rdp_flip (h : R.Ok w B) (hB : B ≤ w.heap.size) (v : Ev) (i : Nat) (hi : i < R.all.length) (hk : v.k = 16) (x : Nat) (hvx : v.n = x) (hx : x / 8 < (R.all.getD i p0).f.n) (h63 : (x : Int) ≤ 9223372036854775807) : Calls Try.prog 95 #[.pointer (some ⟨R.b, 0, none⟩), .agg v.cs, .int .i64 i] w fun e w' => e = .returned (.int .i64 0) ∧ Rtep w w' R { R with all := R.all.set i { (R.all.getD i p0) with f := { (R.all.getD i p0).f with bs := (R.all.getD i p0).f.bs.set (x / 8) (flipB ((R.all.getD i p0).f.bs.getD (x / 8) 0) (x % 8)) } } } B := by
  generalize hW : w.alloc (.cells v.cs 41) = W
  have hbW : Below w.heap.size w W := by rw [← hW]; exact balloc (Below.refl _ w)
  have hblk : W.heap[w.heap.size]? = some (.cells v.cs 41 (0, 0)) := by rw [← hW]; exact heap_alloc_new w _
  have hWs : W.heap.size = w.heap.size + 1 := by rw [← hW]; simp
  obtain ⟨g, hva, xz, x0, x1, x2, x3, x4, x5⟩ := (h.still hbW).prow hi
  have c5 := (h.still hbW).c563
  rw [hva] at c5
  obtain ⟨gb, hgb, _, _⟩ := own_at (h.byt _ (pmem_getD hi)).1 hx
  generalize hRR : ({ R with all := R.all.set i { (R.all.getD i p0) with f := { (R.all.getD i p0).f with bs := (R.all.getD i p0).f.bs.set (x / 8) (flipB ((R.all.getD i p0).f.bs.getD (x / 8) 0) (x % 8)) } } } : Rn) = RN
  have HS : Hid (∀ V, Below w.heap.size w V → Rtep w (V.setCell ⟨gb, x / 8, none⟩ (.int .u8 (flipB ((R.all.getD i p0).f.bs.getD (x / 8) 0) (x % 8)))) R RN B) := fun V hV => by rw [← hRR]; exact Rtep.pre hV (Rtep.bit (h.still hV) i hi gb hgb _ _ (flipB_range _ _))
  have HY : Hid (∀ V, Below w.heap.size w V → V.cell? ⟨gb, x / 8, none⟩ = some (.int .u8 ((R.all.getD i p0).f.bs.getD (x / 8) 0)) ∧ V.frozen? ⟨gb, x / 8, none⟩ = false) := fun V hV => by
    obtain ⟨g2, hg2, a1, a2⟩ := own_at ((h.still hV).byt _ (pmem_getD hi)).1 hx
    obtain rfl : gb = g2 := by rw [hgb] at hg2; simpa using hg2
    exact ⟨a1, a2⟩
  have hyr := (h.byt _ (pmem_getD hi)).2 (x / 8)
  have HG2 : Hid (gb < w.heap.size) := h.ltOwn (.inr (.inr ⟨_, pmem_getD hi, by show (Value.slice _ _ _).ownBlock = _; rw [hgb]; rfl⟩))
  generalize hF : (R.all.getD i p0).f = F at *
  generalize hQ : W.alloc (.cells #[.int .i64 F.id, .int .i64 F.src, .int .i64 F.dst, .int .i64 F.due, .slice F.a F.n F.c] 48) = Q
  have hbQ : Below w.heap.size w Q := by rw [← hQ]; exact balloc hbW
  obtain ⟨n0, n1, n2, n3, n4⟩ := fl_cells (show Q.heap[W.heap.size]? = some (.cells #[.int .i64 F.id, .int .i64 F.src, .int .i64 F.dst, .int .i64 F.due, .slice F.a F.n F.c] 48 (0, 0)) by rw [← hQ]; exact heap_alloc_new W _)
  obtain ⟨k0, k1, k2, k3, k4⟩ := fl_cells (show Q.heap[w.heap.size + 1]? = some (.cells #[.int .i64 F.id, .int .i64 F.src, .int .i64 F.dst, .int .i64 F.due, .slice F.a F.n F.c] 48 (0, 0)) by rw [← hWs, ← hQ]; exact heap_alloc_new W _)
  obtain ⟨e0, e1, e2, e3, e4, e5⟩ := ev_cells (show Q.heap[w.heap.size]? = some (.cells v.cs 41 (0, 0)) by rw [← hQ]; exact blk_alloc hblk)
  rw [hk] at e0
  have d5 := (h.still hbQ).c563
  rw [hva] at d5
  have HR : Hid (R.Ok Q B) := h.still hbQ
  have HbQ : Hid (Below w.heap.size w Q) := hbQ
  have i1 : (0 : Int) ≤ (i : Int) := Int.natCast_nonneg _
  have i2 : (i : Int) < (R.all.length : Int) := by omega
  unfold Ev.cs at hW ⊢
  rw [hk] at hW ⊢
  rw [hvx] at hW e3 ⊢
  clear hvx
  rw [hgb] at hQ n4 k4 x4
  obtain ⟨g', hva', yz, y0, y1, y2, y3, y4, y5⟩ := HR.out.prow hi
  obtain rfl : g = g' := by rw [hva] at hva'; simpa using hva'
  rw [hF] at y0 y1 y2 y3 y4
  clear h hbW hblk hbQ xz hva'
  go_enter Try.func95, Try.ntmps95
  rw [hgb] at y4
  clear hgb
  obtain ⟨o1, o2⟩ := HY.out _ HbQ.out
  have HT : Hid (∀ w1 (m : Int), m = ((x % 8 : Nat) : Int) → Calls Try.prog 98 #[.int .u8 (F.bs.getD (x / 8) 0), .int .i64 m] w1 fun e w' => e = .returned (.int .u8 (flipB (F.bs.getD (x / 8) 0) (x % 8))) ∧ w1 = w') := fun w1 m hm => by
    subst hm
    exact turned_any _ _ hyr.1 hyr.2 (Nat.mod_lt _ (by omega))
  generalize F.bs.getD (x / 8) 0 = Y at *
  generalize flipB Y (x % 8) = YY at *
  have HS2 := HS.out _ HbQ.out
  have HS3 := HS.out _ HbQ.out.drew
  have b0 : (0 : Int) ≤ (x : Int) / 8 := by omega
  have b1 : (x : Int) / 8 ≤ 9223372036854775807 := by omega
  have b2 : (x : Int) / 8 < (F.n : Int) := by omega
  have b3 : ((x : Int) / 8).toNat = x / 8 := by omega
  have b4 : (x : Int).tmod 8 = ((x % 8 : Nat) : Int) := by rw [Int.tmod_eq_emod_of_nonneg (by omega)]; omega
  have b6 : IntKind.i64.wrap ((x : Int) / 8) = (x : Int) / 8 := wrap_id (by omega) (by omega)
  have hgw : gb < w.heap.size := HG2.out
  go_wp2
  refine wp_region_held_drew (S := (fun w' => w'.cell? ⟨w.heap.size + 1, 4, none⟩ = some (.slice (some ⟨gb, 0, none⟩) F.n F.c) ∧ w'.cell? ⟨w.heap.size, 3, none⟩ = some (.int .i64 (x : Int)))) (by kernel_rfl) ⟨k4, e3⟩ (fun hHeld => ?_)
  simp only [Act.put, List.size_toArray, List.length_cons, List.length_nil, Nat.zero_add]
  refine wpAnyH_take (i := 0) (v := .pointer (some ⟨w.heap.size + 1, 4, none⟩)) rfl (by kernel_rfl) (by kernel_rfl) (by kernel_rfl) (fun _ _ _ h => h) (Or.inl ⟨by rfl, fun w' hS => by go_simp⟩) hHeld ?_
  simp only [Act.put, List.getElem_toArray, List.getElem_cons_zero, List.getElem_cons_succ, List.setIfInBounds_toArray, List.set_cons_zero, List.set_cons_succ]
  refine wpAnyH_take (i := 1) (v := .slice (some ⟨gb, 0, none⟩) F.n F.c) rfl (by kernel_rfl) (by kernel_rfl) (by kernel_rfl) (fun _ _ _ h => h) (Or.inl ⟨by rfl, fun w' hS => by (obtain ⟨s1, s2⟩ := hS; go_simp)⟩) hHeld ?_
  simp only [Act.put, List.getElem_toArray, List.getElem_cons_zero, List.getElem_cons_succ, List.setIfInBounds_toArray, List.set_cons_zero, List.set_cons_succ]
  refine wpAnyH_take (i := 2) (v := .pointer (some ⟨w.heap.size, 3, none⟩)) rfl (by kernel_rfl) (by kernel_rfl) (by kernel_rfl) (fun _ _ _ h => h) (Or.inl ⟨by rfl, fun w' hS => by go_simp⟩) hHeld ?_
  simp only [Act.put, List.getElem_toArray, List.getElem_cons_zero, List.getElem_cons_succ, List.setIfInBounds_toArray, List.set_cons_zero, List.set_cons_succ]
  refine wpAnyH_take (i := 3) (v := .int .i64 (x : Int)) rfl (by kernel_rfl) (by kernel_rfl) (by kernel_rfl) (fun _ _ _ h => h) (Or.inl ⟨by rfl, fun w' hS => by (obtain ⟨s1, s2⟩ := hS; go_simp)⟩) hHeld ?_
  simp only [Act.put, List.getElem_toArray, List.getElem_cons_zero, List.getElem_cons_succ, List.setIfInBounds_toArray, List.set_cons_zero, List.set_cons_succ]
  refine wpAnyH_take (i := 4) (v := .int .i64 ((x : Int) / 8)) rfl (by kernel_rfl) (by kernel_rfl) (by kernel_rfl) (fun _ _ _ h => h) (Or.inl ⟨by rfl, fun w' hS => by go_simp⟩) hHeld ?_
  simp only [Act.put, List.getElem_toArray, List.getElem_cons_zero, List.getElem_cons_succ, List.setIfInBounds_toArray, List.set_cons_zero, List.set_cons_succ]
  refine wpAnyH_take (i := 5) (v := .pointer (some ⟨w.heap.size + 1, 4, none⟩)) rfl (by kernel_rfl) (by kernel_rfl) (by kernel_rfl) (fun _ _ _ h => h) (Or.inl ⟨by rfl, fun w' hS => by go_simp⟩) hHeld ?_
  simp only [Act.put, List.getElem_toArray, List.getElem_cons_zero, List.getElem_cons_succ, List.setIfInBounds_toArray, List.set_cons_zero, List.set_cons_succ]
  refine wpAnyH_take (i := 6) (v := .slice (some ⟨gb, 0, none⟩) F.n F.c) rfl (by kernel_rfl) (by kernel_rfl) (by kernel_rfl) (fun _ _ _ h => h) (Or.inl ⟨by rfl, fun w' hS => by (obtain ⟨s1, s2⟩ := hS; go_simp)⟩) hHeld ?_
  simp only [Act.put, List.getElem_toArray, List.getElem_cons_zero, List.getElem_cons_succ, List.setIfInBounds_toArray, List.set_cons_zero, List.set_cons_succ]
  refine wpAnyH_take (i := 7) (v := .pointer (some ⟨w.heap.size, 3, none⟩)) rfl (by kernel_rfl) (by kernel_rfl) (by kernel_rfl) (fun _ _ _ h => h) (Or.inl ⟨by rfl, fun w' hS => by go_simp⟩) hHeld ?_
  simp only [Act.put, List.getElem_toArray, List.getElem_cons_zero, List.getElem_cons_succ, List.setIfInBounds_toArray, List.set_cons_zero, List.set_cons_succ]
  refine wpAnyH_take (i := 8) (v := .int .i64 (x : Int)) rfl (by kernel_rfl) (by kernel_rfl) (by kernel_rfl) (fun _ _ _ h => h) (Or.inl ⟨by rfl, fun w' hS => by (obtain ⟨s1, s2⟩ := hS; go_simp)⟩) hHeld ?_
  simp only [Act.put, List.getElem_toArray, List.getElem_cons_zero, List.getElem_cons_succ, List.setIfInBounds_toArray, List.set_cons_zero, List.set_cons_succ]
  refine wpAnyH_take (i := 9) (v := .int .i64 ((x : Int) / 8)) rfl (by kernel_rfl) (by kernel_rfl) (by kernel_rfl) (fun _ _ _ h => h) (Or.inl ⟨by rfl, fun w' hS => by go_simp⟩) hHeld ?_
  simp only [Act.put, List.getElem_toArray, List.getElem_cons_zero, List.getElem_cons_succ, List.setIfInBounds_toArray, List.set_cons_zero, List.set_cons_succ]
  refine wpAnyH_take (i := 10) (v := .pointer (some ⟨gb, x / 8, none⟩)) rfl (by kernel_rfl) (by kernel_rfl) (by kernel_rfl) (fun _ _ _ h => h) (Or.inl ⟨by rfl, fun w' hS => by go_simp⟩) hHeld ?_
  simp only [Act.put, List.getElem_toArray, List.getElem_cons_zero, List.getElem_cons_succ, List.setIfInBounds_toArray, List.set_cons_zero, List.set_cons_succ]
  refine wpAnyH_take (i := 12) (v := .pointer (some ⟨w.heap.size, 3, none⟩)) rfl (by kernel_rfl) (by kernel_rfl) (by kernel_rfl) (fun _ _ _ h => h) (Or.inl ⟨by rfl, fun w' hS => by go_simp⟩) hHeld ?_
  simp only [Act.put, List.getElem_toArray, List.getElem_cons_zero, List.getElem_cons_succ, List.setIfInBounds_toArray, List.set_cons_zero, List.set_cons_succ]
  refine wpAnyH_take (i := 13) (v := .int .i64 (x : Int)) rfl (by kernel_rfl) (by kernel_rfl) (by kernel_rfl) (fun _ _ _ h => h) (Or.inl ⟨by rfl, fun w' hS => by (obtain ⟨s1, s2⟩ := hS; go_simp)⟩) hHeld ?_
  simp only [Act.put, List.getElem_toArray, List.getElem_cons_zero, List.getElem_cons_succ, List.setIfInBounds_toArray, List.set_cons_zero, List.set_cons_succ]
  refine wpAnyH_take (i := 14) (v := .int .i64 ((x % 8 : Nat) : Int)) rfl (by kernel_rfl) (by kernel_rfl) (by kernel_rfl) (fun _ _ _ h => h) (Or.inl ⟨by rfl, fun w' hS => by go_simp⟩) hHeld ?_
  simp only [Act.put, List.getElem_toArray, List.getElem_cons_zero, List.getElem_cons_succ, List.setIfInBounds_toArray, List.set_cons_zero, List.set_cons_succ]
  refine wpAnyH_ready (rs := [11]) (by kernel_rfl) (by simp) ?_
  refine AllReadyH.cons rfl (fun K hK => ?_) AllReadyH.nil
  go_simp
  refine hK.out _ _ ⟨k4, e3⟩ (fun hHeld => ?_)
  clear hK K
  refine wpAnyH_ready (rs := [15]) (by kernel_rfl) (by simp) ?_
  refine AllReadyH.cons rfl (fun K hK => ?_) AllReadyH.nil
  go_simp
  refine (HT.out _ _ rfl).mono ?_
  rintro e w2 ⟨rfl, rfl⟩
  refine hK.out _ _ ⟨k4, e3⟩ (fun hHeld => ?_)
  clear hK K
  refine wpAnyH_take (i := 16) (v := .pointer (some ⟨gb, x / 8, none⟩)) rfl (by kernel_rfl) (by kernel_rfl) (by kernel_rfl) (fun _ _ _ h => h) (Or.inl ⟨by rfl, fun w' hS => by go_simp⟩) hHeld ?_
  simp only [Act.put, List.getElem_toArray, List.getElem_cons_zero, List.getElem_cons_succ, List.setIfInBounds_toArray, List.set_cons_zero, List.set_cons_succ]
  refine wpAnyH_ready (rs := [17]) (by kernel_rfl) (by simp) ?_
  refine AllReadyH.cons rfl (fun K hK => ?_) AllReadyH.nil
  go_simp
  refine hK.out _ _ ⟨set_far k4 (by omega), set_far e3 (by omega)⟩ (fun hHeld => ?_)
  clear hK K
  refine wpAnyH_done (by kernel_rfl) ?_ _
  clear hHeld
  go_wp2
  go_ret
  first | exact ⟨rfl, HS2⟩ | exact ⟨rfl, HS3⟩
end
end Go.Proofs.Ythogcanfinjfdaa.Et
