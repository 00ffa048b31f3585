import Derived.Test.YtghihdenbdnnjaaLkv
namespace Go.Proofs.Ytghihdenbdnnjaa.Ln
open Go.RowKit Mb
set_option linter.unusedVariables false
set_option maxRecDepth 100000
set_option linter.unusedSimpArgs false
section
variable {w w' W : World} {B : Nat} {X X' : Wr}
def Wr.addF (X : Wr) (s : Nat) (v : Value) (y : Nat × Bn) : Wr := { X with v := upd X.v (8 + s) v, f := upd X.f s (X.f s ++ [y]) }
theorem addF_step {D w5 w6 : World} (h : X.Ok D B) {s : Nat} (hs : s < 2) (hb : Below D.heap.size D w5) {y : Nat × Bn} (hy : y.2.Ok w5 D.heap.size) (hB : B ≤ D.heap.size) {g cap n : Nat} (hn : n = (X.f s).length) (hrow : w6.ownsRow B 54 6 (.slice (some ⟨g, 0, none⟩) (n + 1) cap) (n + 1) ((X.f s).flatMap frc ++ frc y)) (k : Kept w5 w6 (fun q => (X.v (8 + s)).ownBlock = some q)) (hl : (X.v (8 + s)).ownBlock = some g ∨ w5.heap.size ≤ g) : Xstep D (w6.setCell ⟨X.b, 8 + s, none⟩ (.slice (some ⟨g, 0, none⟩) (n + 1) cap)) X (X.addF s (.slice (some ⟨g, 0, none⟩) (n + 1) cap) y) B := by
  subst hn
  have hd := hb.size
  have kD : Kept D w6 (fun q => (X.v (8 + s)).ownBlock = some q) := (Kept.ofBelow hb _).trans k
  have hyk : ¬ (X.v (8 + s)).ownBlock = some y.2.k := fun e => by
    have := h.lt (own_r (by omega) (by omega) e); have := hy.lo; omega
  refine h.grow (i := 8 + s) (by omega) (by omega) rfl rfl rfl rfl rfl rfl ?_ (fun j j4 j12 hj => ?_) kD (fun q hq => ?_) (fun z hz => ?_)
  · have e1 : rowT (8 + s) = 54 := by unfold rowT; rw [if_neg (by omega), if_pos (by omega)]
    have e2 : rowS (8 + s) = 6 := by unfold rowS; rw [if_neg (by omega), if_pos (by omega)]
    have e3 : (X.addF s (.slice (some ⟨g, 0, none⟩) ((X.f s).length + 1) cap) y).rowN (8 + s) = (X.f s).length + 1 := by unfold Wr.rowN Wr.addF; rw [if_neg (by omega), if_neg (by omega), if_pos (by omega), Nat.add_sub_cancel_left]; show (upd X.f s _ s).length = _; rw [upd_same]; simp
    have e4 : (X.addF s (.slice (some ⟨g, 0, none⟩) ((X.f s).length + 1) cap) y).rowC (8 + s) = (X.f s).flatMap frc ++ frc y := by unfold Wr.rowC Wr.addF; rw [if_neg (by omega), if_neg (by omega), if_pos (by omega), Nat.add_sub_cancel_left]; show (upd X.f s _ s).flatMap frc = _; rw [upd_same]; simp
    rw [e1, e2, e3, e4]; exact hrow
  · unfold Wr.rowN Wr.rowC Wr.addF
    by_cases c1 : j < 6
    · simp only [c1, if_true]; exact ⟨trivial, trivial⟩
    · by_cases c2 : j < 8
      · simp only [c1, c2, if_true, if_false]; exact ⟨trivial, trivial⟩
      · by_cases c3 : j < 10
        · simp only [c1, c2, c3, if_true, if_false]; rw [upd_ne _ _ (show j - 8 ≠ s by omega)]; exact ⟨rfl, rfl⟩
        · simp only [c1, c2, c3, if_false]; exact ⟨trivial, trivial⟩
  · simp [Value.ownBlock] at hq
    subst hq
    exact hl.imp id (fun hh => by omega)
  · obtain ⟨t, ht, hz⟩ := hz
    simp only [Wr.addF] at hz
    rcases hz with hz | hz | ⟨m, hz⟩
    · exact .inl ⟨t, ht, .inl hz⟩
    · exact .inl ⟨t, ht, .inr (.inl hz)⟩
    · by_cases e : t = s
      · subst e
        rw [upd_same] at hz
        rcases List.mem_append.1 hz with hz | hz
        · exact .inl ⟨t, ht, .inr (.inr ⟨m, hz⟩)⟩
        · simp at hz
          have hz2 : z = y.2 := by rw [← hz]
          subst hz2
          refine .inr ⟨.inl ⟨(⟨(hy.keep k hyk).blk, hy.by_, hy.cap, by have := hy.lo; omega, hy.pos, hy.le⟩ : Bn.Ok _ _ _), hy.lo⟩, fun e => ?_, fun e => ?_⟩
          · have := h.lt (own_m (s := 0) (by omega) e); have := hy.lo; omega
          · have := h.lt (own_m (s := 1) (by omega) e); have := hy.lo; omega
      · rw [upd_ne _ _ e] at hz; exact .inl ⟨t, ht, .inr (.inr ⟨m, hz⟩)⟩
theorem addF_pu (X : Wr) (s : Nat) (v : Value) (y : Nat × Bn) : (X.addF s v y).pu = { X.pu with f := upd X.pu.f s (X.pu.f s ++ [fbs y]) } := by
  unfold Wr.addF Wr.pu
  simp only [upd_comp (fun l : List (Nat × Bn) => l.map fbs), List.map_append, List.map_cons, List.map_nil]
theorem step_pushF {ops : Array Oper} {o : Oper} {a : Act} {K : Act → World → Prop} {Q : Exit → Act → World → Prop} {E : Prop} (hgd : o.guard = none) (s x : Operand)
    (ho : o.op = .call { callee := .builtin .append, args := #[s, x], argTypes := #[37, 37] })
    (w0 : World) (v : Value) (vals : List Value) (L : List Value) (hL : L.length = 6) (hL1 : ∀ u ∈ L, u.oneCell' = true) (hs : a.eval s = v) (n : Nat) (hown : w0.ownsRow B 54 6 v n vals) (hw : w = w0.alloc (.cells L.toArray 54)) (hx : a.eval x = .slice (some ⟨w0.heap.size, 0, none⟩) 1 1)
    (hn : n + 1 ≤ 1000000) (hbase : B ≤ w0.heap.size)
    (h : ∀ g cap w', w'.ownsRow B 54 6 (.slice (some ⟨g, 0, none⟩) (n + 1) cap) (n + 1) (vals ++ L) → Kept w0 w' (fun k => v.ownBlock = some k) → (v.ownBlock = some g ∨ w0.heap.size ≤ g) → g < w'.heap.size → K (a.put o.dst (.slice (some ⟨g, 0, none⟩) (n + 1) cap)) w') : if Region.wanted o (yielded ops a.tmps) = true then Oper.wp Try.prog o a w K Q else E := by
  obtain ⟨i0, hi, hz0, hz1, hz2⟩ := frame_info
  subst hw
  refine step_append_lies _ hgd s x 37 ho B 54 i0 (.agg z6.toArray) 6 64 Try.underlying37 hi hz0 hz1 hz2 rfl (by decide) v n vals hs (World.ownsRow.alloc hown _) ⟨w0.heap.size, 0, none⟩ 1 1 L hx (by rw [hL]) (fun j y hy => by rw [Addr.add_mid, Nat.zero_add, blk_cell (heap_alloc_new _ _), List.getElem?_toArray, hy]) hL1 (by omega) (by unfold maxLen; omega) (by omega) (by simp; omega) _ rfl fun g cap w' h2 h3 h4 h5 => h g cap w' h2 ?_ ?_ h5
  · exact (Kept.ofBelow ((Below.refl _ w0).alloc (Nat.le_refl _) (.cells L.toArray 54)) _).step (Kept.ofGrown h3) (fun j hj => .inl hj.symm)
  · rcases h4 with h4 | h4
    · exact .inl h4
    · right; rw [h4]; simp
theorem numb_take (cs : List (List Int)) (n i : Nat) (h : i < cs.length) : numb n (cs.take (i + 1)) = numb n (cs.take i) ++ [(n + i + 1, cs.getD i [])] := by
  rw [List.take_add_one, List.getElem?_eq_getElem h]
  simp only [Option.toList_some]
  rw [numb_snoc, List.length_take, Nat.min_eq_left (by omega)]
  simp [List.getD, h]
structure ShS (w1 wr : World) (X : Wr) (B s op i : Nat) (cs : List (List Int)) (Xi : Wr) : Prop where
  st : Xstep w1 wr X Xi B
  pu : Xi.pu = { X.pu with f := upd X.pu.f s (X.pu.f s ++ numb op (cs.take i)) }
  m : Xi.m = X.m
  e : Xi.e = X.e
theorem ShS.next {w1 wr w7 : World} {s op i : Nat} {cs : List (List Int)} {Xi : Wr} {v : Value} {y : Bn} (h : ShS w1 wr X B s op i cs Xi) {D : World} (hb : Below wr.heap.size wr D) (hs : Xstep D w7 Xi (Xi.addF s v (op + i + 1, y)) B) (hi : i < cs.length) (hy : y.bs = cs.getD i []) : ShS w1 w7 X B s op (i + 1) cs (Xi.addF s v (op + i + 1, y)) := by
  refine ⟨(h.st.post hb).trans hs, ?_, h.m, h.e⟩
  rw [addF_pu, h.pu]
  simp only [fbs, hy, upd_same, upd_twice]
  rw [numb_take cs op i hi, List.append_assoc]
set_option maxHeartbeats 4000000 in
theorem wshow_any (h : X.Ok w B) (hI : X.pu.Inv) {T : Nat} (hT : X.pu.Sz T) (hT2 : T ≤ 1000) (hB : B ≤ w.heap.size) {s : Nat} (hs : s < 2) : Calls Try.prog 9 #[.pointer (some ⟨X.b, 0, none⟩), .int .i64 (s : Int)] w fun e w' => XO w w' X B (X.pu.show s) e := by
  have i1 : (0 : Int) ≤ (s : Int) := Int.natCast_nonneg _
  have i2 : (s : Int) < 2 := by omega
  have j1 : (0 : Int) ≤ 1 - (s : Int) := by omega
  have j2 : 1 - (s : Int) ≤ 1 := by omega
  have cm := h.cm hs
  have HX0 : Hid (X.Ok w B) := h
  have hIs := hI s hs
  have hE := (h.mo s hs).el _ _ (h.me s hs)
  have mt := h.mt s hs
  obtain ⟨op, hop⟩ : ∃ op, (X.e s).o.p = op := ⟨_, rfl⟩
  obtain ⟨sn, hsn⟩ : ∃ sn, (X.e s).sent = sn := ⟨_, rfl⟩
  have k1 := hE.s1
  rw [hop, hsn] at k1
  have hsT : sn ≤ 1000 := by
    have a1 : (X.e s).sent = ((X.p s).map Bn.bs).length := hIs.sent
    have a2 : ((X.p s).map Bn.bs).length ≤ T := (hT s hs).1
    omega
  have hfT : (X.f s).length ≤ 5 * T := by have a2 : ((X.f s).map fbs).length ≤ 5 * T := (hT s hs).2.1; rw [List.length_map] at a2; exact a2
  have HF : Hid (Calls Try.prog 25 #[.pointer (some ⟨(X.m s).b, 0, none⟩), .int .i64 (2 + 3 * (1 - (s : Int)))] w fun e w' => FrO w w' (X.m s) (X.e s) e) := frames_yes (h.mo s hs) (qat h hs)
  have hlen : (takeP (X.e s).pu.ob (X.e s).pu.op X.win).length = min X.win ((X.e s).pu.sent - (X.e s).pu.op) := hIs.shown_len
  obtain ⟨cs, hcs⟩ : ∃ cs, takeP (X.e s).pu.ob (X.e s).pu.op X.win = cs := ⟨_, rfl⟩
  rw [hcs] at hlen
  have hcsP : X.pu.shown s = cs := hcs
  have Hw1 : Hid (1 ≤ X.win ∧ X.win ≤ 5) := (show _ ∧ _ from ⟨h.w1.1, h.w1.2.1⟩)
  have hw5 : X.win ≤ 5 := h.w1.2.1
  have hmap : (takeN (X.e s).o.f (X.e s).o.p (X.m s).win).map Bd.bs = cs := by rw [takeN_P, mt.2.1]; exact hcs
  have htg := mt.1
  clear hIs hI hT
  go_enter Try.func9, Try.ntmps9
  go_wp2_with (first | (go_at_call 15; refine (pid_any j1 j2).mono ?_; rintro e w' ⟨rfl, rfl⟩) | (go_at_call 25; refine HF.out.mono ?_) | fail)
  rintro e w1 ⟨⟨fb, n, bl, ks, rfl, hbl, hbn, hfb, hfs⟩⟩
  rw [← hbl] at hmap
  have hcl : cs.length = n := by rw [← hmap, List.length_map]; exact hbn
  have hX1 := h.still hfs.bel
  have HX1 : Hid (X.Ok w1 B) := hX1
  have hmin : n = min X.win (sn - op) := by
    have a3 : (X.e s).pu.sent = sn := hsn
    have a4 : (X.e s).pu.op = op := hop
    rw [a3, a4] at hlen
    omega
  have HWt : Hid (∀ D, Below w1.heap.size w1 D → Calls Try.prog 27 #[.pointer (some ⟨(X.m s).b, 0, none⟩), .int .i64 (2 + 3 * (1 - (s : Int)))] D fun e w' => e = .returned (.int .i64 ((sn : Int) - (op : Int))) ∧ Below D.heap.size D w') := fun D hb => (show Calls _ _ _ _ _ from by have := wait_yes ((hX1.still hb).mo s hs) (qat (hX1.still hb) hs); rw [hsn, hop] at this; exact this)
  have Hmn : Hid ((if (sn : Int) - (op : Int) < (X.win : Int) then (sn : Int) - (op : Int) else (X.win : Int)) = (n : Int)) := (show _ = _ from by split <;> omega)
  have m0 := below_at hfs.bel cm
  have m1 : w1.cell? ⟨X.b, 2, none⟩ = some (.int .i64 (X.win : Int)) := hX1.c 2 rfl
  have hn5 : n ≤ 5 := by omega
  have HB1 : Hid (B ≤ w1.heap.size) := (show B ≤ w1.heap.size from Nat.le_trans hB hfs.bel.size)
  have Hcs : Hid (cs.length = n) := hcl
  have Hcl : Hid (∀ j, j < n → (gB bl j).bs = cs.getD j []) := fun j hj => by
    have e1 := gB_at (bl := bl) (i := j) (by omega)
    rw [← hmap]
    simp [List.getD, e1]
  have HFS : Hid (FrS w w1 fb n tg9 op bl n ks) := (show FrS _ _ _ _ _ _ _ _ _ from by rw [← htg, ← hop]; exact hfs)
  have Hnf0 : Hid (¬ X.own fb ∧ fb < w1.heap.size ∧ ∀ j, j < n → ¬ X.own (ks j) ∧ ks j < w1.heap.size) := (show _ ∧ _ from ⟨fun e => by have := h.lt e; omega, hfs.row.lt, fun j hj => ⟨fun e => by have := h.lt e; have := (hfs.bk j hj).2; omega, (hfs.bk j hj).1.lt⟩⟩)
  have Hlens : Hid (∀ j, j < n → 0 < (gB bl j).bs.length ∧ (gB bl j).bs.length ≤ 300 ∧ By (gB bl j).bs) := fun j hj => by
    have e1 := gB_at (bl := bl) (i := j) (by omega)
    have e2 := takeN_at (X.e s).o.f (X.m s).win (X.e s).o.p j (by rw [← hbl]; omega)
    rw [← hbl, e1] at e2
    have e3 := hE.oo.el _ _ e2
    exact ⟨e3.pos, e3.le, e3.by_⟩
  have HB1w : Hid (Below w.heap.size w w1) := hfs.bel
  have HPs : Hid (X.pu.show s = { X.pu with f := upd X.pu.f s (X.pu.f s ++ numb op cs) }) := (show _ = _ from by unfold Px.show; rw [hcsP, show (X.pu.E s).op = op from hop])
  have Hfn : Hid ((X.f s).length ≤ 5000) := (show (X.f s).length ≤ 5000 from by omega)
  have Hse : Hid ((X.e s).sent = sn ∧ (X.e s).o.p = op) := (show _ ∧ _ from ⟨hsn, hop⟩)
  clear hE hX1 hfs hbl hbn hmap hcl hlen hcs hcsP mt h hop hsn htg hmin hfb hB hfT
  go_wp2
  refine wp_region_held_drew (S := (fun w' => w'.cell? ⟨X.b, s, none⟩ = some (.pointer (some ⟨(X.m s).b, 0, none⟩)) ∧ w'.cell? ⟨X.b, 2, none⟩ = some (.int .i64 (X.win : Int)))) (by kernel_rfl) ⟨below_at (drew_bel _) m0, below_at (drew_bel _) m1⟩ (fun hHeld => ?_)
  simp only [Act.put, List.size_toArray, List.length_cons, List.length_nil, Nat.zero_add]
  refine wpAnyH_take (i := 0) (v := .slice (some ⟨fb, 0, none⟩) n n) rfl (by kernel_rfl) (by kernel_rfl) (by kernel_rfl) (fun _ _ _ h => h) (Or.inl ⟨by rfl, fun w' hS => by go_simp⟩) hHeld ?_
  simp only [Act.put, List.getElem_toArray, List.getElem_cons_zero, List.getElem_cons_succ, List.setIfInBounds_toArray, List.set_cons_zero, List.set_cons_succ]
  refine wpAnyH_take (i := 1) (v := .int .i64 (n : Int)) rfl (by kernel_rfl) (by kernel_rfl) (by kernel_rfl) (fun _ _ _ h => h) (Or.inl ⟨by rfl, fun w' hS => by go_simp⟩) hHeld ?_
  simp only [Act.put, List.getElem_toArray, List.getElem_cons_zero, List.getElem_cons_succ, List.setIfInBounds_toArray, List.set_cons_zero, List.set_cons_succ]
  refine wpAnyH_take (i := 2) (v := .pointer (some ⟨X.b, 0, none⟩)) rfl (by kernel_rfl) (by kernel_rfl) (by kernel_rfl) (fun _ _ _ h => h) (Or.inl ⟨by rfl, fun w' hS => by go_simp⟩) hHeld ?_
  simp only [Act.put, List.getElem_toArray, List.getElem_cons_zero, List.getElem_cons_succ, List.setIfInBounds_toArray, List.set_cons_zero, List.set_cons_succ]
  refine wpAnyH_take (i := 3) (v := .pointer (some ⟨X.b, 0, none⟩)) rfl (by kernel_rfl) (by kernel_rfl) (by kernel_rfl) (fun _ _ _ h => h) (Or.inl ⟨by rfl, fun w' hS => by go_simp⟩) hHeld ?_
  simp only [Act.put, List.getElem_toArray, List.getElem_cons_zero, List.getElem_cons_succ, List.setIfInBounds_toArray, List.set_cons_zero, List.set_cons_succ]
  refine wpAnyH_take (i := 4) (v := .pointer (some ⟨X.b, 2, none⟩)) rfl (by kernel_rfl) (by kernel_rfl) (by kernel_rfl) (fun _ _ _ h => h) (Or.inl ⟨by rfl, fun w' hS => by go_simp⟩) hHeld ?_
  simp only [Act.put, List.getElem_toArray, List.getElem_cons_zero, List.getElem_cons_succ, List.setIfInBounds_toArray, List.set_cons_zero, List.set_cons_succ]
  refine wpAnyH_take (i := 5) (v := .int .i64 (X.win : Int)) rfl (by kernel_rfl) (by kernel_rfl) (by kernel_rfl) (fun _ _ _ h => h) (Or.inl ⟨by rfl, fun w' hS => by (obtain ⟨s0, s1⟩ := hS; go_simp)⟩) hHeld ?_
  simp only [Act.put, List.getElem_toArray, List.getElem_cons_zero, List.getElem_cons_succ, List.setIfInBounds_toArray, List.set_cons_zero, List.set_cons_succ]
  refine wpAnyH_take (i := 6) (v := .pointer (some ⟨X.b, 0, none⟩)) rfl (by kernel_rfl) (by kernel_rfl) (by kernel_rfl) (fun _ _ _ h => h) (Or.inl ⟨by rfl, fun w' hS => by go_simp⟩) hHeld ?_
  simp only [Act.put, List.getElem_toArray, List.getElem_cons_zero, List.getElem_cons_succ, List.setIfInBounds_toArray, List.set_cons_zero, List.set_cons_succ]
  refine wpAnyH_take (i := 7) (v := .int .i64 (s : Int)) rfl (by kernel_rfl) (by kernel_rfl) (by kernel_rfl) (fun _ _ _ h => h) (Or.inl ⟨by rfl, fun w' hS => by go_simp⟩) hHeld ?_
  simp only [Act.put, List.getElem_toArray, List.getElem_cons_zero, List.getElem_cons_succ, List.setIfInBounds_toArray, List.set_cons_zero, List.set_cons_succ]
  refine wpAnyH_take (i := 8) (v := .pointer (some ⟨X.b, 0, none⟩)) rfl (by kernel_rfl) (by kernel_rfl) (by kernel_rfl) (fun _ _ _ h => h) (Or.inl ⟨by rfl, fun w' hS => by go_simp⟩) hHeld ?_
  simp only [Act.put, List.getElem_toArray, List.getElem_cons_zero, List.getElem_cons_succ, List.setIfInBounds_toArray, List.set_cons_zero, List.set_cons_succ]
  refine wpAnyH_take (i := 9) (v := .pointer (some ⟨X.b, 0, none⟩)) rfl (by kernel_rfl) (by kernel_rfl) (by kernel_rfl) (fun _ _ _ h => h) (Or.inl ⟨by rfl, fun w' hS => by go_simp⟩) hHeld ?_
  simp only [Act.put, List.getElem_toArray, List.getElem_cons_zero, List.getElem_cons_succ, List.setIfInBounds_toArray, List.set_cons_zero, List.set_cons_succ]
  refine wpAnyH_take (i := 10) (v := .pointer (some ⟨X.b, s, none⟩)) rfl (by kernel_rfl) (by kernel_rfl) (by kernel_rfl) (fun _ _ _ h => h) (Or.inl ⟨by rfl, fun w' hS => by go_simp⟩) hHeld ?_
  simp only [Act.put, List.getElem_toArray, List.getElem_cons_zero, List.getElem_cons_succ, List.setIfInBounds_toArray, List.set_cons_zero, List.set_cons_succ]
  refine wpAnyH_take (i := 11) (v := .pointer (some ⟨(X.m s).b, 0, none⟩)) rfl (by kernel_rfl) (by kernel_rfl) (by kernel_rfl) (fun _ _ _ h => h) (Or.inl ⟨by rfl, fun w' hS => by (obtain ⟨s0, s1⟩ := hS; go_simp)⟩) hHeld ?_
  simp only [Act.put, List.getElem_toArray, List.getElem_cons_zero, List.getElem_cons_succ, List.setIfInBounds_toArray, List.set_cons_zero, List.set_cons_succ]
  refine wpAnyH_take (i := 12) (v := .int .i64 (2 + 3 * (1 - (s : Int)))) rfl (by kernel_rfl) (by kernel_rfl) (by kernel_rfl) (fun _ _ _ h => h) (Or.inl ⟨by rfl, fun w' hS => by go_simp⟩) hHeld ?_
  simp only [Act.put, List.getElem_toArray, List.getElem_cons_zero, List.getElem_cons_succ, List.setIfInBounds_toArray, List.set_cons_zero, List.set_cons_succ]
  have hbD : Below w1.heap.size w1 w1.drew := drew_bel _
  have q0 := below_at hbD m0
  have q1 := below_at hbD m1
  generalize w1.drew = D3 at *
  refine wpAnyH_ready (rs := [13]) (by kernel_rfl) (by simp) ?_
  refine AllReadyH.cons rfl (fun K hK => ?_) AllReadyH.nil
  go_simp
  refine (HWt.out D3 hbD).mono ?_
  rintro e w2 ⟨rfl, hb2⟩
  refine hK.out _ _ ⟨below_at hb2 q0, below_at hb2 q1⟩ (fun hHeld => ?_)
  clear hK K
  refine wpAnyH_take (i := 14) (v := .int .i64 (n : Int)) rfl (by kernel_rfl) (by kernel_rfl) (by kernel_rfl) (fun _ _ _ h => h) (Or.inl ⟨by rfl, fun w' hS => by (go_simp <;> exact Hmn.out)⟩) hHeld ?_
  simp only [Act.put, List.getElem_toArray, List.getElem_cons_zero, List.getElem_cons_succ, List.setIfInBounds_toArray, List.set_cons_zero, List.set_cons_succ]
  refine wpAnyH_take (i := 15) (v := .bool false) rfl (by kernel_rfl) (by kernel_rfl) (by kernel_rfl) (fun _ _ _ h => h) (Or.inl ⟨by rfl, fun w' hS => by (go_simp <;> omega)⟩) hHeld ?_
  simp only [Act.put, List.getElem_toArray, List.getElem_cons_zero, List.getElem_cons_succ, List.setIfInBounds_toArray, List.set_cons_zero, List.set_cons_succ]
  refine wpAnyH_done (by kernel_rfl) ?_ _
  clear hHeld
  have hb12 : Below w1.heap.size w1 w2 := bstep hbD hb2
  have HS0 : Hid (∃ X0, ShS w1 w2 X B s op 0 cs X0) := (show ∃ X0, ShS _ _ _ _ _ _ _ _ X0 from ⟨X, Xstep.below HX1.out hb12, by simp [numb, upd_self], rfl, rfl⟩)
  clear m0 m1 q0 q1 hbD hb2 hb12 cm HF
  go_wp2
  go_loopw [7] (fun v7 wr => ∃ i : Nat, i ≤ n ∧ v7 = .int .i64 (i : Int) ∧ Hid (∃ Xi, ShS w1 wr X B s op i cs Xi)) (fun v7 _ => n - (intOf v7).toNat)
  case atStart => exact ⟨0, by omega, rfl, HS0⟩
  case round =>
    obtain ⟨i, hi, rfl, hsh⟩ := hrel
    obtain ⟨Xi, hsx⟩ := hsh.out
    by_cases hlt : i < n
    · have st := hsx.st
      obtain ⟨nf1, nf2, nf3⟩ := Hnf0.out
      have Hnf : Hid (∀ Y : Wr, ∀ {D : World}, Xstep w1 D X Y B → ¬ Y.own fb) := fun Y D hst e => (hst.own _ e).elim nf1 (fun hh => by omega)
      obtain ⟨sq, hsq⟩ : ∃ sq, op + i + 1 = sq := ⟨_, rfl⟩
      obtain ⟨bk, hbk⟩ : ∃ bk, ks i = bk := ⟨_, rfl⟩
      obtain ⟨bn, hbn⟩ : ∃ bn, (gB bl i).bs.length = bn := ⟨_, rfl⟩
      have hcell : ∀ j, j < 6 → w1.cell? ⟨fb, i * 6 + j, none⟩ = (frv tg9 sq (.slice (some ⟨bk, 0, none⟩) bn bn))[j]? := fun j hj => by
        have e1 := HFS.out.row.cell (i * 6 + j) (by omega)
        rw [e1]
        unfold frf fri
        rw [show (i * 6 + j) / 6 = i by omega, show (i * 6 + j) % 6 = j by omega, if_pos hlt, hsq, hbk, hbn]
        unfold slv
        have : j = 0 ∨ j = 1 ∨ j = 2 ∨ j = 3 ∨ j = 4 ∨ j = 5 := by omega
        rcases this with rfl | rfl | rfl | rfl | rfl | rfl <;> rfl
      have kc : ∀ j v, w1.cell? ⟨fb, j, none⟩ = some v → wr.cell? ⟨fb, j, none⟩ = some v := fun j v hc => kept_cell st.kept nf1 hc
      have c0 : wr.cell? ⟨fb, i * 6, none⟩ = some (.int .i64 3) := kc _ _ (hcell 0 (by omega))
      have c1 : wr.cell? ⟨fb, i * 6 + 1, none⟩ = some (.int .i64 2) := kc _ _ (hcell 1 (by omega))
      have c2 : wr.cell? ⟨fb, i * 6 + 2, none⟩ = some (.int .i64 4) := kc _ _ (hcell 2 (by omega))
      have c3 : wr.cell? ⟨fb, i * 6 + 3, none⟩ = some (.int .i64 9) := kc _ _ (hcell 3 (by omega))
      have c4 : wr.cell? ⟨fb, i * 6 + 4, none⟩ = some (.int .i64 (sq : Int)) := kc _ _ (hcell 4 (by omega))
      have c5 : wr.cell? ⟨fb, i * 6 + 5, none⟩ = some (.slice (some ⟨bk, 0, none⟩) bn bn) := kc _ _ (hcell 5 (by omega))
      have hbkr : Bk wr bk (gB bl i).bs := by rw [← hbk]; exact (HFS.out.bk i hlt).1.keep st.kept (nf3 i hlt).1
      obtain ⟨l1, l2, l3⟩ := Hlens.out i hlt
      have HC9 : Hid (∀ D, Below wr.heap.size wr D → Calls Try.prog 29 #[.slice (some ⟨bk, 0, none⟩) bn bn] D fun e w' => CpO D w' (gB bl i).bs e) := fun D hb => (show Calls _ _ _ _ _ from by rw [← hbn]; exact copied_any ((hbkr.all _ (Nat.le_refl _) l3).still hb) l1 l2)
      have Hbyt : Hid ((gB bl i).bs = cs.getD i []) := Hcl.out i hlt
      have hXr := st.ok
      have cm : wr.cell? ⟨X.b, s, none⟩ = some (.pointer (some ⟨(X.m s).b, 0, none⟩)) := by have e2 := hXr.cm hs; rw [hsx.m, st.b] at e2; exact e2
      have HSn : Hid (∀ D, Below wr.heap.size wr D → Calls Try.prog 23 #[.pointer (some ⟨(X.m s).b, 0, none⟩), .int .i64 (2 + 3 * (1 - (s : Int)))] D fun e w' => e = .returned (.int .i64 (sn : Int)) ∧ D = w') := fun D hb => (show Calls _ _ _ _ _ from by have := sent_yes ((hXr.still hb).mo s hs) (qat (hXr.still hb) hs); rw [hsx.m, hsx.e, Hse.out.1] at this; exact this)
      have HWr : Hid (∀ D, Below wr.heap.size wr D → Calls Try.prog 27 #[.pointer (some ⟨(X.m s).b, 0, none⟩), .int .i64 (2 + 3 * (1 - (s : Int)))] D fun e w' => e = .returned (.int .i64 ((sn : Int) - (op : Int))) ∧ Below D.heap.size D w') := fun D hb => (show Calls _ _ _ _ _ from by have := wait_yes ((hXr.still hb).mo s hs) (qat (hXr.still hb) hs); rw [hsx.m, hsx.e, Hse.out.1, Hse.out.2] at this; exact this)
      obtain ⟨ra, rc, hrv⟩ := row_shape (hXr.rowf hs)
      obtain ⟨rn, hrn⟩ : ∃ rn, (Xi.f s).length = rn := ⟨_, rfl⟩
      rw [hrn] at hrv
      have Hrv : Hid (Xi.v (8 + s) = .slice ra rn rc) := hrv
      have Hrn : Hid ((Xi.f s).length = rn) := hrn
      have hrn2 : rn ≤ 6000 := by
        have e1 := congrArg (fun P => (Px.f P s).length) hsx.pu
        simp only [upd_same, List.length_append, numb_len] at e1
        have e2 : (Xi.pu.f s).length = (Xi.f s).length := List.length_map ..
        have e3 : (X.pu.f s).length = (X.f s).length := List.length_map ..
        have e4 := Hfn.out
        have e5 : (cs.take i).length ≤ i := List.length_take_le _ _
        omega
      have Hsh : Hid (ShS w1 wr X B s op i cs Xi) := hsx
      have Hsq : Hid (op + i + 1 = sq) := hsq
      have hsq2 : (sq : Int) = (op : Int) + 1 + (i : Int) := by omega
      have i3 : (0 : Int) ≤ (i : Int) := Int.natCast_nonneg _
      have i4 : (i : Int) < (n : Int) := by omega
      clear hsh hsx st hXr hcell kc hbkr nf1 nf2 nf3 l1 l2 l3 hbk hbn hsq hrv hrn HS0
      have Hsq2 : Hid ((sq : Int) = (op : Int) + 1 + (i : Int)) := hsq2
      clear hsq2
      go_wp2
      refine wp_region_held_drew (S := (fun w' => w'.cell? ⟨fb, i * 6, none⟩ = some (.int .i64 3) ∧ w'.cell? ⟨fb, i * 6 + 1, none⟩ = some (.int .i64 2) ∧ w'.cell? ⟨fb, i * 6 + 2, none⟩ = some (.int .i64 4) ∧ w'.cell? ⟨fb, i * 6 + 3, none⟩ = some (.int .i64 9) ∧ w'.cell? ⟨fb, i * 6 + 4, none⟩ = some (.int .i64 (sq : Int)) ∧ w'.cell? ⟨X.b, s, none⟩ = some (.pointer (some ⟨(X.m s).b, 0, none⟩)))) (by kernel_rfl) ⟨below_at (drew_bel _) c0, below_at (drew_bel _) c1, below_at (drew_bel _) c2, below_at (drew_bel _) c3, below_at (drew_bel _) c4, below_at (drew_bel _) cm⟩ (fun hHeld => ?_)
      simp only [Act.put, List.size_toArray, List.length_cons, List.length_nil, Nat.zero_add]
      refine wpAnyH_take (i := 0) (v := .slice (some ⟨fb, 0, none⟩) n n) rfl (by kernel_rfl) (by kernel_rfl) (by kernel_rfl) (fun _ _ _ h => h) (Or.inl ⟨by rfl, fun w' hS => by go_simp⟩) hHeld ?_
      simp only [Act.put, List.getElem_toArray, List.getElem_cons_zero, List.getElem_cons_succ, List.setIfInBounds_toArray, List.set_cons_zero, List.set_cons_succ]
      refine wpAnyH_take (i := 1) (v := .int .i64 (i : Int)) rfl (by kernel_rfl) (by kernel_rfl) (by kernel_rfl) (fun _ _ _ h => h) (Or.inl ⟨by rfl, fun w' hS => by go_simp⟩) hHeld ?_
      simp only [Act.put, List.getElem_toArray, List.getElem_cons_zero, List.getElem_cons_succ, List.setIfInBounds_toArray, List.set_cons_zero, List.set_cons_succ]
      refine wpAnyH_take (i := 2) (v := .pointer (some ⟨fb, i * 6, none⟩)) rfl (by kernel_rfl) (by kernel_rfl) (by kernel_rfl) (fun _ _ _ h => h) (Or.inl ⟨by rfl, fun w' hS => by go_simp⟩) hHeld ?_
      simp only [Act.put, List.getElem_toArray, List.getElem_cons_zero, List.getElem_cons_succ, List.setIfInBounds_toArray, List.set_cons_zero, List.set_cons_succ]
      refine wpAnyH_take (i := 3) (v := .pointer (some ⟨fb, i * 6, none⟩)) rfl (by kernel_rfl) (by kernel_rfl) (by kernel_rfl) (fun _ _ _ h => h) (Or.inl ⟨by rfl, fun w' hS => by go_simp⟩) hHeld ?_
      simp only [Act.put, List.getElem_toArray, List.getElem_cons_zero, List.getElem_cons_succ, List.setIfInBounds_toArray, List.set_cons_zero, List.set_cons_succ]
      refine wpAnyH_take (i := 4) (v := .agg #[.int .i64 3, .int .i64 2, .int .i64 4, .int .i64 9]) rfl (by kernel_rfl) (by kernel_rfl) (by kernel_rfl) (fun _ _ _ h => h) (Or.inl ⟨by rfl, fun w' hS => by (obtain ⟨t0, t1, t2, t3, t4, t5⟩ := hS; go_simp)⟩) hHeld ?_
      simp only [Act.put, List.getElem_toArray, List.getElem_cons_zero, List.getElem_cons_succ, List.setIfInBounds_toArray, List.set_cons_zero, List.set_cons_succ]
      have hbD8 : Below wr.heap.size wr wr.drew := drew_bel _
      have d0 := below_at hbD8 c0
      have d1 := below_at hbD8 c1
      have d2 := below_at hbD8 c2
      have d3 := below_at hbD8 c3
      have d4 := below_at hbD8 c4
      have dm := below_at hbD8 cm
      generalize wr.drew = D8 at *
      refine wpAnyH_ready (rs := [5]) (by kernel_rfl) (by simp) ?_
      refine AllReadyH.cons rfl (fun K hK => ?_) AllReadyH.nil
      go_simp
      refine (tag_any).mono ?_
      rintro e w3 ⟨rfl, hb3⟩
      refine hK.out _ _ ⟨below_at hb3 d0, below_at hb3 d1, below_at hb3 d2, below_at hb3 d3, below_at hb3 d4, below_at hb3 dm⟩ (fun hHeld => ?_)
      clear hK K
      refine wpAnyH_take (i := 6) (v := .bool (!true)) rfl (by kernel_rfl) (by kernel_rfl) (by kernel_rfl) (fun _ _ _ h => h) (Or.inl ⟨by rfl, fun w' hS => run_neqop 24 (.tmp 45) (.tmp 46) 24 rfl _ _ (by rfl) (by rfl) guard_id _ (by have e1 := eq_tag (w := w') tg9 tg9; rw [decide_eq_true rfl] at e1; exact e1)⟩) hHeld ?_
      simp only [Act.put, List.getElem_toArray, List.getElem_cons_zero, List.getElem_cons_succ, List.setIfInBounds_toArray, List.set_cons_zero, List.set_cons_succ]
      refine wpAnyH_take (i := 7) (v := .bool false) rfl (by kernel_rfl) (by kernel_rfl) (by kernel_rfl) (fun _ _ _ h => h) (Or.inl ⟨by rfl, fun w' hS => by go_simp⟩) hHeld ?_
      simp only [Act.put, List.getElem_toArray, List.getElem_cons_zero, List.getElem_cons_succ, List.setIfInBounds_toArray, List.set_cons_zero, List.set_cons_succ]
      refine wpAnyH_take (i := 8) (v := .slice (some ⟨fb, 0, none⟩) n n) rfl (by kernel_rfl) (by kernel_rfl) (by kernel_rfl) (fun _ _ _ h => h) (Or.inl ⟨by rfl, fun w' hS => by go_simp⟩) hHeld ?_
      simp only [Act.put, List.getElem_toArray, List.getElem_cons_zero, List.getElem_cons_succ, List.setIfInBounds_toArray, List.set_cons_zero, List.set_cons_succ]
      refine wpAnyH_take (i := 9) (v := .int .i64 (i : Int)) rfl (by kernel_rfl) (by kernel_rfl) (by kernel_rfl) (fun _ _ _ h => h) (Or.inl ⟨by rfl, fun w' hS => by go_simp⟩) hHeld ?_
      simp only [Act.put, List.getElem_toArray, List.getElem_cons_zero, List.getElem_cons_succ, List.setIfInBounds_toArray, List.set_cons_zero, List.set_cons_succ]
      refine wpAnyH_take (i := 10) (v := .pointer (some ⟨fb, i * 6, none⟩)) rfl (by kernel_rfl) (by kernel_rfl) (by kernel_rfl) (fun _ _ _ h => h) (Or.inl ⟨by rfl, fun w' hS => by go_simp⟩) hHeld ?_
      simp only [Act.put, List.getElem_toArray, List.getElem_cons_zero, List.getElem_cons_succ, List.setIfInBounds_toArray, List.set_cons_zero, List.set_cons_succ]
      refine wpAnyH_take (i := 11) (v := .pointer (some ⟨fb, i * 6 + 4, none⟩)) rfl (by kernel_rfl) (by kernel_rfl) (by kernel_rfl) (fun _ _ _ h => h) (Or.inl ⟨by rfl, fun w' hS => by go_simp⟩) hHeld ?_
      simp only [Act.put, List.getElem_toArray, List.getElem_cons_zero, List.getElem_cons_succ, List.setIfInBounds_toArray, List.set_cons_zero, List.set_cons_succ]
      refine wpAnyH_take (i := 12) (v := .int .i64 (sq : Int)) rfl (by kernel_rfl) (by kernel_rfl) (by kernel_rfl) (fun _ _ _ h => h) (Or.inl ⟨by rfl, fun w' hS => by (obtain ⟨t0, t1, t2, t3, t4, t5⟩ := hS; go_simp)⟩) hHeld ?_
      simp only [Act.put, List.getElem_toArray, List.getElem_cons_zero, List.getElem_cons_succ, List.setIfInBounds_toArray, List.set_cons_zero, List.set_cons_succ]
      refine wpAnyH_take (i := 13) (v := .pointer (some ⟨X.b, 0, none⟩)) rfl (by kernel_rfl) (by kernel_rfl) (by kernel_rfl) (fun _ _ _ h => h) (Or.inl ⟨by rfl, fun w' hS => by go_simp⟩) hHeld ?_
      simp only [Act.put, List.getElem_toArray, List.getElem_cons_zero, List.getElem_cons_succ, List.setIfInBounds_toArray, List.set_cons_zero, List.set_cons_succ]
      refine wpAnyH_take (i := 14) (v := .int .i64 (s : Int)) rfl (by kernel_rfl) (by kernel_rfl) (by kernel_rfl) (fun _ _ _ h => h) (Or.inl ⟨by rfl, fun w' hS => by go_simp⟩) hHeld ?_
      simp only [Act.put, List.getElem_toArray, List.getElem_cons_zero, List.getElem_cons_succ, List.setIfInBounds_toArray, List.set_cons_zero, List.set_cons_succ]
      refine wpAnyH_take (i := 15) (v := .pointer (some ⟨X.b, 0, none⟩)) rfl (by kernel_rfl) (by kernel_rfl) (by kernel_rfl) (fun _ _ _ h => h) (Or.inl ⟨by rfl, fun w' hS => by go_simp⟩) hHeld ?_
      simp only [Act.put, List.getElem_toArray, List.getElem_cons_zero, List.getElem_cons_succ, List.setIfInBounds_toArray, List.set_cons_zero, List.set_cons_succ]
      refine wpAnyH_take (i := 16) (v := .pointer (some ⟨X.b, 0, none⟩)) rfl (by kernel_rfl) (by kernel_rfl) (by kernel_rfl) (fun _ _ _ h => h) (Or.inl ⟨by rfl, fun w' hS => by go_simp⟩) hHeld ?_
      simp only [Act.put, List.getElem_toArray, List.getElem_cons_zero, List.getElem_cons_succ, List.setIfInBounds_toArray, List.set_cons_zero, List.set_cons_succ]
      refine wpAnyH_take (i := 17) (v := .pointer (some ⟨X.b, s, none⟩)) rfl (by kernel_rfl) (by kernel_rfl) (by kernel_rfl) (fun _ _ _ h => h) (Or.inl ⟨by rfl, fun w' hS => by go_simp⟩) hHeld ?_
      simp only [Act.put, List.getElem_toArray, List.getElem_cons_zero, List.getElem_cons_succ, List.setIfInBounds_toArray, List.set_cons_zero, List.set_cons_succ]
      refine wpAnyH_take (i := 18) (v := .pointer (some ⟨(X.m s).b, 0, none⟩)) rfl (by kernel_rfl) (by kernel_rfl) (by kernel_rfl) (fun _ _ _ h => h) (Or.inl ⟨by rfl, fun w' hS => by (obtain ⟨t0, t1, t2, t3, t4, t5⟩ := hS; go_simp)⟩) hHeld ?_
      simp only [Act.put, List.getElem_toArray, List.getElem_cons_zero, List.getElem_cons_succ, List.setIfInBounds_toArray, List.set_cons_zero, List.set_cons_succ]
      refine wpAnyH_take (i := 19) (v := .int .i64 (2 + 3 * (1 - (s : Int)))) rfl (by kernel_rfl) (by kernel_rfl) (by kernel_rfl) (fun _ _ _ h => h) (Or.inl ⟨by rfl, fun w' hS => by go_simp⟩) hHeld ?_
      simp only [Act.put, List.getElem_toArray, List.getElem_cons_zero, List.getElem_cons_succ, List.setIfInBounds_toArray, List.set_cons_zero, List.set_cons_succ]
      refine wpAnyH_take (i := 21) (v := .pointer (some ⟨X.b, 0, none⟩)) rfl (by kernel_rfl) (by kernel_rfl) (by kernel_rfl) (fun _ _ _ h => h) (Or.inl ⟨by rfl, fun w' hS => by go_simp⟩) hHeld ?_
      simp only [Act.put, List.getElem_toArray, List.getElem_cons_zero, List.getElem_cons_succ, List.setIfInBounds_toArray, List.set_cons_zero, List.set_cons_succ]
      refine wpAnyH_take (i := 22) (v := .int .i64 (s : Int)) rfl (by kernel_rfl) (by kernel_rfl) (by kernel_rfl) (fun _ _ _ h => h) (Or.inl ⟨by rfl, fun w' hS => by go_simp⟩) hHeld ?_
      simp only [Act.put, List.getElem_toArray, List.getElem_cons_zero, List.getElem_cons_succ, List.setIfInBounds_toArray, List.set_cons_zero, List.set_cons_succ]
      refine wpAnyH_take (i := 23) (v := .pointer (some ⟨X.b, 0, none⟩)) rfl (by kernel_rfl) (by kernel_rfl) (by kernel_rfl) (fun _ _ _ h => h) (Or.inl ⟨by rfl, fun w' hS => by go_simp⟩) hHeld ?_
      simp only [Act.put, List.getElem_toArray, List.getElem_cons_zero, List.getElem_cons_succ, List.setIfInBounds_toArray, List.set_cons_zero, List.set_cons_succ]
      refine wpAnyH_take (i := 24) (v := .pointer (some ⟨X.b, 0, none⟩)) rfl (by kernel_rfl) (by kernel_rfl) (by kernel_rfl) (fun _ _ _ h => h) (Or.inl ⟨by rfl, fun w' hS => by go_simp⟩) hHeld ?_
      simp only [Act.put, List.getElem_toArray, List.getElem_cons_zero, List.getElem_cons_succ, List.setIfInBounds_toArray, List.set_cons_zero, List.set_cons_succ]
      refine wpAnyH_take (i := 25) (v := .pointer (some ⟨X.b, s, none⟩)) rfl (by kernel_rfl) (by kernel_rfl) (by kernel_rfl) (fun _ _ _ h => h) (Or.inl ⟨by rfl, fun w' hS => by go_simp⟩) hHeld ?_
      simp only [Act.put, List.getElem_toArray, List.getElem_cons_zero, List.getElem_cons_succ, List.setIfInBounds_toArray, List.set_cons_zero, List.set_cons_succ]
      refine wpAnyH_take (i := 26) (v := .pointer (some ⟨(X.m s).b, 0, none⟩)) rfl (by kernel_rfl) (by kernel_rfl) (by kernel_rfl) (fun _ _ _ h => h) (Or.inl ⟨by rfl, fun w' hS => by (obtain ⟨t0, t1, t2, t3, t4, t5⟩ := hS; go_simp)⟩) hHeld ?_
      simp only [Act.put, List.getElem_toArray, List.getElem_cons_zero, List.getElem_cons_succ, List.setIfInBounds_toArray, List.set_cons_zero, List.set_cons_succ]
      refine wpAnyH_take (i := 27) (v := .int .i64 (2 + 3 * (1 - (s : Int)))) rfl (by kernel_rfl) (by kernel_rfl) (by kernel_rfl) (fun _ _ _ h => h) (Or.inl ⟨by rfl, fun w' hS => by go_simp⟩) hHeld ?_
      simp only [Act.put, List.getElem_toArray, List.getElem_cons_zero, List.getElem_cons_succ, List.setIfInBounds_toArray, List.set_cons_zero, List.set_cons_succ]
      refine wpAnyH_take (i := 31) (v := .int .i64 (i : Int)) rfl (by kernel_rfl) (by kernel_rfl) (by kernel_rfl) (fun _ _ _ h => h) (Or.inl ⟨by rfl, fun w' hS => by go_simp⟩) hHeld ?_
      simp only [Act.put, List.getElem_toArray, List.getElem_cons_zero, List.getElem_cons_succ, List.setIfInBounds_toArray, List.set_cons_zero, List.set_cons_succ]
      refine wpAnyH_ready (rs := [20]) (by kernel_rfl) (by simp) ?_
      refine AllReadyH.cons rfl (fun K hK => ?_) AllReadyH.nil
      go_simp
      refine (HSn.out w3 (bstep hbD8 hb3)).mono ?_
      rintro e w4 ⟨rfl, rfl⟩
      refine hK.out _ _ ⟨below_at hb3 d0, below_at hb3 d1, below_at hb3 d2, below_at hb3 d3, below_at hb3 d4, below_at hb3 dm⟩ (fun hHeld => ?_)
      clear hK K
      refine wpAnyH_ready (rs := [28]) (by kernel_rfl) (by simp) ?_
      refine AllReadyH.cons rfl (fun K hK => ?_) AllReadyH.nil
      go_simp
      refine (HWr.out w3 (bstep hbD8 hb3)).mono ?_
      rintro e w4 ⟨rfl, hb4⟩
      refine hK.out _ _ ⟨below_at hb4 (below_at hb3 d0), below_at hb4 (below_at hb3 d1), below_at hb4 (below_at hb3 d2), below_at hb4 (below_at hb3 d3), below_at hb4 (below_at hb3 d4), below_at hb4 (below_at hb3 dm)⟩ (fun hHeld => ?_)
      clear hK K
      refine wpAnyH_take (i := 29) (v := .int .i64 (op : Int)) rfl (by kernel_rfl) (by kernel_rfl) (by kernel_rfl) (fun _ _ _ h => h) (Or.inl ⟨by rfl, fun w' hS => by (go_simp <;> (rw [wrap_id (by omega) (by omega)]; omega))⟩) hHeld ?_
      simp only [Act.put, List.getElem_toArray, List.getElem_cons_zero, List.getElem_cons_succ, List.setIfInBounds_toArray, List.set_cons_zero, List.set_cons_succ]
      refine wpAnyH_take (i := 30) (v := .int .i64 ((op : Int) + 1)) rfl (by kernel_rfl) (by kernel_rfl) (by kernel_rfl) (fun _ _ _ h => h) (Or.inl ⟨by rfl, fun w' hS => by (go_simp <;> exact wrap_id (by omega) (by omega))⟩) hHeld ?_
      simp only [Act.put, List.getElem_toArray, List.getElem_cons_zero, List.getElem_cons_succ, List.setIfInBounds_toArray, List.set_cons_zero, List.set_cons_succ]
      refine wpAnyH_take (i := 32) (v := .int .i64 ((op : Int) + 1 + (i : Int))) rfl (by kernel_rfl) (by kernel_rfl) (by kernel_rfl) (fun _ _ _ h => h) (Or.inl ⟨by rfl, fun w' hS => by (go_simp <;> exact wrap_id (by omega) (by omega))⟩) hHeld ?_
      simp only [Act.put, List.getElem_toArray, List.getElem_cons_zero, List.getElem_cons_succ, List.setIfInBounds_toArray, List.set_cons_zero, List.set_cons_succ]
      refine wpAnyH_take (i := 33) (v := .bool false) rfl (by kernel_rfl) (by kernel_rfl) (by kernel_rfl) (fun _ _ _ h => h) (Or.inl ⟨by rfl, fun w' hS => by (go_simp <;> (have e9 := Hsq2.out; omega))⟩) hHeld ?_
      simp only [Act.put, List.getElem_toArray, List.getElem_cons_zero, List.getElem_cons_succ, List.setIfInBounds_toArray, List.set_cons_zero, List.set_cons_succ]
      refine wpAnyH_take (i := 34) (v := .bool false) rfl (by kernel_rfl) (by kernel_rfl) (by kernel_rfl) (fun _ _ _ h => h) (Or.inl ⟨by rfl, fun w' hS => by go_simp⟩) hHeld ?_
      simp only [Act.put, List.getElem_toArray, List.getElem_cons_zero, List.getElem_cons_succ, List.setIfInBounds_toArray, List.set_cons_zero, List.set_cons_succ]
      refine wpAnyH_done (by kernel_rfl) ?_ _
      clear hHeld
      have Hbr4 : Hid (Below wr.heap.size wr w4) := (show Below _ _ _ from bstep (bstep hbD8 hb3) hb4)
      have g0 := below_at hb4 (below_at hb3 d0)
      have g1 := below_at hb4 (below_at hb3 d1)
      have g2 := below_at hb4 (below_at hb3 d2)
      have g3 := below_at hb4 (below_at hb3 d3)
      have g4 := below_at hb4 (below_at hb3 d4)
      have g5 := below_at Hbr4.out c5
      clear c0 c1 c2 c3 c4 c5 d0 d1 d2 d3 d4 dm hb3 hb4 hbD8 cm
      go_wp2
      refine wp_region_held_drew (S := (fun w' => w'.cell? ⟨fb, i * 6, none⟩ = some (.int .i64 3) ∧ w'.cell? ⟨fb, i * 6 + 1, none⟩ = some (.int .i64 2) ∧ w'.cell? ⟨fb, i * 6 + 2, none⟩ = some (.int .i64 4) ∧ w'.cell? ⟨fb, i * 6 + 3, none⟩ = some (.int .i64 9) ∧ w'.cell? ⟨fb, i * 6 + 4, none⟩ = some (.int .i64 (sq : Int)) ∧ w'.cell? ⟨fb, i * 6 + 5, none⟩ = some (.slice (some ⟨bk, 0, none⟩) bn bn))) (by kernel_rfl) ⟨below_at (drew_bel _) g0, below_at (drew_bel _) g1, below_at (drew_bel _) g2, below_at (drew_bel _) g3, below_at (drew_bel _) g4, below_at (drew_bel _) g5⟩ (fun hHeld => ?_)
      simp only [Act.put, List.size_toArray, List.length_cons, List.length_nil, Nat.zero_add]
      refine wpAnyH_take (i := 0) (v := .pointer (some ⟨X.b, 0, none⟩)) rfl (by kernel_rfl) (by kernel_rfl) (by kernel_rfl) (fun _ _ _ h => h) (Or.inl ⟨by rfl, fun w' hS => by go_simp⟩) hHeld ?_
      simp only [Act.put, List.getElem_toArray, List.getElem_cons_zero, List.getElem_cons_succ, List.setIfInBounds_toArray, List.set_cons_zero, List.set_cons_succ]
      refine wpAnyH_take (i := 1) (v := .int .i64 (s : Int)) rfl (by kernel_rfl) (by kernel_rfl) (by kernel_rfl) (fun _ _ _ h => h) (Or.inl ⟨by rfl, fun w' hS => by go_simp⟩) hHeld ?_
      simp only [Act.put, List.getElem_toArray, List.getElem_cons_zero, List.getElem_cons_succ, List.setIfInBounds_toArray, List.set_cons_zero, List.set_cons_succ]
      refine wpAnyH_take (i := 2) (v := .pointer (some ⟨X.b, 0, none⟩)) rfl (by kernel_rfl) (by kernel_rfl) (by kernel_rfl) (fun _ _ _ h => h) (Or.inl ⟨by rfl, fun w' hS => by go_simp⟩) hHeld ?_
      simp only [Act.put, List.getElem_toArray, List.getElem_cons_zero, List.getElem_cons_succ, List.setIfInBounds_toArray, List.set_cons_zero, List.set_cons_succ]
      refine wpAnyH_take (i := 3) (v := .int .i64 (s : Int)) rfl (by kernel_rfl) (by kernel_rfl) (by kernel_rfl) (fun _ _ _ h => h) (Or.inl ⟨by rfl, fun w' hS => by go_simp⟩) hHeld ?_
      simp only [Act.put, List.getElem_toArray, List.getElem_cons_zero, List.getElem_cons_succ, List.setIfInBounds_toArray, List.set_cons_zero, List.set_cons_succ]
      refine wpAnyH_take (i := 4) (v := .pointer (some ⟨X.b, 0, none⟩)) rfl (by kernel_rfl) (by kernel_rfl) (by kernel_rfl) (fun _ _ _ h => h) (Or.inl ⟨by rfl, fun w' hS => by go_simp⟩) hHeld ?_
      simp only [Act.put, List.getElem_toArray, List.getElem_cons_zero, List.getElem_cons_succ, List.setIfInBounds_toArray, List.set_cons_zero, List.set_cons_succ]
      refine wpAnyH_take (i := 5) (v := .pointer (some ⟨X.b, 8, none⟩)) rfl (by kernel_rfl) (by kernel_rfl) (by kernel_rfl) (fun _ _ _ h => h) (Or.inl ⟨by rfl, fun w' hS => by go_simp⟩) hHeld ?_
      simp only [Act.put, List.getElem_toArray, List.getElem_cons_zero, List.getElem_cons_succ, List.setIfInBounds_toArray, List.set_cons_zero, List.set_cons_succ]
      refine wpAnyH_take (i := 6) (v := .pointer (some ⟨X.b, 8 + s, none⟩)) rfl (by kernel_rfl) (by kernel_rfl) (by kernel_rfl) (fun _ _ _ h => h) (Or.inl ⟨by rfl, fun w' hS => by go_simp⟩) hHeld ?_
      simp only [Act.put, List.getElem_toArray, List.getElem_cons_zero, List.getElem_cons_succ, List.setIfInBounds_toArray, List.set_cons_zero, List.set_cons_succ]
      refine wpAnyH_take (i := 8) (v := .slice (some ⟨fb, 0, none⟩) n n) rfl (by kernel_rfl) (by kernel_rfl) (by kernel_rfl) (fun _ _ _ h => h) (Or.inl ⟨by rfl, fun w' hS => by go_simp⟩) hHeld ?_
      simp only [Act.put, List.getElem_toArray, List.getElem_cons_zero, List.getElem_cons_succ, List.setIfInBounds_toArray, List.set_cons_zero, List.set_cons_succ]
      refine wpAnyH_take (i := 9) (v := .int .i64 (i : Int)) rfl (by kernel_rfl) (by kernel_rfl) (by kernel_rfl) (fun _ _ _ h => h) (Or.inl ⟨by rfl, fun w' hS => by go_simp⟩) hHeld ?_
      simp only [Act.put, List.getElem_toArray, List.getElem_cons_zero, List.getElem_cons_succ, List.setIfInBounds_toArray, List.set_cons_zero, List.set_cons_succ]
      refine wpAnyH_take (i := 10) (v := .pointer (some ⟨fb, i * 6, none⟩)) rfl (by kernel_rfl) (by kernel_rfl) (by kernel_rfl) (fun _ _ _ h => h) (Or.inl ⟨by rfl, fun w' hS => by go_simp⟩) hHeld ?_
      simp only [Act.put, List.getElem_toArray, List.getElem_cons_zero, List.getElem_cons_succ, List.setIfInBounds_toArray, List.set_cons_zero, List.set_cons_succ]
      refine wpAnyH_take (i := 11) (v := .pointer (some ⟨fb, i * 6, none⟩)) rfl (by kernel_rfl) (by kernel_rfl) (by kernel_rfl) (fun _ _ _ h => h) (Or.inl ⟨by rfl, fun w' hS => by go_simp⟩) hHeld ?_
      simp only [Act.put, List.getElem_toArray, List.getElem_cons_zero, List.getElem_cons_succ, List.setIfInBounds_toArray, List.set_cons_zero, List.set_cons_succ]
      refine wpAnyH_take (i := 12) (v := .agg #[.int .i64 3, .int .i64 2, .int .i64 4, .int .i64 9]) rfl (by kernel_rfl) (by kernel_rfl) (by kernel_rfl) (fun _ _ _ h => h) (Or.inl ⟨by rfl, fun w' hS => by (obtain ⟨t0, t1, t2, t3, t4, t5⟩ := hS; go_simp)⟩) hHeld ?_
      simp only [Act.put, List.getElem_toArray, List.getElem_cons_zero, List.getElem_cons_succ, List.setIfInBounds_toArray, List.set_cons_zero, List.set_cons_succ]
      refine wpAnyH_take (i := 13) (v := .slice (some ⟨fb, 0, none⟩) n n) rfl (by kernel_rfl) (by kernel_rfl) (by kernel_rfl) (fun _ _ _ h => h) (Or.inl ⟨by rfl, fun w' hS => by go_simp⟩) hHeld ?_
      simp only [Act.put, List.getElem_toArray, List.getElem_cons_zero, List.getElem_cons_succ, List.setIfInBounds_toArray, List.set_cons_zero, List.set_cons_succ]
      refine wpAnyH_take (i := 14) (v := .int .i64 (i : Int)) rfl (by kernel_rfl) (by kernel_rfl) (by kernel_rfl) (fun _ _ _ h => h) (Or.inl ⟨by rfl, fun w' hS => by go_simp⟩) hHeld ?_
      simp only [Act.put, List.getElem_toArray, List.getElem_cons_zero, List.getElem_cons_succ, List.setIfInBounds_toArray, List.set_cons_zero, List.set_cons_succ]
      refine wpAnyH_take (i := 15) (v := .pointer (some ⟨fb, i * 6, none⟩)) rfl (by kernel_rfl) (by kernel_rfl) (by kernel_rfl) (fun _ _ _ h => h) (Or.inl ⟨by rfl, fun w' hS => by go_simp⟩) hHeld ?_
      simp only [Act.put, List.getElem_toArray, List.getElem_cons_zero, List.getElem_cons_succ, List.setIfInBounds_toArray, List.set_cons_zero, List.set_cons_succ]
      refine wpAnyH_take (i := 16) (v := .pointer (some ⟨fb, i * 6 + 4, none⟩)) rfl (by kernel_rfl) (by kernel_rfl) (by kernel_rfl) (fun _ _ _ h => h) (Or.inl ⟨by rfl, fun w' hS => by go_simp⟩) hHeld ?_
      simp only [Act.put, List.getElem_toArray, List.getElem_cons_zero, List.getElem_cons_succ, List.setIfInBounds_toArray, List.set_cons_zero, List.set_cons_succ]
      refine wpAnyH_take (i := 17) (v := .int .i64 (sq : Int)) rfl (by kernel_rfl) (by kernel_rfl) (by kernel_rfl) (fun _ _ _ h => h) (Or.inl ⟨by rfl, fun w' hS => by (obtain ⟨t0, t1, t2, t3, t4, t5⟩ := hS; go_simp)⟩) hHeld ?_
      simp only [Act.put, List.getElem_toArray, List.getElem_cons_zero, List.getElem_cons_succ, List.setIfInBounds_toArray, List.set_cons_zero, List.set_cons_succ]
      refine wpAnyH_take (i := 18) (v := .slice (some ⟨fb, 0, none⟩) n n) rfl (by kernel_rfl) (by kernel_rfl) (by kernel_rfl) (fun _ _ _ h => h) (Or.inl ⟨by rfl, fun w' hS => by go_simp⟩) hHeld ?_
      simp only [Act.put, List.getElem_toArray, List.getElem_cons_zero, List.getElem_cons_succ, List.setIfInBounds_toArray, List.set_cons_zero, List.set_cons_succ]
      refine wpAnyH_take (i := 19) (v := .int .i64 (i : Int)) rfl (by kernel_rfl) (by kernel_rfl) (by kernel_rfl) (fun _ _ _ h => h) (Or.inl ⟨by rfl, fun w' hS => by go_simp⟩) hHeld ?_
      simp only [Act.put, List.getElem_toArray, List.getElem_cons_zero, List.getElem_cons_succ, List.setIfInBounds_toArray, List.set_cons_zero, List.set_cons_succ]
      refine wpAnyH_take (i := 20) (v := .pointer (some ⟨fb, i * 6, none⟩)) rfl (by kernel_rfl) (by kernel_rfl) (by kernel_rfl) (fun _ _ _ h => h) (Or.inl ⟨by rfl, fun w' hS => by go_simp⟩) hHeld ?_
      simp only [Act.put, List.getElem_toArray, List.getElem_cons_zero, List.getElem_cons_succ, List.setIfInBounds_toArray, List.set_cons_zero, List.set_cons_succ]
      refine wpAnyH_take (i := 21) (v := .pointer (some ⟨fb, i * 6 + 5, none⟩)) rfl (by kernel_rfl) (by kernel_rfl) (by kernel_rfl) (fun _ _ _ h => h) (Or.inl ⟨by rfl, fun w' hS => by go_simp⟩) hHeld ?_
      simp only [Act.put, List.getElem_toArray, List.getElem_cons_zero, List.getElem_cons_succ, List.setIfInBounds_toArray, List.set_cons_zero, List.set_cons_succ]
      refine wpAnyH_take (i := 22) (v := .slice (some ⟨bk, 0, none⟩) bn bn) rfl (by kernel_rfl) (by kernel_rfl) (by kernel_rfl) (fun _ _ _ h => h) (Or.inl ⟨by rfl, fun w' hS => by (obtain ⟨t0, t1, t2, t3, t4, t5⟩ := hS; go_simp)⟩) hHeld ?_
      simp only [Act.put, List.getElem_toArray, List.getElem_cons_zero, List.getElem_cons_succ, List.setIfInBounds_toArray, List.set_cons_zero, List.set_cons_succ]
      refine wpAnyH_take (i := 27) (v := .pointer (some ⟨X.b, 0, none⟩)) rfl (by kernel_rfl) (by kernel_rfl) (by kernel_rfl) (fun _ _ _ h => h) (Or.inl ⟨by rfl, fun w' hS => by go_simp⟩) hHeld ?_
      simp only [Act.put, List.getElem_toArray, List.getElem_cons_zero, List.getElem_cons_succ, List.setIfInBounds_toArray, List.set_cons_zero, List.set_cons_succ]
      refine wpAnyH_take (i := 28) (v := .pointer (some ⟨X.b, 8, none⟩)) rfl (by kernel_rfl) (by kernel_rfl) (by kernel_rfl) (fun _ _ _ h => h) (Or.inl ⟨by rfl, fun w' hS => by go_simp⟩) hHeld ?_
      simp only [Act.put, List.getElem_toArray, List.getElem_cons_zero, List.getElem_cons_succ, List.setIfInBounds_toArray, List.set_cons_zero, List.set_cons_succ]
      have hbD9 : Below w4.heap.size w4 w4.drew := drew_bel _
      have hbr9 : Below wr.heap.size wr w4.drew := bstep Hbr4.out hbD9
      have k0 := below_at hbD9 g0
      have k1 := below_at hbD9 g1
      have k2 := below_at hbD9 g2
      have k3 := below_at hbD9 g3
      have k4 := below_at hbD9 g4
      have k5 := below_at hbD9 g5
      have hxi := (Hsh.out.st.post hbr9)
      have rv : w4.drew.cell? ⟨X.b, 8 + s, none⟩ = some (.slice ra rn rc) := by have e2 := hxi.ok.cr (i := 8 + s) (by omega) (by omega); rw [Hrv.out, hxi.b] at e2; exact e2
      generalize w4.drew = D9 at *
      refine wpAnyH_ready (rs := [7, 23]) (by kernel_rfl) (by simp) ?_
      refine AllReadyH.cons rfl (fun K hK => ?_) (AllReadyH.cons rfl (fun K hK => ?_) AllReadyH.nil)
      · go_simp
        refine hK.out _ _ ⟨k0, k1, k2, k3, k4, k5⟩ (fun hHeld => ?_)
        clear hK K
        refine wpAnyH_ready (rs := [23]) (by kernel_rfl) (by simp) ?_
        refine AllReadyH.cons rfl (fun K hK => ?_) AllReadyH.nil
        go_simp
        refine (HC9.out D9 hbr9).mono ?_
        rintro e w5 ⟨⟨y2, rfl, hy2, hok2⟩, hb5⟩
        have Hy2 : Hid (y2.bs = (gB bl i).bs) := hy2
        clear hy2
        unfold Bn.v
        refine hK.out _ _ ⟨below_at hb5 k0, below_at hb5 k1, below_at hb5 k2, below_at hb5 k3, below_at hb5 k4, below_at hb5 k5⟩ (fun hHeld => ?_)
        clear hK K
        refine wpAnyH_take (i := 24) (v := .agg #[.int .i64 3, .int .i64 2, .int .i64 4, .int .i64 9, .int .i64 (sq : Int), .slice (some ⟨y2.k, 0, none⟩) y2.bs.length y2.c]) rfl (by kernel_rfl) (by kernel_rfl) (by kernel_rfl) (fun _ _ _ h => h) (Or.inl ⟨by rfl, fun w' hS => by go_simp⟩) hHeld ?_
        simp only [Act.put, List.getElem_toArray, List.getElem_cons_zero, List.getElem_cons_succ, List.setIfInBounds_toArray, List.set_cons_zero, List.set_cons_succ]
        refine wpAnyH_ready (rs := [25]) (by kernel_rfl) (by simp) ?_
        refine AllReadyH.cons rfl (fun K hK => ?_) AllReadyH.nil
        go_simp
        refine hK.out _ _ ⟨below_at (balloc (Below.refl _ _)) (below_at hb5 k0), below_at (balloc (Below.refl _ _)) (below_at hb5 k1), below_at (balloc (Below.refl _ _)) (below_at hb5 k2), below_at (balloc (Below.refl _ _)) (below_at hb5 k3), below_at (balloc (Below.refl _ _)) (below_at hb5 k4), below_at (balloc (Below.refl _ _)) (below_at hb5 k5)⟩ (fun hHeld => ?_)
        clear hK K
        refine wpAnyH_ready (rs := [26]) (by kernel_rfl) (by simp) ?_
        refine AllReadyH.cons rfl (fun K hK => ?_) AllReadyH.nil
        have hx5 := hxi.ok.still hb5
        refine step_pushF (B := B) rfl (.tmp 83) (.tmp 101) rfl w5 (.slice ra rn rc) ((Xi.f s).flatMap frc) [.int .i64 3, .int .i64 2, .int .i64 4, .int .i64 9, .int .i64 (sq : Int), .slice (some ⟨y2.k, 0, none⟩) y2.bs.length y2.c] rfl (by intro u hu; simp at hu; rcases hu with rfl | rfl | rfl | rfl | rfl | rfl <;> rfl) rfl rn (show w5.ownsRow B 54 6 (.slice ra rn rc) rn _ from by have e2 := hx5.rowf hs; rw [Hrv.out, Hrn.out] at e2; exact e2) rfl rfl (by omega) (Nat.le_trans HB1.out (Nat.le_trans hxi.kept.size hb5.size)) (fun g cap w6 ho6 hk6 hg6 _ => ?_)
        have hx2 := addF_step (y := (op + i + 1, y2)) hxi.ok hs hb5 hok2 (Nat.le_trans HB1.out hxi.kept.size) (n := rn) Hrn.out.symm (show w6.ownsRow _ _ _ _ _ _ from by rw [show frc (op + i + 1, y2) = [.int .i64 3, .int .i64 2, .int .i64 4, .int .i64 9, .int .i64 (sq : Int), .slice (some ⟨y2.k, 0, none⟩) y2.bs.length y2.c] from by unfold frc frv Bn.v tg9; rw [Hsq.out]]; exact ho6) (by rw [Hrv.out]; exact hk6) (by rw [Hrv.out]; exact hg6)
        have hne6 : ¬ (Value.slice ra rn rc).ownBlock = some X.b := fun e => hx5.row_b (i := 8 + s) (by omega) (by omega) (by rw [Hrv.out]; exact e) hxi.b.symm
        have hov : w6.cell? ⟨X.b, 8 + s, none⟩ = some (.slice ra rn rc) := kept_cell hk6 hne6 (below_at hb5 rv)
        have fv := frozen_of_row w6 X.b (8 + s) _ _ (hk6.obj (by rw [← hxi.b]; exact hx5.blk) hne6)
        have hfn : ¬ (Value.slice ra rn rc).ownBlock = some fb := fun e => Hnf.out Xi hxi (own_r (i := 8 + s) (by omega) (by omega) (by rw [Hrv.out]; exact e))
        refine hK.out _ _ ⟨kept_cell hk6 hfn (below_at hb5 k0), kept_cell hk6 hfn (below_at hb5 k1), kept_cell hk6 hfn (below_at hb5 k2), kept_cell hk6 hfn (below_at hb5 k3), kept_cell hk6 hfn (below_at hb5 k4), kept_cell hk6 hfn (below_at hb5 k5)⟩ (fun hHeld => ?_)
        clear hK K
        simp only [Act.put, List.getElem_toArray, List.getElem_cons_zero, List.getElem_cons_succ, List.setIfInBounds_toArray, List.set_cons_zero, List.set_cons_succ]
        refine wpAnyH_take (i := 29) (v := .pointer (some ⟨X.b, 8 + s, none⟩)) rfl (by kernel_rfl) (by kernel_rfl) (by kernel_rfl) (fun _ _ _ h => h) (Or.inl ⟨by rfl, fun w' hS => by go_simp⟩) hHeld ?_
        simp only [Act.put, List.getElem_toArray, List.getElem_cons_zero, List.getElem_cons_succ, List.setIfInBounds_toArray, List.set_cons_zero, List.set_cons_succ]
        rw [hxi.b] at hx2
        have hkl : ∀ (j : Nat) (v : Value), D9.cell? ⟨fb, j, none⟩ = some v → (w6.setCell ⟨X.b, 8 + s, none⟩ (.slice (some ⟨g, 0, none⟩) (rn + 1) cap)).cell? ⟨fb, j, none⟩ = some v := fun j v hc => kept_cell hx2.kept (Hnf.out Xi hxi) hc
        refine wpAnyH_ready (rs := [30]) (by kernel_rfl) (by simp) ?_
        refine AllReadyH.cons rfl (fun K hK => ?_) AllReadyH.nil
        go_simp
        refine hK.out _ _ ⟨hkl _ _ k0, hkl _ _ k1, hkl _ _ k2, hkl _ _ k3, hkl _ _ k4, hkl _ _ k5⟩ (fun hHeld => ?_)
        clear hK K
        refine wpAnyH_done (by kernel_rfl) ?_ _
        clear hHeld
        try simp only [Act.put, List.getElem_toArray, List.getElem_cons_zero, List.getElem_cons_succ, List.setIfInBounds_toArray, List.set_cons_zero, List.set_cons_succ]
        have HN : Hid (∃ Xn, ShS w1 (w6.setCell ⟨X.b, 8 + s, none⟩ (.slice (some ⟨g, 0, none⟩) (rn + 1) cap)) X B s op (i + 1) cs Xn) := (show ∃ Xn, ShS _ _ _ _ _ _ _ _ Xn from ⟨_, Hsh.out.next hbr9 hx2 (by rw [Hcs.out]; exact hlt) (by rw [Hy2.out, Hbyt.out])⟩)
        clear hx2 hx5 hxi ho6 hk6 hg6 hov fv hne6 hfn hkl k0 k1 k2 k3 k4 k5
        go_wp2
        exact ⟨⟨i + 1, by omega, by go_num, HN⟩, by simp [intOf]; omega⟩
      · go_simp
        refine (HC9.out D9 hbr9).mono ?_
        rintro e w5 ⟨⟨y2, rfl, hy2, hok2⟩, hb5⟩
        have Hy2 : Hid (y2.bs = (gB bl i).bs) := hy2
        clear hy2
        unfold Bn.v
        refine hK.out _ _ ⟨below_at hb5 k0, below_at hb5 k1, below_at hb5 k2, below_at hb5 k3, below_at hb5 k4, below_at hb5 k5⟩ (fun hHeld => ?_)
        clear hK K
        refine wpAnyH_take (i := 24) (v := .agg #[.int .i64 3, .int .i64 2, .int .i64 4, .int .i64 9, .int .i64 (sq : Int), .slice (some ⟨y2.k, 0, none⟩) y2.bs.length y2.c]) rfl (by kernel_rfl) (by kernel_rfl) (by kernel_rfl) (fun _ _ _ h => h) (Or.inl ⟨by rfl, fun w' hS => by go_simp⟩) hHeld ?_
        simp only [Act.put, List.getElem_toArray, List.getElem_cons_zero, List.getElem_cons_succ, List.setIfInBounds_toArray, List.set_cons_zero, List.set_cons_succ]
        have rv5 := below_at hb5 rv
        refine wpAnyH_ready (rs := [7, 25]) (by kernel_rfl) (by simp) ?_
        refine AllReadyH.cons rfl (fun K hK => ?_) (AllReadyH.cons rfl (fun K hK => ?_) AllReadyH.nil)
        · go_simp
          refine hK.out _ _ ⟨below_at hb5 k0, below_at hb5 k1, below_at hb5 k2, below_at hb5 k3, below_at hb5 k4, below_at hb5 k5⟩ (fun hHeld => ?_)
          clear hK K
          refine wpAnyH_ready (rs := [25]) (by kernel_rfl) (by simp) ?_
          refine AllReadyH.cons rfl (fun K hK => ?_) AllReadyH.nil
          go_simp
          refine hK.out _ _ ⟨below_at (balloc (Below.refl _ _)) (below_at hb5 k0), below_at (balloc (Below.refl _ _)) (below_at hb5 k1), below_at (balloc (Below.refl _ _)) (below_at hb5 k2), below_at (balloc (Below.refl _ _)) (below_at hb5 k3), below_at (balloc (Below.refl _ _)) (below_at hb5 k4), below_at (balloc (Below.refl _ _)) (below_at hb5 k5)⟩ (fun hHeld => ?_)
          clear hK K
          refine wpAnyH_ready (rs := [26]) (by kernel_rfl) (by simp) ?_
          refine AllReadyH.cons rfl (fun K hK => ?_) AllReadyH.nil
          have hx5 := hxi.ok.still hb5
          refine step_pushF (B := B) rfl (.tmp 83) (.tmp 101) rfl w5 (.slice ra rn rc) ((Xi.f s).flatMap frc) [.int .i64 3, .int .i64 2, .int .i64 4, .int .i64 9, .int .i64 (sq : Int), .slice (some ⟨y2.k, 0, none⟩) y2.bs.length y2.c] rfl (by intro u hu; simp at hu; rcases hu with rfl | rfl | rfl | rfl | rfl | rfl <;> rfl) rfl rn (show w5.ownsRow B 54 6 (.slice ra rn rc) rn _ from by have e2 := hx5.rowf hs; rw [Hrv.out, Hrn.out] at e2; exact e2) rfl rfl (by omega) (Nat.le_trans HB1.out (Nat.le_trans hxi.kept.size hb5.size)) (fun g cap w6 ho6 hk6 hg6 _ => ?_)
          have hx2 := addF_step (y := (op + i + 1, y2)) hxi.ok hs hb5 hok2 (Nat.le_trans HB1.out hxi.kept.size) (n := rn) Hrn.out.symm (show w6.ownsRow _ _ _ _ _ _ from by rw [show frc (op + i + 1, y2) = [.int .i64 3, .int .i64 2, .int .i64 4, .int .i64 9, .int .i64 (sq : Int), .slice (some ⟨y2.k, 0, none⟩) y2.bs.length y2.c] from by unfold frc frv Bn.v tg9; rw [Hsq.out]]; exact ho6) (by rw [Hrv.out]; exact hk6) (by rw [Hrv.out]; exact hg6)
          have hne6 : ¬ (Value.slice ra rn rc).ownBlock = some X.b := fun e => hx5.row_b (i := 8 + s) (by omega) (by omega) (by rw [Hrv.out]; exact e) hxi.b.symm
          have hov : w6.cell? ⟨X.b, 8 + s, none⟩ = some (.slice ra rn rc) := kept_cell hk6 hne6 (below_at hb5 rv)
          have fv := frozen_of_row w6 X.b (8 + s) _ _ (hk6.obj (by rw [← hxi.b]; exact hx5.blk) hne6)
          have hfn : ¬ (Value.slice ra rn rc).ownBlock = some fb := fun e => Hnf.out Xi hxi (own_r (i := 8 + s) (by omega) (by omega) (by rw [Hrv.out]; exact e))
          refine hK.out _ _ ⟨kept_cell hk6 hfn (below_at hb5 k0), kept_cell hk6 hfn (below_at hb5 k1), kept_cell hk6 hfn (below_at hb5 k2), kept_cell hk6 hfn (below_at hb5 k3), kept_cell hk6 hfn (below_at hb5 k4), kept_cell hk6 hfn (below_at hb5 k5)⟩ (fun hHeld => ?_)
          clear hK K
          simp only [Act.put, List.getElem_toArray, List.getElem_cons_zero, List.getElem_cons_succ, List.setIfInBounds_toArray, List.set_cons_zero, List.set_cons_succ]
          refine wpAnyH_take (i := 29) (v := .pointer (some ⟨X.b, 8 + s, none⟩)) rfl (by kernel_rfl) (by kernel_rfl) (by kernel_rfl) (fun _ _ _ h => h) (Or.inl ⟨by rfl, fun w' hS => by go_simp⟩) hHeld ?_
          simp only [Act.put, List.getElem_toArray, List.getElem_cons_zero, List.getElem_cons_succ, List.setIfInBounds_toArray, List.set_cons_zero, List.set_cons_succ]
          rw [hxi.b] at hx2
          have hkl : ∀ (j : Nat) (v : Value), D9.cell? ⟨fb, j, none⟩ = some v → (w6.setCell ⟨X.b, 8 + s, none⟩ (.slice (some ⟨g, 0, none⟩) (rn + 1) cap)).cell? ⟨fb, j, none⟩ = some v := fun j v hc => kept_cell hx2.kept (Hnf.out Xi hxi) hc
          refine wpAnyH_ready (rs := [30]) (by kernel_rfl) (by simp) ?_
          refine AllReadyH.cons rfl (fun K hK => ?_) AllReadyH.nil
          go_simp
          refine hK.out _ _ ⟨hkl _ _ k0, hkl _ _ k1, hkl _ _ k2, hkl _ _ k3, hkl _ _ k4, hkl _ _ k5⟩ (fun hHeld => ?_)
          clear hK K
          refine wpAnyH_done (by kernel_rfl) ?_ _
          clear hHeld
          try simp only [Act.put, List.getElem_toArray, List.getElem_cons_zero, List.getElem_cons_succ, List.setIfInBounds_toArray, List.set_cons_zero, List.set_cons_succ]
          have HN : Hid (∃ Xn, ShS w1 (w6.setCell ⟨X.b, 8 + s, none⟩ (.slice (some ⟨g, 0, none⟩) (rn + 1) cap)) X B s op (i + 1) cs Xn) := (show ∃ Xn, ShS _ _ _ _ _ _ _ _ Xn from ⟨_, Hsh.out.next hbr9 hx2 (by rw [Hcs.out]; exact hlt) (by rw [Hy2.out, Hbyt.out])⟩)
          clear hx2 hx5 hxi ho6 hk6 hg6 hov fv hne6 hfn hkl k0 k1 k2 k3 k4 k5
          go_wp2
          exact ⟨⟨i + 1, by omega, by go_num, HN⟩, by simp [intOf]; omega⟩
        · go_simp
          refine hK.out _ _ ⟨below_at (balloc (Below.refl _ _)) (below_at hb5 k0), below_at (balloc (Below.refl _ _)) (below_at hb5 k1), below_at (balloc (Below.refl _ _)) (below_at hb5 k2), below_at (balloc (Below.refl _ _)) (below_at hb5 k3), below_at (balloc (Below.refl _ _)) (below_at hb5 k4), below_at (balloc (Below.refl _ _)) (below_at hb5 k5)⟩ (fun hHeld => ?_)
          clear hK K
          have rv6 := below_at (balloc (o := .cells #[.int .i64 3, .int .i64 2, .int .i64 4, .int .i64 9, .int .i64 (sq : Int), .slice (some ⟨y2.k, 0, none⟩) y2.bs.length y2.c] 54) (Below.refl _ _)) rv5
          refine wpAnyH_ready (rs := [7]) (by kernel_rfl) (by simp) ?_
          refine AllReadyH.cons rfl (fun K hK => ?_) AllReadyH.nil
          go_simp
          refine hK.out _ _ ⟨below_at (balloc (Below.refl _ _)) (below_at hb5 k0), below_at (balloc (Below.refl _ _)) (below_at hb5 k1), below_at (balloc (Below.refl _ _)) (below_at hb5 k2), below_at (balloc (Below.refl _ _)) (below_at hb5 k3), below_at (balloc (Below.refl _ _)) (below_at hb5 k4), below_at (balloc (Below.refl _ _)) (below_at hb5 k5)⟩ (fun hHeld => ?_)
          clear hK K
          refine wpAnyH_ready (rs := [26]) (by kernel_rfl) (by simp) ?_
          refine AllReadyH.cons rfl (fun K hK => ?_) AllReadyH.nil
          have hx5 := hxi.ok.still hb5
          refine step_pushF (B := B) rfl (.tmp 83) (.tmp 101) rfl w5 (.slice ra rn rc) ((Xi.f s).flatMap frc) [.int .i64 3, .int .i64 2, .int .i64 4, .int .i64 9, .int .i64 (sq : Int), .slice (some ⟨y2.k, 0, none⟩) y2.bs.length y2.c] rfl (by intro u hu; simp at hu; rcases hu with rfl | rfl | rfl | rfl | rfl | rfl <;> rfl) rfl rn (show w5.ownsRow B 54 6 (.slice ra rn rc) rn _ from by have e2 := hx5.rowf hs; rw [Hrv.out, Hrn.out] at e2; exact e2) rfl rfl (by omega) (Nat.le_trans HB1.out (Nat.le_trans hxi.kept.size hb5.size)) (fun g cap w6 ho6 hk6 hg6 _ => ?_)
          have hx2 := addF_step (y := (op + i + 1, y2)) hxi.ok hs hb5 hok2 (Nat.le_trans HB1.out hxi.kept.size) (n := rn) Hrn.out.symm (show w6.ownsRow _ _ _ _ _ _ from by rw [show frc (op + i + 1, y2) = [.int .i64 3, .int .i64 2, .int .i64 4, .int .i64 9, .int .i64 (sq : Int), .slice (some ⟨y2.k, 0, none⟩) y2.bs.length y2.c] from by unfold frc frv Bn.v tg9; rw [Hsq.out]]; exact ho6) (by rw [Hrv.out]; exact hk6) (by rw [Hrv.out]; exact hg6)
          have hne6 : ¬ (Value.slice ra rn rc).ownBlock = some X.b := fun e => hx5.row_b (i := 8 + s) (by omega) (by omega) (by rw [Hrv.out]; exact e) hxi.b.symm
          have hov : w6.cell? ⟨X.b, 8 + s, none⟩ = some (.slice ra rn rc) := kept_cell hk6 hne6 (below_at hb5 rv)
          have fv := frozen_of_row w6 X.b (8 + s) _ _ (hk6.obj (by rw [← hxi.b]; exact hx5.blk) hne6)
          have hfn : ¬ (Value.slice ra rn rc).ownBlock = some fb := fun e => Hnf.out Xi hxi (own_r (i := 8 + s) (by omega) (by omega) (by rw [Hrv.out]; exact e))
          refine hK.out _ _ ⟨kept_cell hk6 hfn (below_at hb5 k0), kept_cell hk6 hfn (below_at hb5 k1), kept_cell hk6 hfn (below_at hb5 k2), kept_cell hk6 hfn (below_at hb5 k3), kept_cell hk6 hfn (below_at hb5 k4), kept_cell hk6 hfn (below_at hb5 k5)⟩ (fun hHeld => ?_)
          clear hK K
          simp only [Act.put, List.getElem_toArray, List.getElem_cons_zero, List.getElem_cons_succ, List.setIfInBounds_toArray, List.set_cons_zero, List.set_cons_succ]
          refine wpAnyH_take (i := 29) (v := .pointer (some ⟨X.b, 8 + s, none⟩)) rfl (by kernel_rfl) (by kernel_rfl) (by kernel_rfl) (fun _ _ _ h => h) (Or.inl ⟨by rfl, fun w' hS => by go_simp⟩) hHeld ?_
          simp only [Act.put, List.getElem_toArray, List.getElem_cons_zero, List.getElem_cons_succ, List.setIfInBounds_toArray, List.set_cons_zero, List.set_cons_succ]
          rw [hxi.b] at hx2
          have hkl : ∀ (j : Nat) (v : Value), D9.cell? ⟨fb, j, none⟩ = some v → (w6.setCell ⟨X.b, 8 + s, none⟩ (.slice (some ⟨g, 0, none⟩) (rn + 1) cap)).cell? ⟨fb, j, none⟩ = some v := fun j v hc => kept_cell hx2.kept (Hnf.out Xi hxi) hc
          refine wpAnyH_ready (rs := [30]) (by kernel_rfl) (by simp) ?_
          refine AllReadyH.cons rfl (fun K hK => ?_) AllReadyH.nil
          go_simp
          refine hK.out _ _ ⟨hkl _ _ k0, hkl _ _ k1, hkl _ _ k2, hkl _ _ k3, hkl _ _ k4, hkl _ _ k5⟩ (fun hHeld => ?_)
          clear hK K
          refine wpAnyH_done (by kernel_rfl) ?_ _
          clear hHeld
          try simp only [Act.put, List.getElem_toArray, List.getElem_cons_zero, List.getElem_cons_succ, List.setIfInBounds_toArray, List.set_cons_zero, List.set_cons_succ]
          have HN : Hid (∃ Xn, ShS w1 (w6.setCell ⟨X.b, 8 + s, none⟩ (.slice (some ⟨g, 0, none⟩) (rn + 1) cap)) X B s op (i + 1) cs Xn) := (show ∃ Xn, ShS _ _ _ _ _ _ _ _ Xn from ⟨_, Hsh.out.next hbr9 hx2 (by rw [Hcs.out]; exact hlt) (by rw [Hy2.out, Hbyt.out])⟩)
          clear hx2 hx5 hxi ho6 hk6 hg6 hov fv hne6 hfn hkl k0 k1 k2 k3 k4 k5
          go_wp2
          exact ⟨⟨i + 1, by omega, by go_num, HN⟩, by simp [intOf]; omega⟩
    · obtain rfl : i = n := by omega
      have HZ : Hid (XO w wr X B (X.pu.show s) (.returned (.bool true))) := (show XO _ _ _ _ _ _ from ⟨rfl, Xi, (Xstep.below HX0.out HB1w.out).trans hsx.st, by rw [hsx.pu, HPs.out, List.take_of_length_le (by rw [Hcs.out]; exact Nat.le_refl _)]⟩)
      clear hsh hsx
      go_wp2
      go_ret
      exact HZ.out
end
end Go.Proofs.Ytghihdenbdnnjaa.Ln
