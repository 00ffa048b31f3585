import Derived.Test.YtmkopbbbonggdaaJrc
namespace Go.Proofs.Ytmkopbbbonggdaa.Jn
open Go.RowKit Mb Fg
set_option linter.unusedVariables false
set_option maxRecDepth 100000
set_option linter.unusedSimpArgs false
section
variable {w w' W : World} {B : Nat}
theorem run_buildop {o : Oper} {ρ : Operand → Value} {w : World} (t : TypeId) (parts : Array (Nat × Operand)) (ho : o.op = .build t parts) (cells : Array Value) (h : Try.prog.built t (parts.map fun (i, x) => (i, ρ x)).toList = some cells) : (execOp ρ o).run Try.prog w = .ok (.value (.agg cells)) w := by
  unfold execOp
  simp only [ho, Sem.run_bind, run_build w t _ cells h, Result.andThen_ok, Sem.run_pure]
theorem two_one (a : Option Addr) (n c : Nat) (b : Option Addr) (m e : Nat) : (#[Value.slice a n c, Value.slice b m e].all fun x => x.oneCell') = true := all_oneCell_toArray (cs := [Value.slice a n c, Value.slice b m e]) (by
  intro u hu
  simp only [List.mem_cons, List.not_mem_nil, or_false] at hu
  rcases hu with rfl | rfl <;> rfl)
structure Fs (w : World) (base bf : Nat) (aa : Option Addr) (ca : Nat) (ab : Option Addr) (cb : Nat) (d : List Int × List Int) : Prop where
  blk : w.heap[bf]? = some (.cells #[.slice aa d.1.length ca, .slice ab d.2.length cb] 36 (0, 0))
  bb : base ≤ bf
  oa : Own w base (.slice aa d.1.length ca) d.1
  ob : Own w base (.slice ab d.2.length cb) d.2
  ne : ∀ g, (Value.slice aa d.1.length ca).ownBlock = some g → (Value.slice ab d.2.length cb).ownBlock ≠ some g
  by_ : ByD d
section
variable {base bf : Nat} {aa : Option Addr} {ca : Nat} {ab : Option Addr} {cb : Nat} {d : List Int × List Int}
theorem Fs.still (h : Fs w base bf aa ca ab cb d) (hb : Below w.heap.size w w') : Fs w' base bf aa ca ab cb d :=
  ⟨(hb.block _ (lt_heap h.blk)).trans h.blk, h.bb, h.oa.still hb, h.ob.still hb, h.ne, h.by_⟩
theorem Fs.na (h : Fs w base bf aa ca ab cb d) : (Value.slice aa d.1.length ca).ownBlock ≠ some bf := fun e => by
  obtain ⟨cur, hc⟩ := own_type h.oa e
  exact ty_ne hc h.blk (by decide) rfl
theorem Fs.nb (h : Fs w base bf aa ca ab cb d) : (Value.slice ab d.2.length cb).ownBlock ≠ some bf := fun e => by
  obtain ⟨cur, hc⟩ := own_type h.ob e
  exact ty_ne hc h.blk (by decide) rfl
theorem Fs.emptyA (h : Fs w base bf aa ca ab cb d) : Fs (w.setCell ⟨bf, 0, none⟩ (.slice none 0 0)) base bf none 0 ab cb ([], d.2) :=
  ⟨blk_set h.blk rfl, h.bb, own_zero _ _, h.ob.keep (kset (P := fun j => j = bf) w bf 0 _ rfl) (fun g hg e => h.nb (by rw [hg, e])), fun g hg => (by cases hg), By.nil, h.by_.2⟩
theorem Fs.emptyB (h : Fs w base bf aa ca ab cb d) : Fs (w.setCell ⟨bf, 1, none⟩ (.slice none 0 0)) base bf aa ca none 0 (d.1, []) :=
  ⟨blk_set h.blk rfl, h.bb, h.oa.keep (kset (P := fun j => j = bf) w bf 1 _ rfl) (fun g hg e => h.na (by rw [hg, e])), own_zero _ _, fun g hg e => (by cases e), h.by_.1, By.nil⟩
theorem Fs.putA {w2 : World} {a2 : Option Addr} {c2 : Nat} {bs : List Int} (h : Fs w base bf aa ca ab cb d) (ho : Own w2 base (.slice a2 (d.1 ++ bs).length c2) (d.1 ++ bs)) (hg : w.grownBy w2 (Value.slice aa d.1.length ca).ownBlock) (hl : (Value.slice a2 (d.1 ++ bs).length c2).ownBlock = (Value.slice aa d.1.length ca).ownBlock ∨ (Value.slice a2 (d.1 ++ bs).length c2).ownBlock = some w.heap.size) (hb : By bs) : Fs (w2.setCell ⟨bf, 0, none⟩ (.slice a2 (d.1 ++ bs).length c2)) base bf a2 c2 ab cb (d.1 ++ bs, d.2) := by
  have k := Kept.ofGrown hg
  have hblk := k.obj h.blk (fun e => h.na e.symm)
  have hob := h.ob.keep k (fun g hg e => h.ne g e.symm hg)
  refine ⟨blk_set hblk rfl, h.bb, ?_, ?_, fun g hg e => ?_, h.by_.1.append hb, h.by_.2⟩
  · exact ho.keep (kset (P := fun j => j = bf) w2 bf 0 _ rfl) (fun g hg e => by
      obtain ⟨cur, hc⟩ := own_type ho hg
      exact ty_ne hc hblk (by decide) e)
  · exact hob.keep (kset (P := fun j => j = bf) w2 bf 0 _ rfl) (fun g hg e => h.nb (by rw [hg, e]))
  · rcases hl with hl | hl
    · exact h.ne g (hl.symm.trans hg) e
    · have h1 := (h.ob.lo e).2
      have h2 : w.heap.size = g := Option.some.inj (hl.symm.trans hg)
      omega
theorem Fs.putB {w2 : World} {a2 : Option Addr} {c2 : Nat} {bs : List Int} (h : Fs w base bf aa ca ab cb d) (ho : Own w2 base (.slice a2 (d.2 ++ bs).length c2) (d.2 ++ bs)) (hg : w.grownBy w2 (Value.slice ab d.2.length cb).ownBlock) (hl : (Value.slice a2 (d.2 ++ bs).length c2).ownBlock = (Value.slice ab d.2.length cb).ownBlock ∨ (Value.slice a2 (d.2 ++ bs).length c2).ownBlock = some w.heap.size) (hb : By bs) : Fs (w2.setCell ⟨bf, 1, none⟩ (.slice a2 (d.2 ++ bs).length c2)) base bf aa ca a2 c2 (d.1, d.2 ++ bs) := by
  have k := Kept.ofGrown hg
  have hblk := k.obj h.blk (fun e => h.nb e.symm)
  have hoa := h.oa.keep k (fun g hg e => h.ne g hg e.symm)
  refine ⟨blk_set hblk rfl, h.bb, ?_, ?_, fun g hg e => ?_, h.by_.1, h.by_.2.append hb⟩
  · exact hoa.keep (kset (P := fun j => j = bf) w2 bf 1 _ rfl) (fun g hg e => h.na (by rw [hg, e]))
  · exact ho.keep (kset (P := fun j => j = bf) w2 bf 1 _ rfl) (fun g hg e => by
      obtain ⟨cur, hc⟩ := own_type ho hg
      exact ty_ne hc hblk (by decide) e)
  · rcases hl with hl | hl
    · exact h.ne g hg (hl.symm.trans e)
    · have h1 := (h.oa.lo hg).2
      have h2 : w.heap.size = g := Option.some.inj (hl.symm.trans e)
      omega
end
def FsP (W : World) (d : List Int × List Int) (p : Value) (wx : World) : Prop := ∃ bf aa ca ab cb, p = .pointer (some ⟨bf, 0, none⟩) ∧ Fs wx W.heap.size bf aa ca ab cb d ∧ Below W.heap.size W wx
theorem own_shape {base : Nat} {v : Value} {bs : List Int} (h : Own w base v bs) : ∃ a c, v = .slice a bs.length c := by
  obtain ⟨a, c, e, _⟩ := h.shape
  exact ⟨a, c, e⟩

structure ApS (W2 : World) (bf : Nat) (l : List Wr) (R : List Int × List Int) (S0 k left : Nat) (wr : World) : Prop where
  ex : ∃ aa ca ab cb d, Fs wr W2.heap.size bf aa ca ab cb d ∧ siz d + tot (l.drop k) ≤ S0 ∧ ap (l.drop k) d left = R
  bel : Below W2.heap.size W2 wr
structure St1 (W2 : World) (bf : Nat) (x : Wr) (p : Nat) (d1 : List Int × List Int) (wx : World) : Prop where
  ex : ∃ aa ca ab cb, Fs wx W2.heap.size bf aa ca ab cb d1
  blk : wx.heap[p]? = some (.cells x.cs.toArray 28 (0, 0))
  bel : Below W2.heap.size W2 wx
theorem min_cast (a b : Nat) : min (a : Int) (b : Int) = ((min a b : Nat) : Int) := by omega
theorem Rd.takeN {ao : Option Addr} {n c : Nat} {bs : List Int} (h : Rd w ao n c bs) {k : Nat} (hk : k ≤ n) : Rd w ao k c (bs.take k) := by
  have hl := h.len
  refine ⟨by rw [List.length_take]; omega, by have := h.cap; omega, h.nil, ?_, h.by_.take k⟩
  rcases h.at_ with h0 | ⟨b, off, e, hc⟩
  · exact .inl (by omega)
  · refine .inr ⟨b, off, e, fun i hi => ?_⟩
    rw [hc i (by omega)]
    simp [List.getD, List.getElem?_take, show i < k from hi]
def ClP (dA : List Int) (aa : Option Addr) (an ac : Nat) (V : World) : Prop := Calls Try.prog 13 #[.slice aa an ac] V fun e w' => ∃ a c, e = .returned (.slice a dA.length c) ∧ Own w' V.heap.size (.slice a dA.length c) dA ∧ Below V.heap.size V w'
theorem clone_sh {ao : Option Addr} {n c : Nat} {bs : List Int} (hr : Rd w ao n c bs) (hlen : n ≤ 140737488355264) : ClP bs ao n c w := by
  refine (clone_any hr hlen).mono ?_
  rintro e w' ⟨v, rfl, ho, hb⟩
  obtain ⟨a, c2, rfl⟩ := own_shape ho
  exact ⟨a, c2, rfl, ho, hb⟩
set_option maxHeartbeats 16000000 in
theorem apply_any {aa : Option Addr} {an ac : Nat} {dA : List Int} (hA : Rd w aa an ac dA) {ba : Option Addr} {bn bc : Nat} {dB : List Int} (hB : Rd w ba bn bc dB) {wo : Option Addr} {m d : Nat} {l : List Wr} (hl : RdWs w wo m l) (k : Int) (hk : k ≤ 9223372036854775807) (hS : dA.length + dB.length + tot l ≤ 4194304) (hm : m ≤ 4194304) : Calls Try.prog 7 #[.agg #[.slice aa an ac, .slice ba bn bc], .slice wo m d, .int .i64 k] w fun e w' => ∃ va vb, e = .returned (.agg #[va, vb]) ∧ Own w' w.heap.size va (ap l (dA, dB) (kN l k)).1 ∧ Own w' w.heap.size vb (ap l (dA, dB) (kN l k)).2 ∧ Below w.heap.size w w' := by
  obtain rfl : dA.length = an := hA.len
  obtain rfl : dB.length = bn := hB.len
  generalize hW : w.alloc (.cells #[.slice aa dA.length ac, .slice ba dB.length bc] 24) = W
  generalize hW1 : W.alloc (.cells #[.slice none 0 0, .slice none 0 0] 24) = W1
  have s1 : W.heap.size = w.heap.size + 1 := by rw [← hW]; simp
  have b1 : Below w.heap.size w W := by rw [← hW]; exact balloc (Below.refl _ _)
  have b2 : Below W.heap.size W W1 := by rw [← hW1]; exact balloc (Below.refl _ _)
  have kb1 : W.heap[w.heap.size]? = some (.cells #[.slice aa dA.length ac, .slice ba dB.length bc] 24 (0, 0)) := by rw [← hW]; exact heap_alloc_new w _
  have kb1' : W1.heap[w.heap.size]? = some (.cells #[.slice aa dA.length ac, .slice ba dB.length bc] 24 (0, 0)) := (b2.block _ (by omega)).trans kb1
  have kb2 : W1.heap[W.heap.size]? = some (.cells #[.slice none 0 0, .slice none 0 0] 24 (0, 0)) := by rw [← hW1]; exact heap_alloc_new W _
  have Hs1 : Hid (W.heap.size = w.heap.size + 1) := s1
  have HR2 : Hid (W1.heap[W.heap.size]? = some (.cells #[.slice none 0 0, .slice none 0 0] 24 (0, 0))) := kb2
  have HBW : Hid (Below w.heap.size w W1) := bstep b1 b2
  have HD1 : Hid (W1.heap[w.heap.size]? = some (.cells #[.slice aa dA.length ac, .slice ba dB.length bc] 24 (0, 0))) := kb1'
  have HA : Hid (Rd W1 aa dA.length ac dA) := hA.still HBW.out
  have HB : Hid (Rd W1 ba dB.length bc dB) := hB.still HBW.out
  have HL : Hid (RdWs W1 wo m l) := hl.still HBW.out
  have Hll : Hid (l.length = m) := hl.len
  have hcl := cost_le l
  have HByD : Hid (ByD (dA, dB)) := ⟨hA.by_, hB.by_⟩
  have Hxn : Hid (∀ i, i < m → (l.getD i wr0).n = (l.getD i wr0).bs.length) := fun i hi => (hl.mem i hi).len.symm
  have HCo : Hid (Calls Try.prog 5 #[.slice wo m d] W1 fun e w' => e = .returned (.int .i64 (cost l : Int)) ∧ Below W1.heap.size W1 w') := fcost_any HL.out (by omega) (by have := hl.len; omega) (fun i hi => by
    rw [Hxn.out i hi]
    have := tot_app (l.take i) (l.drop i)
    rw [List.take_append_drop, drop_cons (by have := hl.len; omega)] at this
    simp only [tot] at this
    omega)
  have hcl2 : cost l ≤ 8388608 := by have := hl.len; omega
  clear hA hB hl b1 b2 kb1 kb1' kb2 hcl s1
  go_enter Try.func7, Try.ntmps7
  go_upto_if 14 with (fail)
  go_cut [7] (fun lf wx => lf = .int .i64 (kN l k : Int) ∧ Hid (Below W1.heap.size W1 wx))
  case first =>
    by_cases hk0 : k < 0
    · have HK : Hid (kN l k = cost l) := by show _ = _; unfold kN; rw [if_pos hk0]
      go_wp2_with (first
        | (go_at_call 5; refine HCo.out.mono ?_; rintro e w2 ⟨rfl, hb2⟩)
        | fail)
      go_meet
      exact ⟨by rw [HK.out], hb2⟩
    · have HK : Hid (kN l k = k.toNat) := by show _ = _; unfold kN; rw [if_neg hk0]
      have hk1 : ((k.toNat : Nat) : Int) = k := by omega
      have hk2 : ¬ k < 0 := hk0
      go_wp2_with (fail)
      go_meet
      exact ⟨by rw [HK.out, hk1], Below.refl _ _⟩
  case rest =>
  obtain ⟨rfl, HBc⟩ := hcut
  have hKn : (kN l k : Int) ≤ 9223372036854775807 := by unfold kN; split <;> omega
  obtain ⟨W2, rfl⟩ : ∃ x : World, x = wc := ⟨_, rfl⟩
  obtain ⟨K0, hK0⟩ : ∃ x, kN l k = x := ⟨_, rfl⟩
  have HK0 : Hid (kN l k = K0) := hK0
  rw [hK0] at hKn
  rw [hK0]
  clear hK0 HCo
  have c0 : W2.cell? ⟨w.heap.size, 0, none⟩ = some (.slice aa dA.length ac) := below_at HBc.out (blk_cell HD1.out 0)
  have c1 : W2.cell? ⟨w.heap.size, 1, none⟩ = some (.slice ba dB.length bc) := below_at HBc.out (blk_cell HD1.out 1)
  have HC1 : Hid (∀ V, Below W2.drew.heap.size W2.drew V → ClP dA aa dA.length ac V) := fun V hV => clone_sh (((HA.out.still HBc.out).still (Below.refl _ _).drew).still hV) (by omega)
  have HC2 : Hid (∀ V, Below W2.drew.heap.size W2.drew V → ClP dB ba dB.length bc V) := fun V hV => clone_sh (((HB.out.still HBc.out).still (Below.refl _ _).drew).still hV) (by omega)
  go_upto_region 4 with (fail)
  go_cut [8] (fun p wx => Hid (FsP W2 (dA, dB) p wx))
  case first =>
    refine wp_region_held_drew (S := (fun w' => w'.cell? ⟨w.heap.size, 0, none⟩ = some (.slice aa dA.length ac) ∧ w'.cell? ⟨w.heap.size, 1, none⟩ = some (.slice ba dB.length bc))) (by kernel_rfl) ⟨below_at (Below.refl _ _).drew c0, below_at (Below.refl _ _).drew c1⟩ (fun hHeld => ?_)
    simp only [Act.put, List.size_toArray, List.length_cons, List.length_nil, Nat.zero_add]
    refine wpAnyH_take (i := 0) (v := .pointer (some ⟨w.heap.size, 0, none⟩)) rfl (by kernel_rfl) (by kernel_rfl) (by kernel_rfl) (fun _ _ _ h => h) (Or.inl ⟨by rfl, fun w' hS => by go_simp⟩) hHeld ?_
    simp only [Act.put, List.getElem_toArray, List.getElem_cons_zero, List.getElem_cons_succ, List.setIfInBounds_toArray, List.set_cons_zero, List.set_cons_succ]
    refine wpAnyH_take (i := 1) (v := .slice aa dA.length ac) rfl (by kernel_rfl) (by kernel_rfl) (by kernel_rfl) (fun _ _ _ h => h) (Or.inl ⟨by rfl, fun w' hS => by (obtain ⟨s0, s1⟩ := hS; go_simp)⟩) hHeld ?_
    simp only [Act.put, List.getElem_toArray, List.getElem_cons_zero, List.getElem_cons_succ, List.setIfInBounds_toArray, List.set_cons_zero, List.set_cons_succ]
    refine wpAnyH_take (i := 3) (v := .pointer (some ⟨w.heap.size, 1, none⟩)) rfl (by kernel_rfl) (by kernel_rfl) (by kernel_rfl) (fun _ _ _ h => h) (Or.inl ⟨by rfl, fun w' hS => by go_simp⟩) hHeld ?_
    simp only [Act.put, List.getElem_toArray, List.getElem_cons_zero, List.getElem_cons_succ, List.setIfInBounds_toArray, List.set_cons_zero, List.set_cons_succ]
    refine wpAnyH_take (i := 4) (v := .slice ba dB.length bc) rfl (by kernel_rfl) (by kernel_rfl) (by kernel_rfl) (fun _ _ _ h => h) (Or.inl ⟨by rfl, fun w' hS => by (obtain ⟨s0, s1⟩ := hS; go_simp)⟩) hHeld ?_
    simp only [Act.put, List.getElem_toArray, List.getElem_cons_zero, List.getElem_cons_succ, List.setIfInBounds_toArray, List.set_cons_zero, List.set_cons_succ]
    have HVX0 : Hid (Below W2.drew.heap.size W2.drew W2.drew) := Below.refl _ _
    refine wpAnyH_ready (rs := [2, 7]) (by kernel_rfl) (by simp) ?_
    refine AllReadyH.cons rfl (fun K hK => ?_) (AllReadyH.cons rfl (fun K hK => ?_) AllReadyH.nil)
    · skip
      go_simp
      refine (HC1.out W2.drew HVX0.out).mono ?_
      rintro e X1 ⟨aa1, ca1, rfl, ho1, hb1⟩
      have HVX1 : Hid (Below W2.drew.heap.size W2.drew X1) := bstep HVX0.out hb1
      have Hs1 : Hid (W2.drew.heap.size ≤ X1.heap.size) := hb1.size
      have HO1 : Hid (Own X1 W2.drew.heap.size (.slice aa1 dA.length ca1) dA) := ho1
      refine hK.out _ _ ⟨below_at HVX1.out (below_at (Below.refl _ _).drew c0), below_at HVX1.out (below_at (Below.refl _ _).drew c1)⟩ (fun hHeld => ?_)
      clear hK K ho1
      refine wpAnyH_ready (rs := [5, 7]) (by kernel_rfl) (by simp) ?_
      refine AllReadyH.cons rfl (fun K hK => ?_) (AllReadyH.cons rfl (fun K hK => ?_) AllReadyH.nil)
      · skip
        go_simp
        refine (HC2.out X1 HVX1.out).mono ?_
        rintro e X2 ⟨aa2, ca2, rfl, ho2, hb2⟩
        have HVX2 : Hid (Below W2.drew.heap.size W2.drew X2) := bstep HVX1.out hb2
        have Hs2 : Hid (X1.heap.size ≤ X2.heap.size) := hb2.size
        have HO2 : Hid (Own X2 X1.heap.size (.slice aa2 dB.length ca2) dB) := ho2
        refine hK.out _ _ ⟨below_at HVX2.out (below_at (Below.refl _ _).drew c0), below_at HVX2.out (below_at (Below.refl _ _).drew c1)⟩ (fun hHeld => ?_)
        clear hK K ho2
        refine wpAnyH_take (i := 6) (v := .agg #[.slice aa1 dA.length ca1, .slice aa2 dB.length ca2]) rfl (by kernel_rfl) (by kernel_rfl) (by kernel_rfl) (fun _ _ _ h => h) (Or.inl ⟨by rfl, fun w' hS => by exact run_buildop 36 _ rfl _ (by kernel_rfl)⟩) hHeld ?_
        simp only [Act.put, List.getElem_toArray, List.getElem_cons_zero, List.getElem_cons_succ, List.setIfInBounds_toArray, List.set_cons_zero, List.set_cons_succ]
        refine wpAnyH_ready (rs := [7]) (by kernel_rfl) (by simp) ?_
        refine AllReadyH.cons rfl (fun K hK => ?_) AllReadyH.nil
        obtain ⟨X3, hX3⟩ : ∃ x, X2.alloc (.cells #[.slice none 0 0, .slice none 0 0] 36) = x := ⟨_, rfl⟩
        have HVX3 : Hid (Below W2.drew.heap.size W2.drew X3) := by rw [← hX3]; exact balloc HVX2.out
        have HBl : Hid (X3.heap[X2.heap.size]? = some (.cells #[.slice none 0 0, .slice none 0 0] 36 (0, 0))) := by rw [← hX3]; exact heap_alloc_new _ _
        have HBs : Hid (Below X2.heap.size X2 X3) := by rw [← hX3]; exact balloc (Below.refl _ _)
        have Hbf : Hid (W2.drew.heap.size ≤ X2.heap.size) := HVX2.out.size
        go_simp
        try rw [hX3]
        refine hK.out _ _ ⟨below_at HVX3.out (below_at (Below.refl _ _).drew c0), below_at HVX3.out (below_at (Below.refl _ _).drew c1)⟩ (fun hHeld => ?_)
        clear hK K
        refine wpAnyH_ready (rs := [8]) (by kernel_rfl) (by simp) ?_
        refine AllReadyH.cons rfl (fun K hK => ?_) AllReadyH.nil
        split
        · skip
          have HLb : Hid (X3.heap[X2.heap.size]? = some (.cells #[.slice none 0 0, .slice none 0 0] 36 (0, 0))) := HBl.out
          obtain ⟨Y, hY⟩ : ∃ Y, X3.setCells X2.heap.size 0 #[.slice aa1 dA.length ca1, .slice aa2 dB.length ca2].toList = Y := ⟨_, rfl⟩
          have HKY : Hid (Kept X3 Y (fun j => j = X2.heap.size)) := by rw [← hY]; exact ksets (P := fun j => j = X2.heap.size) rfl _ _ _
          have HYb : Hid (Y.heap[X2.heap.size]? = some (.cells #[.slice aa1 dA.length ca1, .slice aa2 dB.length ca2] 36 (0, 0))) := by rw [← hY]; exact sets_whole HLb.out rfl
          have HBY : Hid (Below W2.drew.heap.size W2.drew Y) := HVX3.out.trans (HKY.out.below HVX3.out.size (fun j hj e => by have := Hbf.out; omega))
          have HFs : Hid (Fs Y W2.heap.size (X2.heap.size) aa1 ca1 aa2 ca2 (dA, dB)) := by
            have k1 : ∀ (v : Value) (bs : List Int) (b0 : Nat), Own X3 b0 v bs → W2.heap.size ≤ b0 → Own Y W2.heap.size v bs := fun v bs b0 ho hb0 => (ho.lower hb0).keep HKY.out (fun g hg e => by
              obtain ⟨cur, hc⟩ := own_type ho hg
              exact ty_ne hc HLb.out (by decide) e)
            refine ⟨HYb.out, Hbf.out, k1 _ _ _ (HO1.out.still (bstep (bstep (Below.refl _ _) hb2) HBs.out)) ?_, k1 _ _ _ (HO2.out.still HBs.out) ?_, fun g hg e => ?_, HByD.out⟩
            · first | exact HVX0.out.size | exact HVX3.out.size
            · first | exact HVX1.out.size | exact HVX3.out.size
            · have h1 := (HO1.out.lo hg).2
              have h2 := (HO2.out.lo e).1
              omega
          have HBW2 : Hid (Below W2.heap.size W2 Y) := bstep (Below.refl _ _).drew HBY.out
          refine wp_store_mid 36 (.tmp 8) (.tmp 23) rfl X2.heap.size 0 _ rfl rfl (by exact blk_there HLb.out rfl) info_a2 (two_one _ _ _ _ _ _) ?_
          rw [show X3.setCells X2.heap.size 0 #[.slice aa1 dA.length ca1, .slice aa2 dB.length ca2].toList = Y from hY]
          refine hK.out _ _ ⟨below_at HBY.out (below_at (Below.refl _ _).drew c0), below_at HBY.out (below_at (Below.refl _ _).drew c1)⟩ (fun hHeld => ?_)
          clear hK K
          refine wpAnyH_done (by kernel_rfl) ?_ _
          clear hHeld
          go_wp2_with (fail)
          go_meet
          exact ⟨_, _, _, _, _, rfl, HFs.out, HBW2.out⟩
        · rename_i hne2
          exact absurd rfl hne2
      · skip
        obtain ⟨X3, hX3⟩ : ∃ x, X1.alloc (.cells #[.slice none 0 0, .slice none 0 0] 36) = x := ⟨_, rfl⟩
        have HVX3 : Hid (Below W2.drew.heap.size W2.drew X3) := by rw [← hX3]; exact balloc HVX1.out
        have HBl : Hid (X3.heap[X1.heap.size]? = some (.cells #[.slice none 0 0, .slice none 0 0] 36 (0, 0))) := by rw [← hX3]; exact heap_alloc_new _ _
        have HBs : Hid (Below X1.heap.size X1 X3) := by rw [← hX3]; exact balloc (Below.refl _ _)
        have Hbf : Hid (W2.drew.heap.size ≤ X1.heap.size) := HVX1.out.size
        go_simp
        try rw [hX3]
        refine hK.out _ _ ⟨below_at HVX3.out (below_at (Below.refl _ _).drew c0), below_at HVX3.out (below_at (Below.refl _ _).drew c1)⟩ (fun hHeld => ?_)
        clear hK K
        refine wpAnyH_ready (rs := [5]) (by kernel_rfl) (by simp) ?_
        refine AllReadyH.cons rfl (fun K hK => ?_) AllReadyH.nil
        go_simp
        refine (HC2.out X3 HVX3.out).mono ?_
        rintro e X2 ⟨aa2, ca2, rfl, ho2, hb2⟩
        have HVX2 : Hid (Below W2.drew.heap.size W2.drew X2) := bstep HVX3.out hb2
        have Hs2 : Hid (X3.heap.size ≤ X2.heap.size) := hb2.size
        have HO2 : Hid (Own X2 X3.heap.size (.slice aa2 dB.length ca2) dB) := ho2
        refine hK.out _ _ ⟨below_at HVX2.out (below_at (Below.refl _ _).drew c0), below_at HVX2.out (below_at (Below.refl _ _).drew c1)⟩ (fun hHeld => ?_)
        clear hK K ho2
        refine wpAnyH_take (i := 6) (v := .agg #[.slice aa1 dA.length ca1, .slice aa2 dB.length ca2]) rfl (by kernel_rfl) (by kernel_rfl) (by kernel_rfl) (fun _ _ _ h => h) (Or.inl ⟨by rfl, fun w' hS => by exact run_buildop 36 _ rfl _ (by kernel_rfl)⟩) hHeld ?_
        simp only [Act.put, List.getElem_toArray, List.getElem_cons_zero, List.getElem_cons_succ, List.setIfInBounds_toArray, List.set_cons_zero, List.set_cons_succ]
        refine wpAnyH_ready (rs := [8]) (by kernel_rfl) (by simp) ?_
        refine AllReadyH.cons rfl (fun K hK => ?_) AllReadyH.nil
        split
        · skip
          have HLb : Hid (X2.heap[X1.heap.size]? = some (.cells #[.slice none 0 0, .slice none 0 0] 36 (0, 0))) := (hb2.block _ (lt_heap HBl.out)).trans HBl.out
          obtain ⟨Y, hY⟩ : ∃ Y, X2.setCells X1.heap.size 0 #[.slice aa1 dA.length ca1, .slice aa2 dB.length ca2].toList = Y := ⟨_, rfl⟩
          have HKY : Hid (Kept X2 Y (fun j => j = X1.heap.size)) := by rw [← hY]; exact ksets (P := fun j => j = X1.heap.size) rfl _ _ _
          have HYb : Hid (Y.heap[X1.heap.size]? = some (.cells #[.slice aa1 dA.length ca1, .slice aa2 dB.length ca2] 36 (0, 0))) := by rw [← hY]; exact sets_whole HLb.out rfl
          have HBY : Hid (Below W2.drew.heap.size W2.drew Y) := HVX2.out.trans (HKY.out.below HVX2.out.size (fun j hj e => by have := Hbf.out; omega))
          have HFs : Hid (Fs Y W2.heap.size (X1.heap.size) aa1 ca1 aa2 ca2 (dA, dB)) := by
            have k1 : ∀ (v : Value) (bs : List Int) (b0 : Nat), Own X2 b0 v bs → W2.heap.size ≤ b0 → Own Y W2.heap.size v bs := fun v bs b0 ho hb0 => (ho.lower hb0).keep HKY.out (fun g hg e => by
              obtain ⟨cur, hc⟩ := own_type ho hg
              exact ty_ne hc HLb.out (by decide) e)
            refine ⟨HYb.out, Hbf.out, k1 _ _ _ (HO1.out.still (bstep HBs.out hb2)) ?_, k1 _ _ _ HO2.out ?_, fun g hg e => ?_, HByD.out⟩
            · first | exact HVX0.out.size | exact HVX3.out.size
            · first | exact HVX1.out.size | exact HVX3.out.size
            · have h1 := Nat.lt_of_lt_of_le (HO1.out.lo hg).2 HBs.out.size
              have h2 := (HO2.out.lo e).1
              omega
          have HBW2 : Hid (Below W2.heap.size W2 Y) := bstep (Below.refl _ _).drew HBY.out
          refine wp_store_mid 36 (.tmp 8) (.tmp 23) rfl X1.heap.size 0 _ rfl rfl (by exact blk_there HLb.out rfl) info_a2 (two_one _ _ _ _ _ _) ?_
          rw [show X2.setCells X1.heap.size 0 #[.slice aa1 dA.length ca1, .slice aa2 dB.length ca2].toList = Y from hY]
          refine hK.out _ _ ⟨below_at HBY.out (below_at (Below.refl _ _).drew c0), below_at HBY.out (below_at (Below.refl _ _).drew c1)⟩ (fun hHeld => ?_)
          clear hK K
          refine wpAnyH_done (by kernel_rfl) ?_ _
          clear hHeld
          go_wp2_with (fail)
          go_meet
          exact ⟨_, _, _, _, _, rfl, HFs.out, HBW2.out⟩
        · rename_i hne2
          exact absurd rfl hne2
    · skip
      obtain ⟨X3, hX3⟩ : ∃ x, W2.drew.alloc (.cells #[.slice none 0 0, .slice none 0 0] 36) = x := ⟨_, rfl⟩
      have HVX3 : Hid (Below W2.drew.heap.size W2.drew X3) := by rw [← hX3]; exact balloc HVX0.out
      have HBl : Hid (X3.heap[W2.drew.heap.size]? = some (.cells #[.slice none 0 0, .slice none 0 0] 36 (0, 0))) := by rw [← hX3]; exact heap_alloc_new _ _
      have HBs : Hid (Below W2.drew.heap.size W2.drew X3) := by rw [← hX3]; exact balloc (Below.refl _ _)
      have Hbf : Hid (W2.drew.heap.size ≤ W2.drew.heap.size) := HVX0.out.size
      go_simp
      try rw [hX3]
      refine hK.out _ _ ⟨below_at HVX3.out (below_at (Below.refl _ _).drew c0), below_at HVX3.out (below_at (Below.refl _ _).drew c1)⟩ (fun hHeld => ?_)
      clear hK K
      refine wpAnyH_ready (rs := [2]) (by kernel_rfl) (by simp) ?_
      refine AllReadyH.cons rfl (fun K hK => ?_) AllReadyH.nil
      go_simp
      refine (HC1.out X3 HVX3.out).mono ?_
      rintro e X1 ⟨aa1, ca1, rfl, ho1, hb1⟩
      have HVX1 : Hid (Below W2.drew.heap.size W2.drew X1) := bstep HVX3.out hb1
      have Hs1 : Hid (X3.heap.size ≤ X1.heap.size) := hb1.size
      have HO1 : Hid (Own X1 X3.heap.size (.slice aa1 dA.length ca1) dA) := ho1
      refine hK.out _ _ ⟨below_at HVX1.out (below_at (Below.refl _ _).drew c0), below_at HVX1.out (below_at (Below.refl _ _).drew c1)⟩ (fun hHeld => ?_)
      clear hK K ho1
      refine wpAnyH_ready (rs := [5]) (by kernel_rfl) (by simp) ?_
      refine AllReadyH.cons rfl (fun K hK => ?_) AllReadyH.nil
      go_simp
      refine (HC2.out X1 HVX1.out).mono ?_
      rintro e X2 ⟨aa2, ca2, rfl, ho2, hb2⟩
      have HVX2 : Hid (Below W2.drew.heap.size W2.drew X2) := bstep HVX1.out hb2
      have Hs2 : Hid (X1.heap.size ≤ X2.heap.size) := hb2.size
      have HO2 : Hid (Own X2 X1.heap.size (.slice aa2 dB.length ca2) dB) := ho2
      refine hK.out _ _ ⟨below_at HVX2.out (below_at (Below.refl _ _).drew c0), below_at HVX2.out (below_at (Below.refl _ _).drew c1)⟩ (fun hHeld => ?_)
      clear hK K ho2
      refine wpAnyH_take (i := 6) (v := .agg #[.slice aa1 dA.length ca1, .slice aa2 dB.length ca2]) rfl (by kernel_rfl) (by kernel_rfl) (by kernel_rfl) (fun _ _ _ h => h) (Or.inl ⟨by rfl, fun w' hS => by exact run_buildop 36 _ rfl _ (by kernel_rfl)⟩) hHeld ?_
      simp only [Act.put, List.getElem_toArray, List.getElem_cons_zero, List.getElem_cons_succ, List.setIfInBounds_toArray, List.set_cons_zero, List.set_cons_succ]
      refine wpAnyH_ready (rs := [8]) (by kernel_rfl) (by simp) ?_
      refine AllReadyH.cons rfl (fun K hK => ?_) AllReadyH.nil
      split
      · skip
        have HLb : Hid (X2.heap[W2.drew.heap.size]? = some (.cells #[.slice none 0 0, .slice none 0 0] 36 (0, 0))) := ((bstep hb1 hb2).block _ (lt_heap HBl.out)).trans HBl.out
        obtain ⟨Y, hY⟩ : ∃ Y, X2.setCells W2.drew.heap.size 0 #[.slice aa1 dA.length ca1, .slice aa2 dB.length ca2].toList = Y := ⟨_, rfl⟩
        have HKY : Hid (Kept X2 Y (fun j => j = W2.drew.heap.size)) := by rw [← hY]; exact ksets (P := fun j => j = W2.drew.heap.size) rfl _ _ _
        have HYb : Hid (Y.heap[W2.drew.heap.size]? = some (.cells #[.slice aa1 dA.length ca1, .slice aa2 dB.length ca2] 36 (0, 0))) := by rw [← hY]; exact sets_whole HLb.out rfl
        have HBY : Hid (Below W2.drew.heap.size W2.drew Y) := HVX2.out.trans (HKY.out.below HVX2.out.size (fun j hj e => by have := Hbf.out; omega))
        have HFs : Hid (Fs Y W2.heap.size (W2.drew.heap.size) aa1 ca1 aa2 ca2 (dA, dB)) := by
          have k1 : ∀ (v : Value) (bs : List Int) (b0 : Nat), Own X2 b0 v bs → W2.heap.size ≤ b0 → Own Y W2.heap.size v bs := fun v bs b0 ho hb0 => (ho.lower hb0).keep HKY.out (fun g hg e => by
            obtain ⟨cur, hc⟩ := own_type ho hg
            exact ty_ne hc HLb.out (by decide) e)
          refine ⟨HYb.out, Hbf.out, k1 _ _ _ (HO1.out.still hb2) ?_, k1 _ _ _ HO2.out ?_, fun g hg e => ?_, HByD.out⟩
          · first | exact HVX0.out.size | exact HVX3.out.size
          · first | exact HVX1.out.size | exact HVX3.out.size
          · have h1 := (HO1.out.lo hg).2
            have h2 := (HO2.out.lo e).1
            omega
        have HBW2 : Hid (Below W2.heap.size W2 Y) := bstep (Below.refl _ _).drew HBY.out
        refine wp_store_mid 36 (.tmp 8) (.tmp 23) rfl W2.drew.heap.size 0 _ rfl rfl (by exact blk_there HLb.out rfl) info_a2 (two_one _ _ _ _ _ _) ?_
        rw [show X2.setCells W2.drew.heap.size 0 #[.slice aa1 dA.length ca1, .slice aa2 dB.length ca2].toList = Y from hY]
        refine hK.out _ _ ⟨below_at HBY.out (below_at (Below.refl _ _).drew c0), below_at HBY.out (below_at (Below.refl _ _).drew c1)⟩ (fun hHeld => ?_)
        clear hK K
        refine wpAnyH_done (by kernel_rfl) ?_ _
        clear hHeld
        go_wp2_with (fail)
        go_meet
        exact ⟨_, _, _, _, _, rfl, HFs.out, HBW2.out⟩
      · rename_i hne2
        exact absurd rfl hne2
  case rest =>
  obtain ⟨bf, ia, ica, ib, icb, rfl, hF0, hbF⟩ := hcut.out
  have Hlow : Hid (w.heap.size ≤ W2.heap.size) := Nat.le_trans HBW.out.size HBc.out.size
  have HRes2 : Hid (W2.heap[W.heap.size]? = some (.cells #[.slice none 0 0, .slice none 0 0] 24 (0, 0))) := (HBc.out.block _ (lt_heap HR2.out)).trans HR2.out
  have Hup : Hid (W.heap.size < W2.heap.size) := lt_heap HRes2.out
  have HL2 : Hid (RdWs W2 wo m l) := HL.out.still HBc.out
  have HBw2 : Hid (Below w.heap.size w W2) := bstep HBW.out HBc.out
  obtain ⟨R, hR⟩ : ∃ R, ap l (dA, dB) K0 = R := ⟨_, rfl⟩
  have HRk : Hid (ap l (dA, dB) (kN l k) = R) := by show _ = _; rw [HK0.out]; exact hR
  have HA0 : Hid (ApS W2 bf l R (dA.length + dB.length + tot l) 0 K0 wc) := ⟨⟨ia, ica, ib, icb, (dA, dB), hF0, Nat.le_refl _, hR⟩, hbF⟩
  obtain ⟨S0, hS0⟩ : ∃ x, dA.length + dB.length + tot l = x := ⟨_, rfl⟩
  rw [hS0] at hS HA0
  clear hF0 hbF hcut c0 c1 HC1 HC2 hR hS0 HA HB HL HD1 HR2 HByD
  go_wp2_with (fail)
  go_loopw [7, 10, 11, 26] (fun lf p q i wr => ∃ (k left : Nat), k ≤ m ∧ i = .int .i64 (k : Int) ∧ lf = .int .i64 (left : Int) ∧ (left : Int) ≤ 9223372036854775807 ∧ Hid (ApS W2 bf l R S0 k left wr)) (fun _ _ _ i _ => m - (intOf i).toNat)
  case atStart => exact ⟨0, K0, Nat.zero_le _, rfl, rfl, hKn, HA0.out⟩
  case round =>
  obtain ⟨k, left, hkm, rfl, rfl, hlf, HAp⟩ := hrel
  obtain ⟨⟨ga, gca, gb, gcb, d0, hF, hsz, hap⟩, hbel⟩ := HAp.out
  have HFr : Hid (Fs wr W2.heap.size bf ga gca gb gcb d0) := hF
  have HBr : Hid (Below W2.heap.size W2 wr) := hbel
  have Hap : Hid (ap (l.drop k) d0 left = R) := hap
  clear hF hbel hap HAp
  by_cases hlt : k < m
  · obtain ⟨eb, eo, hwo, hrg⟩ := (HL2.out.still HBr.out).at hlt
    have HX : Hid (wr.rangeAt eb (eo + k * 3) (l.getD k wr0).cs) := hrg
    have HRx : Hid (Rd W2 (l.getD k wr0).ao (l.getD k wr0).n (l.getD k wr0).c (l.getD k wr0).bs) := HL2.out.mem k hlt
    have hdr := drop_cons (l := l) (k := k) (by rw [Hll.out]; exact hlt)
    have HDr : Hid (ap (l.drop (k + 1)) (put1 (l.getD k wr0) d0 left).1 (put1 (l.getD k wr0) d0 left).2 = R) := by
      have := Hap.out
      rw [hdr] at this
      exact this
    rw [hdr] at hsz
    simp only [tot] at hsz
    clear hdr hrg
    generalize l.getD k wr0 = x at *
    obtain ⟨A1, V, hA1, HTh, hV, HVb, HBV⟩ := newwr wr x
    have i1 : (0 : Int) ≤ (k : Int) := Int.natCast_nonneg _
    have i2 : (k : Int) < (m : Int) := by omega
    have HFV : Hid (Fs V W2.heap.size bf ga gca gb gcb d0) := HFr.out.still HBV.out
    have HBV2 : Hid (Below W2.heap.size W2 V) := HBr.out.trans (HBV.out.mono HBr.out.size)
    have HBfin : Hid (Below w.heap.size w V) := bstep HBw2.out HBV2.out
    have HRes : Hid (V.heap[W.heap.size]? = some (.cells #[.slice none 0 0, .slice none 0 0] 24 (0, 0))) := (HBV2.out.block _ (lt_heap HRes2.out)).trans HRes2.out
    have p0 : V.cell? ⟨wr.heap.size, 0, none⟩ = some (.int .i64 x.f) := blk_cell HVb.out 0
    have p1 : V.cell? ⟨wr.heap.size, 1, none⟩ = some (.bool x.st) := blk_cell HVb.out 1
    have HIf : Hid (∀ V : World, Calls Try.prog 14 #[.int .i64 x.f] V fun e w' => e = .returned (.bool (isF x.f)) ∧ V = w') := fun V => isFile_any _
    rw [hwo]
    clear hwo HFr
    by_cases hl0 : left = 0
    · subst hl0
      have Hr0 : Hid (d0 = R) := by have := Hap.out; rw [ap_zero] at this; exact this
      have y0 : V.cell? ⟨bf, 0, none⟩ = some (.slice ga d0.1.length gca) := blk_cell HFV.out.blk 0
      have y1 : V.cell? ⟨bf, 1, none⟩ = some (.slice gb d0.2.length gcb) := blk_cell HFV.out.blk 1
      have HTr : Hid (V.there (W.heap.size) 0 2) := blk_there HRes.out rfl
      obtain ⟨Y, hY⟩ : ∃ Y, V.setCells (W.heap.size) 0 [.slice ga d0.1.length gca, .slice gb d0.2.length gcb] = Y := ⟨_, rfl⟩
      have HYb : Hid (Y.heap[W.heap.size]? = some (.cells #[.slice ga d0.1.length gca, .slice gb d0.2.length gcb] 24 (0, 0))) := by rw [← hY]; exact sets_whole HRes.out rfl
      have HKY : Hid (Kept V Y (fun j => j = W.heap.size)) := by rw [← hY]; exact ksets (P := fun j => j = W.heap.size) rfl _ _ _
      have HoA : Hid (Own Y w.heap.size (.slice ga d0.1.length gca) d0.1) := (HFV.out.oa.lower Hlow.out).keep HKY.out (fun g hg e => by have := (HFV.out.oa.lo hg).1; have := Hup.out; omega)
      have HoB : Hid (Own Y w.heap.size (.slice gb d0.2.length gcb) d0.2) := (HFV.out.ob.lower Hlow.out).keep HKY.out (fun g hg e => by have := (HFV.out.ob.lo hg).1; have := Hup.out; omega)
      have HBY : Hid (Below w.heap.size w Y) := HBfin.out.trans (HKY.out.below HBfin.out.size (fun j hj e => by have := Hs1.out; omega))
      have Hrv : Hid (d0 = R) := Hr0.out
      go_wp2_with (first
        | (refine at_load 28 (.tmp 28) rfl ?_; refine load_mid 28 (.tmp 28) HX.out _ Try.underlying28 rfl info_wr rfl rfl rfl ?_)
        | (refine at_store 28 (.tmp 10) (.tmp 29) rfl ?_; refine store_rowL 28 (.tmp 10) (.tmp 29) HTh.out info_wr x.cs_one rfl rfl rfl rfl ?_)
        | (refine at_store 24 (.tmp 6) (.tmp 68) rfl ?_; refine store_rowL 24 (.tmp 6) (.tmp 68) (L := [.slice ga d0.1.length gca, .slice gb d0.2.length gcb]) HTr.out info_dk (by intro u hu; simp only [List.mem_cons, List.not_mem_nil, or_false] at hu; rcases hu with rfl | rfl <;> rfl) rfl rfl rfl rfl ?_)
        | fail)
      (try simp only [Exit.inBlock, Exit.then])
      try rw [hY]
      refine bodyPost_ret (v := .agg #[.slice ga d0.1.length gca, .slice gb d0.2.length gcb]) ?_ ?_ ?_
      · exact results_cell_row rfl _ _ (W.heap.size) 24 _ (0, 0) _ rfl HYb.out Try.underlying24 rfl info_dk
      · rfl
      · exact ⟨_, _, rfl, by rw [HRk.out, ← Hrv.out]; exact HoA.out, by rw [HRk.out, ← Hrv.out]; exact HoB.out, HBY.out⟩
    · have hl1 : ((left : Int) == 0) = false := by rw [beq_eq_false_iff_ne]; omega
      cases hfi : isF x.f with
      | false =>
        rw [hfi] at HIf
        have HP1 : Hid (put1 x d0 left = (d0, left)) := by show _ = _; unfold put1; rw [hfi]; rfl
        have HNx : Hid (ApS W2 bf l R S0 (k + 1) left V) := ⟨⟨ga, gca, gb, gcb, d0, HFV.out, by omega, by have := HDr.out; rw [HP1.out] at this; exact this⟩, HBV2.out⟩
        go_wp2_with (first
          | (refine at_load 28 (.tmp 28) rfl ?_; refine load_mid 28 (.tmp 28) HX.out _ Try.underlying28 rfl info_wr rfl rfl rfl ?_)
          | (refine at_store 28 (.tmp 10) (.tmp 29) rfl ?_; refine store_rowL 28 (.tmp 10) (.tmp 29) HTh.out info_wr x.cs_one rfl rfl rfl rfl ?_)
          | (go_at_call 14; refine (HIf.out _).mono ?_; rintro e w2 ⟨rfl, rfl⟩)
          | fail)
        exact ⟨⟨k + 1, left, by omega, by go_num, rfl, hlf, HNx.out⟩, by simp [intOf]; omega⟩
      | true =>
        rw [hfi] at HIf
        have hff : x.f = 0 ∨ x.f = 1 := by unfold isF at hfi; simpa using hfi
        obtain ⟨l1, hl1e⟩ : ∃ l1, (if x.st then left - 1 else left) = l1 := ⟨_, rfl⟩
        obtain ⟨d1, hd1e⟩ : ∃ d1, (if x.st then put x.f (fun _ => []) d0 else d0) = d1 := ⟨_, rfl⟩
        have HP1 : Hid (put1 x d0 left = (put x.f (· ++ x.bs.take (min l1 x.bs.length)) d1, l1 - min l1 x.bs.length)) := by
          show _ = _
          unfold put1
          rw [hfi, if_neg (by simp), if_neg hl0, hl1e, hd1e]
        have Hl1 : Hid ((if x.st then left - 1 else left) = l1) := hl1e
        have Hd1 : Hid ((if x.st then put x.f (fun _ => []) d0 else d0) = d1) := hd1e
        have hll : l1 ≤ left := by rw [← hl1e]; split <;> omega
        clear hl1e hd1e
        go_upto_if 37 with (first
          | (refine at_load 28 (.tmp 28) rfl ?_; refine load_mid 28 (.tmp 28) HX.out _ Try.underlying28 rfl info_wr rfl rfl rfl ?_)
          | (refine at_store 28 (.tmp 10) (.tmp 29) rfl ?_; refine store_rowL 28 (.tmp 10) (.tmp 29) HTh.out info_wr x.cs_one rfl rfl rfl rfl ?_)
          | (go_at_call 14; refine (HIf.out _).mono ?_; rintro e w2 ⟨rfl, rfl⟩)
          | fail)
        go_cut [7] (fun lf wx => lf = .int .i64 (l1 : Int) ∧ Hid (St1 W2 bf x wr.heap.size d1 wx))
        case first =>
          have z0 : V.cell? ⟨bf, 0, none⟩ = some (.slice ga d0.1.length gca) := blk_cell HFV.out.blk 0
          have z1 : V.cell? ⟨bf, 1, none⟩ = some (.slice gb d0.2.length gcb) := blk_cell HFV.out.blk 1
          have y0 : V.frozen? ⟨bf, 0, none⟩ = false := frozen_of_row V _ 0 _ _ HFV.out.blk
          have y1 : V.frozen? ⟨bf, 1, none⟩ = false := frozen_of_row V _ 1 _ _ HFV.out.blk
          have Hnb : Hid (wr.heap.size ≠ bf) := ty_ne HVb.out HFV.out.blk (by decide)
          have Hbb : Hid (W2.heap.size ≤ bf) := HFV.out.bb
          cases hst : x.st with
          | false =>
            rw [hst] at p1
            have H1 : Hid (left = l1) := by have := Hl1.out; rw [hst] at this; exact this
            have H2 : Hid (d0 = d1) := by have := Hd1.out; rw [hst] at this; exact this
            have HS1 : Hid (St1 W2 bf x wr.heap.size d1 V) := ⟨⟨ga, gca, gb, gcb, by rw [← H2.out]; exact HFV.out⟩, HVb.out, HBV2.out⟩
            go_wp2
            go_meet
            exact ⟨by rw [H1.out], HS1.out⟩
          | true =>
            rw [hst] at p1
            have H1 : Hid (((left : Int) - 1) = (l1 : Int)) := by have := Hl1.out; rw [hst] at this; simp only [if_true] at this; show _ = _; omega
            rcases hff with hff | hff
            · have H2 : Hid (([], d0.2) = d1) := by have := Hd1.out; rw [hst, hff] at this; exact this
              rw [hff] at p0
              obtain ⟨Y, hY⟩ : ∃ Y, V.setCell ⟨bf, 0, none⟩ (.slice none 0 0) = Y := ⟨_, rfl⟩
              have HS1 : Hid (St1 W2 bf x wr.heap.size d1 Y) := ⟨⟨none, 0, gb, gcb, by rw [← H2.out, ← hY]; exact HFV.out.emptyA⟩, by rw [← hY]; exact blk_set_ne HVb.out Hnb.out, by rw [← hY]; exact bset HBV2.out Hbb.out _ _⟩
              go_wp2
              go_meet
              exact ⟨by rw [← H1.out], HS1.out⟩
            · have H2 : Hid ((d0.1, []) = d1) := by have := Hd1.out; rw [hst, hff] at this; exact this
              rw [hff] at p0
              obtain ⟨Y, hY⟩ : ∃ Y, V.setCell ⟨bf, 1, none⟩ (.slice none 0 0) = Y := ⟨_, rfl⟩
              have HS1 : Hid (St1 W2 bf x wr.heap.size d1 Y) := ⟨⟨ga, gca, none, 0, by rw [← H2.out, ← hY]; exact HFV.out.emptyB⟩, by rw [← hY]; exact blk_set_ne HVb.out Hnb.out, by rw [← hY]; exact bset HBV2.out Hbb.out _ _⟩
              go_wp2
              go_meet
              exact ⟨by rw [← H1.out], HS1.out⟩
        case rest =>
        obtain ⟨rfl, HS1⟩ := hcut
        obtain ⟨⟨ga1, gca1, gb1, gcb1, hF1⟩, hblk1, hbel1⟩ := HS1.out
        have HF1 : Hid (Fs wc.drew W2.heap.size bf ga1 gca1 gb1 gcb1 d1) := hF1.still (Below.refl _ _).drew
        have HB1 : Hid (Below W2.heap.size W2 wc.drew) := hbel1.trans (Below.refl _ _).drew
        have HRx1 : Hid (Rd wc.drew x.ao x.n x.c x.bs) := HRx.out.still HB1.out
        have r0 : wc.cell? ⟨wr.heap.size, 0, none⟩ = some (.int .i64 x.f) := blk_cell hblk1 0
        have r2 : wc.cell? ⟨wr.heap.size, 2, none⟩ = some (.slice x.ao x.n x.c) := blk_cell hblk1 2
        have HbW : Hid (wc.drew.heap[wr.heap.size]? = some (.cells x.cs.toArray 28 (0, 0))) := ((Below.refl wc.heap.size wc).drew.block _ (lt_heap hblk1)).trans hblk1
        have hxl : x.bs.length = x.n := HRx.out.len
        have hxc := HRx.out.cap
        have hsz1 : siz d1 ≤ siz d0 := by
          rw [← Hd1.out]
          unfold siz put
          split
          · split <;> simp <;> omega
          · exact Nat.le_refl _
        obtain ⟨N, hN⟩ : ∃ N, min l1 x.n = N := ⟨_, rfl⟩
        have HP2 : Hid (put1 x d0 left = (put x.f (· ++ x.bs.take N) d1, l1 - N)) := by show _ = _; rw [HP1.out, hxl, hN]
        have hN1 : N ≤ x.n := by omega
        have hN2 : N ≤ l1 := by omega
        have hNi : min (l1 : Int) (x.n : Int) = (N : Int) := by rw [min_cast, hN]
        have HRt : Hid (Rd wc.drew x.ao N x.c (x.bs.take N)) := Rd.takeN HRx1.out hN1
        have htl : (x.bs.take N).length = N := by rw [List.length_take]; omega
        have Htl : Hid ((x.bs.take N).length = N) := htl
        have n1 : (0 : Int) ≤ (N : Int) := Int.natCast_nonneg _
        have n2 : (N : Int) ≤ (x.c : Int) := by omega
        have n3 : (N : Int) ≤ (l1 : Int) := by omega
        have Hsb : Hid (siz d1 + N + tot (l.drop (k + 1)) ≤ S0) := by show _ ≤ _; omega
        have Hsz4 : Hid (siz d1 ≤ 4194304) := by show _ ≤ _; omega
        have hNb : N ≤ 4194304 := by omega
        have HNm : Hid (min l1 x.n = N) := hN
        clear hF1 hblk1 hbel1 hxl hxc hsz1 hN htl hNi HP1 Hl1 Hd1 HS1 hsz
        go_upto_region 13 with (fail)
        go_cut [11] (fun n wx => n = .int .i64 (N : Int) ∧ wc = wx)
        case first =>
          go_wp2
          all_goals (go_meet; exact ⟨congrArg (Value.int .i64) (by have := HNm.out; omega), rfl⟩)
        case rest =>
        obtain ⟨rfl, rfl⟩ := hcut
        rcases hff with hff | hff
        · rw [hff] at r0 HP2
          have e0 : wc.drew.cell? ⟨bf, 0, none⟩ = some (.slice ga1 d1.1.length gca1) := blk_cell HF1.out.blk 0
          have HnW : Hid (¬ some wr.heap.size = (Value.slice ga1 d1.1.length gca1).ownBlock) := fun e => by
            obtain ⟨cur, hc⟩ := own_type HF1.out.oa e.symm
            exact ty_ne HbW.out hc (by decide) rfl
          have d0' := below_at (Below.refl _ _).drew r0
          have d2' := below_at (Below.refl _ _).drew r2
          go_wp2_with (fail)
          refine wp_region_held_drew (S := (fun w' => w'.cell? ⟨wr.heap.size, 0, none⟩ = some (.int .i64 0) ∧ w'.cell? ⟨wr.heap.size, 2, none⟩ = some (.slice x.ao x.n x.c))) (by kernel_rfl) ⟨d0', d2'⟩ (fun hHeld => ?_)
          simp only [Act.put, List.size_toArray, List.length_cons, List.length_nil, Nat.zero_add]
          refine wpAnyH_take (i := 0) (v := .pointer (some ⟨wr.heap.size, 0, none⟩)) rfl (by kernel_rfl) (by kernel_rfl) (by kernel_rfl) (fun _ _ _ h => h) (Or.inl ⟨by rfl, fun w' hS => by go_simp⟩) hHeld ?_
          simp only [Act.put, List.getElem_toArray, List.getElem_cons_zero, List.getElem_cons_succ, List.setIfInBounds_toArray, List.set_cons_zero, List.set_cons_succ]
          refine wpAnyH_take (i := 1) (v := .int .i64 0) rfl (by kernel_rfl) (by kernel_rfl) (by kernel_rfl) (fun _ _ _ h => h) (Or.inl ⟨by rfl, fun w' hS => by (obtain ⟨s0, s1⟩ := hS; go_simp)⟩) hHeld ?_
          simp only [Act.put, List.getElem_toArray, List.getElem_cons_zero, List.getElem_cons_succ, List.setIfInBounds_toArray, List.set_cons_zero, List.set_cons_succ]
          refine wpAnyH_take (i := 2) (v := .pointer (some ⟨wr.heap.size, 0, none⟩)) rfl (by kernel_rfl) (by kernel_rfl) (by kernel_rfl) (fun _ _ _ h => h) (Or.inl ⟨by rfl, fun w' hS => by go_simp⟩) hHeld ?_
          simp only [Act.put, List.getElem_toArray, List.getElem_cons_zero, List.getElem_cons_succ, List.setIfInBounds_toArray, List.set_cons_zero, List.set_cons_succ]
          refine wpAnyH_take (i := 3) (v := .int .i64 0) rfl (by kernel_rfl) (by kernel_rfl) (by kernel_rfl) (fun _ _ _ h => h) (Or.inl ⟨by rfl, fun w' hS => by (obtain ⟨s0, s1⟩ := hS; go_simp)⟩) hHeld ?_
          simp only [Act.put, List.getElem_toArray, List.getElem_cons_zero, List.getElem_cons_succ, List.setIfInBounds_toArray, List.set_cons_zero, List.set_cons_succ]
          refine wpAnyH_take (i := 4) (v := .pointer (some ⟨bf, 0, none⟩)) rfl (by kernel_rfl) (by kernel_rfl) (by kernel_rfl) (fun _ _ _ h => h) (Or.inl ⟨by rfl, fun w' hS => by go_simp⟩) hHeld ?_
          simp only [Act.put, List.getElem_toArray, List.getElem_cons_zero, List.getElem_cons_succ, List.setIfInBounds_toArray, List.set_cons_zero, List.set_cons_succ]
          refine wpAnyH_take (i := 6) (v := .pointer (some ⟨wr.heap.size, 2, none⟩)) rfl (by kernel_rfl) (by kernel_rfl) (by kernel_rfl) (fun _ _ _ h => h) (Or.inl ⟨by rfl, fun w' hS => by go_simp⟩) hHeld ?_
          simp only [Act.put, List.getElem_toArray, List.getElem_cons_zero, List.getElem_cons_succ, List.setIfInBounds_toArray, List.set_cons_zero, List.set_cons_succ]
          refine wpAnyH_take (i := 7) (v := .slice x.ao x.n x.c) rfl (by kernel_rfl) (by kernel_rfl) (by kernel_rfl) (fun _ _ _ h => h) (Or.inl ⟨by rfl, fun w' hS => by (obtain ⟨s0, s1⟩ := hS; go_simp)⟩) hHeld ?_
          simp only [Act.put, List.getElem_toArray, List.getElem_cons_zero, List.getElem_cons_succ, List.setIfInBounds_toArray, List.set_cons_zero, List.set_cons_succ]
          refine wpAnyH_take (i := 8) (v := .int .i64 (N : Int)) rfl (by kernel_rfl) (by kernel_rfl) (by kernel_rfl) (fun _ _ _ h => h) (Or.inl ⟨by rfl, fun w' hS => by go_simp⟩) hHeld ?_
          simp only [Act.put, List.getElem_toArray, List.getElem_cons_zero, List.getElem_cons_succ, List.setIfInBounds_toArray, List.set_cons_zero, List.set_cons_succ]
          refine wpAnyH_take (i := 9) (v := .slice x.ao N x.c) rfl (by kernel_rfl) (by kernel_rfl) (by kernel_rfl) (fun _ _ _ h => h) (Or.inl ⟨by rfl, fun w' hS => by go_simp⟩) hHeld ?_
          simp only [Act.put, List.getElem_toArray, List.getElem_cons_zero, List.getElem_cons_succ, List.setIfInBounds_toArray, List.set_cons_zero, List.set_cons_succ]
          refine wpAnyH_ready (rs := [5]) (by kernel_rfl) (by simp) ?_
          refine AllReadyH.cons rfl (fun K hK => ?_) AllReadyH.nil
          go_simp
          refine hK.out _ _ ⟨d0', d2'⟩ (fun hHeld => ?_)
          clear hK K
          refine wpAnyH_ready (rs := [10]) (by kernel_rfl) (by simp) ?_
          refine AllReadyH.cons rfl (fun K hK => ?_) AllReadyH.nil
          split
          · skip
            refine wp_app_b (.tmp 53) (.tmp 57) rfl W2.heap.size (.slice ga1 d1.1.length gca1) d1.1 (x.bs.take N) rfl HF1.out.oa x.ao N x.c rfl HRt.out (by have := Hsz4.out; unfold siz at this; omega) HB1.out.size ?_
            intro v2 G HO HG HA
            obtain ⟨a2, c2, rfl⟩ := own_shape HO.out
            obtain ⟨LL, hLL⟩ : ∃ LL, (d1.1 ++ x.bs.take N).length = LL := ⟨_, rfl⟩
            have HLL : Hid ((d1.1 ++ x.bs.take N).length = LL) := hLL
            rw [hLL]
            clear hLL
            have HKg : Hid (Kept wc.drew G (fun j => some j = (Value.slice ga1 d1.1.length gca1).ownBlock)) := Kept.ofGrown HG.out
            have g0 := kept_cell HKg.out HnW.out d0'
            have g2 := kept_cell HKg.out HnW.out d2'
            have HBg : Hid (Below W2.heap.size W2 G) := HB1.out.grown HG.out HB1.out.size (fun q hq => (HF1.out.oa.lo hq).1)
            have HgB := HKg.out.obj HF1.out.blk (fun e => HF1.out.na e.symm)
            have gz : G.frozen? ⟨bf, 0, none⟩ = false := frozen_of_row G _ 0 _ _ HgB
            have gc : G.cell? ⟨bf, 0, none⟩ = some (.slice ga1 d1.1.length gca1) := blk_cell HgB 0
            have Hbb : Hid (W2.heap.size ≤ bf) := HF1.out.bb
            have hnb : wr.heap.size ≠ bf := ty_ne HbW.out HF1.out.blk (by decide)
            refine hK.out _ _ ⟨g0, g2⟩ (fun hHeld => ?_)
            clear hK K
            refine wpAnyH_take (i := 11) (v := .pointer (some ⟨bf, 0, none⟩)) rfl (by kernel_rfl) (by kernel_rfl) (by kernel_rfl) (fun _ _ _ h => h) (Or.inl ⟨by rfl, fun w' hS => by go_simp⟩) hHeld ?_
            simp only [Act.put, List.getElem_toArray, List.getElem_cons_zero, List.getElem_cons_succ, List.setIfInBounds_toArray, List.set_cons_zero, List.set_cons_succ]
            refine wpAnyH_ready (rs := [12]) (by kernel_rfl) (by simp) ?_
            refine AllReadyH.cons rfl (fun K hK => ?_) AllReadyH.nil
            obtain ⟨Y, hY⟩ : ∃ Y, G.setCell ⟨bf, 0, none⟩ (.slice a2 LL c2) = Y := ⟨_, rfl⟩
            have HKY : Hid (Kept G Y (fun j => j = bf)) := by rw [← hY]; exact kset (P := fun j => j = bf) _ _ _ _ rfl
            have h0' := kept_cell HKY.out hnb g0
            have h2' := kept_cell HKY.out hnb g2
            have HNx : Hid (ApS W2 bf l R S0 (k + 1) (l1 - N) Y) := by
              refine ⟨⟨a2, c2, gb1, gcb1, (d1.1 ++ x.bs.take N, d1.2), by rw [← hY, ← HLL.out]; exact HF1.out.putA HO.out HG.out HA.out HRt.out.by_, ?_, ?_⟩, HBg.out.trans (HKY.out.below HBg.out.size (fun j hj e => by have := Hbb.out; omega))⟩
              · have h1 := Hsb.out
                have h2 := Htl.out
                unfold siz at h1 ⊢
                simp only [List.length_append]
                omega
              · have := HDr.out
                rw [HP2.out] at this
                exact this
            go_simp
            try rw [hY]
            refine hK.out _ _ ⟨h0', h2'⟩ (fun hHeld => ?_)
            clear hK K
            refine wpAnyH_done (by kernel_rfl) ?_ _
            clear hHeld hY g0 g2 gz gc h0' h2' HgB hnb e0 d0' d2' r0 r2
            go_wp2_with (fail)
            exact ⟨⟨k + 1, l1 - N, by omega, by go_num, by rw [Int.ofNat_sub hN2], by omega, HNx.out⟩, by simp [intOf]; omega⟩
          · rename_i hne2
            exact absurd rfl hne2
        · rw [hff] at r0 HP2
          have e0 : wc.drew.cell? ⟨bf, 1, none⟩ = some (.slice gb1 d1.2.length gcb1) := blk_cell HF1.out.blk 1
          have HnW : Hid (¬ some wr.heap.size = (Value.slice gb1 d1.2.length gcb1).ownBlock) := fun e => by
            obtain ⟨cur, hc⟩ := own_type HF1.out.ob e.symm
            exact ty_ne HbW.out hc (by decide) rfl
          have d0' := below_at (Below.refl _ _).drew r0
          have d2' := below_at (Below.refl _ _).drew r2
          go_wp2_with (fail)
          refine wp_region_held_drew (S := (fun w' => w'.cell? ⟨wr.heap.size, 0, none⟩ = some (.int .i64 1) ∧ w'.cell? ⟨wr.heap.size, 2, none⟩ = some (.slice x.ao x.n x.c))) (by kernel_rfl) ⟨d0', d2'⟩ (fun hHeld => ?_)
          simp only [Act.put, List.size_toArray, List.length_cons, List.length_nil, Nat.zero_add]
          refine wpAnyH_take (i := 0) (v := .pointer (some ⟨wr.heap.size, 0, none⟩)) rfl (by kernel_rfl) (by kernel_rfl) (by kernel_rfl) (fun _ _ _ h => h) (Or.inl ⟨by rfl, fun w' hS => by go_simp⟩) hHeld ?_
          simp only [Act.put, List.getElem_toArray, List.getElem_cons_zero, List.getElem_cons_succ, List.setIfInBounds_toArray, List.set_cons_zero, List.set_cons_succ]
          refine wpAnyH_take (i := 1) (v := .int .i64 1) rfl (by kernel_rfl) (by kernel_rfl) (by kernel_rfl) (fun _ _ _ h => h) (Or.inl ⟨by rfl, fun w' hS => by (obtain ⟨s0, s1⟩ := hS; go_simp)⟩) hHeld ?_
          simp only [Act.put, List.getElem_toArray, List.getElem_cons_zero, List.getElem_cons_succ, List.setIfInBounds_toArray, List.set_cons_zero, List.set_cons_succ]
          refine wpAnyH_take (i := 2) (v := .pointer (some ⟨wr.heap.size, 0, none⟩)) rfl (by kernel_rfl) (by kernel_rfl) (by kernel_rfl) (fun _ _ _ h => h) (Or.inl ⟨by rfl, fun w' hS => by go_simp⟩) hHeld ?_
          simp only [Act.put, List.getElem_toArray, List.getElem_cons_zero, List.getElem_cons_succ, List.setIfInBounds_toArray, List.set_cons_zero, List.set_cons_succ]
          refine wpAnyH_take (i := 3) (v := .int .i64 1) rfl (by kernel_rfl) (by kernel_rfl) (by kernel_rfl) (fun _ _ _ h => h) (Or.inl ⟨by rfl, fun w' hS => by (obtain ⟨s0, s1⟩ := hS; go_simp)⟩) hHeld ?_
          simp only [Act.put, List.getElem_toArray, List.getElem_cons_zero, List.getElem_cons_succ, List.setIfInBounds_toArray, List.set_cons_zero, List.set_cons_succ]
          refine wpAnyH_take (i := 4) (v := .pointer (some ⟨bf, 1, none⟩)) rfl (by kernel_rfl) (by kernel_rfl) (by kernel_rfl) (fun _ _ _ h => h) (Or.inl ⟨by rfl, fun w' hS => by go_simp⟩) hHeld ?_
          simp only [Act.put, List.getElem_toArray, List.getElem_cons_zero, List.getElem_cons_succ, List.setIfInBounds_toArray, List.set_cons_zero, List.set_cons_succ]
          refine wpAnyH_take (i := 6) (v := .pointer (some ⟨wr.heap.size, 2, none⟩)) rfl (by kernel_rfl) (by kernel_rfl) (by kernel_rfl) (fun _ _ _ h => h) (Or.inl ⟨by rfl, fun w' hS => by go_simp⟩) hHeld ?_
          simp only [Act.put, List.getElem_toArray, List.getElem_cons_zero, List.getElem_cons_succ, List.setIfInBounds_toArray, List.set_cons_zero, List.set_cons_succ]
          refine wpAnyH_take (i := 7) (v := .slice x.ao x.n x.c) rfl (by kernel_rfl) (by kernel_rfl) (by kernel_rfl) (fun _ _ _ h => h) (Or.inl ⟨by rfl, fun w' hS => by (obtain ⟨s0, s1⟩ := hS; go_simp)⟩) hHeld ?_
          simp only [Act.put, List.getElem_toArray, List.getElem_cons_zero, List.getElem_cons_succ, List.setIfInBounds_toArray, List.set_cons_zero, List.set_cons_succ]
          refine wpAnyH_take (i := 8) (v := .int .i64 (N : Int)) rfl (by kernel_rfl) (by kernel_rfl) (by kernel_rfl) (fun _ _ _ h => h) (Or.inl ⟨by rfl, fun w' hS => by go_simp⟩) hHeld ?_
          simp only [Act.put, List.getElem_toArray, List.getElem_cons_zero, List.getElem_cons_succ, List.setIfInBounds_toArray, List.set_cons_zero, List.set_cons_succ]
          refine wpAnyH_take (i := 9) (v := .slice x.ao N x.c) rfl (by kernel_rfl) (by kernel_rfl) (by kernel_rfl) (fun _ _ _ h => h) (Or.inl ⟨by rfl, fun w' hS => by go_simp⟩) hHeld ?_
          simp only [Act.put, List.getElem_toArray, List.getElem_cons_zero, List.getElem_cons_succ, List.setIfInBounds_toArray, List.set_cons_zero, List.set_cons_succ]
          refine wpAnyH_ready (rs := [5]) (by kernel_rfl) (by simp) ?_
          refine AllReadyH.cons rfl (fun K hK => ?_) AllReadyH.nil
          go_simp
          refine hK.out _ _ ⟨d0', d2'⟩ (fun hHeld => ?_)
          clear hK K
          refine wpAnyH_ready (rs := [10]) (by kernel_rfl) (by simp) ?_
          refine AllReadyH.cons rfl (fun K hK => ?_) AllReadyH.nil
          split
          · skip
            refine wp_app_b (.tmp 53) (.tmp 57) rfl W2.heap.size (.slice gb1 d1.2.length gcb1) d1.2 (x.bs.take N) rfl HF1.out.ob x.ao N x.c rfl HRt.out (by have := Hsz4.out; unfold siz at this; omega) HB1.out.size ?_
            intro v2 G HO HG HA
            obtain ⟨a2, c2, rfl⟩ := own_shape HO.out
            obtain ⟨LL, hLL⟩ : ∃ LL, (d1.2 ++ x.bs.take N).length = LL := ⟨_, rfl⟩
            have HLL : Hid ((d1.2 ++ x.bs.take N).length = LL) := hLL
            rw [hLL]
            clear hLL
            have HKg : Hid (Kept wc.drew G (fun j => some j = (Value.slice gb1 d1.2.length gcb1).ownBlock)) := Kept.ofGrown HG.out
            have g0 := kept_cell HKg.out HnW.out d0'
            have g2 := kept_cell HKg.out HnW.out d2'
            have HBg : Hid (Below W2.heap.size W2 G) := HB1.out.grown HG.out HB1.out.size (fun q hq => (HF1.out.ob.lo hq).1)
            have HgB := HKg.out.obj HF1.out.blk (fun e => HF1.out.nb e.symm)
            have gz : G.frozen? ⟨bf, 1, none⟩ = false := frozen_of_row G _ 1 _ _ HgB
            have gc : G.cell? ⟨bf, 1, none⟩ = some (.slice gb1 d1.2.length gcb1) := blk_cell HgB 1
            have Hbb : Hid (W2.heap.size ≤ bf) := HF1.out.bb
            have hnb : wr.heap.size ≠ bf := ty_ne HbW.out HF1.out.blk (by decide)
            refine hK.out _ _ ⟨g0, g2⟩ (fun hHeld => ?_)
            clear hK K
            refine wpAnyH_take (i := 11) (v := .pointer (some ⟨bf, 1, none⟩)) rfl (by kernel_rfl) (by kernel_rfl) (by kernel_rfl) (fun _ _ _ h => h) (Or.inl ⟨by rfl, fun w' hS => by go_simp⟩) hHeld ?_
            simp only [Act.put, List.getElem_toArray, List.getElem_cons_zero, List.getElem_cons_succ, List.setIfInBounds_toArray, List.set_cons_zero, List.set_cons_succ]
            refine wpAnyH_ready (rs := [12]) (by kernel_rfl) (by simp) ?_
            refine AllReadyH.cons rfl (fun K hK => ?_) AllReadyH.nil
            obtain ⟨Y, hY⟩ : ∃ Y, G.setCell ⟨bf, 1, none⟩ (.slice a2 LL c2) = Y := ⟨_, rfl⟩
            have HKY : Hid (Kept G Y (fun j => j = bf)) := by rw [← hY]; exact kset (P := fun j => j = bf) _ _ _ _ rfl
            have h0' := kept_cell HKY.out hnb g0
            have h2' := kept_cell HKY.out hnb g2
            have HNx : Hid (ApS W2 bf l R S0 (k + 1) (l1 - N) Y) := by
              refine ⟨⟨ga1, gca1, a2, c2, (d1.1, d1.2 ++ x.bs.take N), by rw [← hY, ← HLL.out]; exact HF1.out.putB HO.out HG.out HA.out HRt.out.by_, ?_, ?_⟩, HBg.out.trans (HKY.out.below HBg.out.size (fun j hj e => by have := Hbb.out; omega))⟩
              · have h1 := Hsb.out
                have h2 := Htl.out
                unfold siz at h1 ⊢
                simp only [List.length_append]
                omega
              · have := HDr.out
                rw [HP2.out] at this
                exact this
            go_simp
            try rw [hY]
            refine hK.out _ _ ⟨h0', h2'⟩ (fun hHeld => ?_)
            clear hK K
            refine wpAnyH_done (by kernel_rfl) ?_ _
            clear hHeld hY g0 g2 gz gc h0' h2' HgB hnb e0 d0' d2' r0 r2
            go_wp2_with (fail)
            exact ⟨⟨k + 1, l1 - N, by omega, by go_num, by rw [Int.ofNat_sub hN2], by omega, HNx.out⟩, by simp [intOf]; omega⟩
          · rename_i hne2
            exact absurd rfl hne2
  · obtain rfl : k = m := by omega
    have Hr0 : Hid (d0 = R) := by
      have := Hap.out
      rw [List.drop_of_length_le (by rw [Hll.out]; exact Nat.le_refl _)] at this
      exact this
    have HBfin : Hid (Below w.heap.size w wr) := bstep HBw2.out HBr.out
    have HRes : Hid (wr.heap[W.heap.size]? = some (.cells #[.slice none 0 0, .slice none 0 0] 24 (0, 0))) := (HBr.out.block _ (lt_heap HRes2.out)).trans HRes2.out
    have y0 : wr.cell? ⟨bf, 0, none⟩ = some (.slice ga d0.1.length gca) := blk_cell HFr.out.blk 0
    have y1 : wr.cell? ⟨bf, 1, none⟩ = some (.slice gb d0.2.length gcb) := blk_cell HFr.out.blk 1
    have HTr : Hid (wr.there (W.heap.size) 0 2) := blk_there HRes.out rfl
    obtain ⟨Y, hY⟩ : ∃ Y, wr.setCells (W.heap.size) 0 [.slice ga d0.1.length gca, .slice gb d0.2.length gcb] = Y := ⟨_, rfl⟩
    have HYb : Hid (Y.heap[W.heap.size]? = some (.cells #[.slice ga d0.1.length gca, .slice gb d0.2.length gcb] 24 (0, 0))) := by rw [← hY]; exact sets_whole HRes.out rfl
    have HKY : Hid (Kept wr Y (fun j => j = W.heap.size)) := by rw [← hY]; exact ksets (P := fun j => j = W.heap.size) rfl _ _ _
    have HoA : Hid (Own Y w.heap.size (.slice ga d0.1.length gca) d0.1) := (HFr.out.oa.lower Hlow.out).keep HKY.out (fun g hg e => by have := (HFr.out.oa.lo hg).1; have := Hup.out; omega)
    have HoB : Hid (Own Y w.heap.size (.slice gb d0.2.length gcb) d0.2) := (HFr.out.ob.lower Hlow.out).keep HKY.out (fun g hg e => by have := (HFr.out.ob.lo hg).1; have := Hup.out; omega)
    have HBY : Hid (Below w.heap.size w Y) := HBfin.out.trans (HKY.out.below HBfin.out.size (fun j hj e => by have := Hs1.out; omega))
    have Hrv : Hid (d0 = R) := Hr0.out
    go_wp2_with (first
      | (refine at_store 24 (.tmp 6) (.tmp 68) rfl ?_; refine store_rowL 24 (.tmp 6) (.tmp 68) (L := [.slice ga d0.1.length gca, .slice gb d0.2.length gcb]) HTr.out info_dk (by intro u hu; simp only [List.mem_cons, List.not_mem_nil, or_false] at hu; rcases hu with rfl | rfl <;> rfl) rfl rfl rfl rfl ?_)
      | fail)
    (try simp only [Exit.inBlock, Exit.then])
    try rw [hY]
    refine bodyPost_ret (v := .agg #[.slice ga d0.1.length gca, .slice gb d0.2.length gcb]) ?_ ?_ ?_
    · exact results_cell_row rfl _ _ (W.heap.size) 24 _ (0, 0) _ rfl HYb.out Try.underlying24 rfl info_dk
    · rfl
    · exact ⟨_, _, rfl, by rw [HRk.out, ← Hrv.out]; exact HoA.out, by rw [HRk.out, ← Hrv.out]; exact HoB.out, HBY.out⟩
end
end Go.Proofs.Ytmkopbbbonggdaa.Jn
